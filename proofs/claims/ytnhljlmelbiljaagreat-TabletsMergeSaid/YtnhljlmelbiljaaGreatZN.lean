/- Texts of lower layers, as one. -/
import Derived.Test.YtnhljlmelbiljaaGreatZK
import Derived.Test.YtnhljlmelbiljaaGreatZG
import Derived.Deep.RegionHeld3
import Derived.Deep.RegionLaw
/- Layer 15: a page that took a cell, in a memory. -/
namespace Go.Proofs.YtnhljlmelbiljaaGreat
set_option linter.unusedVariables false
set_option linter.unusedSimpArgs false
open Go Go.RowKit

theorem cls_take15 : ∀ (l : List M.Cl) (i : Nat), (cls l).take (i * 3) = cls (l.take i)
  | [], i => by simp [cls]
  | x :: t, 0 => by simp [cls]
  | x :: t, i + 1 => by
    have ih := cls_take15 t i
    show (cls ([x] ++ t)).take ((i + 1) * 3) = cls ([x] ++ t.take i)
    rw [cls_append, cls_append, ← ih]
    have hl : (cls [x]).length = 3 := rfl
    rw [show (i + 1) * 3 = (cls [x]).length + i * 3 from by rw [hl]; omega, List.take_append, List.take_of_length_le (Nat.le_add_right _ _), Nat.add_sub_cancel_left]
theorem cls_drop15 : ∀ (l : List M.Cl) (i : Nat), (cls l).drop (i * 3) = cls (l.drop i)
  | [], i => by simp [cls]
  | x :: t, 0 => by simp [cls]
  | x :: t, i + 1 => by
    have ih := cls_drop15 t i
    show (cls ([x] ++ t)).drop ((i + 1) * 3) = cls (t.drop i)
    rw [cls_append, ← ih]
    have hl : (cls [x]).length = 3 := rfl
    rw [show (i + 1) * 3 = (cls [x]).length + i * 3 from by rw [hl]; omega, List.drop_append]
    simp [hl]
theorem cls_insV15 (l : List M.Cl) (c : M.Cl) (i : Nat) : insV (cls l) (i * 3) (clL c) = cls (l.take i ++ c :: l.drop i) := by
  rw [insV, cls_take15, cls_drop15, show l.take i ++ c :: l.drop i = l.take i ++ [c] ++ l.drop i from by simp, cls_append, cls_append]
  rfl
theorem ownsRow_set15 {w : World} {B : Nat} {e : TypeId} {g n cap : Nat} {xs : List Value} (h : w.ownsRow B e 1 (.slice (some ⟨g, 0, none⟩) n cap) n xs) (j : Nat) (v : Value) : (w.setCell ⟨g, j, none⟩ v).ownsRow B e 1 (.slice (some ⟨g, 0, none⟩) n cap) n (xs.set j v) := by
  obtain ⟨cur, hg, hcs, hct, hnc, hcm, hB⟩ := setRow_own15 h
  have hr : RowIn cur e w g := hg
  refine ⟨by rw [List.length_set]; exact h.1, .inr ⟨g, cap, cur.setIfInBounds j v, rfl, hB, hr.set j v, hnc, hcm, by simpa using hcs, ?_⟩⟩
  rw [← hct, Array.toList_setIfInBounds, List.take_set]
/-- A page and what it became by one more cell. -/
def RepPg (B : Nat) (w w2 : World) (p p' : M.Pg) : Prop :=
  (p.l.length < p.k ∧ p'.q = p.q ∧ p'.k = p.k ∧ p'.l.length ≤ p'.k ∧ p'.o = 0 ∧ w2.ownsRow B 38 3 (pgV p') p'.l.length (cls p'.l) ∧ w.grownBy w2 (some p.q)) ∨
  (p'.q = w.heap.size ∧ p'.o = 0 ∧ w2.ownsRow w.heap.size 38 3 (pgV p') p'.l.length (cls p'.l) ∧ Below w.heap.size w w2)
/-- Blocks that a memory may write. -/
def WrS (b : Nat) (pa : Option Addr) (Ps : List M.Pg) (k : Nat) : Prop := k = b ∨ (∃ o, pa = some ⟨k, o, none⟩) ∨ ∃ p, p ∈ Ps ∧ p.l.length ≠ p.k ∧ p.q = k
/-- All blocks of a memory. -/
def FtS (b : Nat) (pa : Option Addr) (Ps : List M.Pg) (k : Nat) : Prop := k = b ∨ (∃ o, pa = some ⟨k, o, none⟩) ∨ ∃ p, p ∈ Ps ∧ p.q = k
/-- What a memory may write, and has, it had, or it is new. -/
def Grw (b : Nat) (pa : Option Addr) (Ps : List M.Pg) (w : World) (pa' : Option Addr) (Ps' : List M.Pg) : Prop := (∀ k, WrS b pa' Ps' k → WrS b pa Ps k ∨ w.heap.size ≤ k) ∧ (∀ k, FtS b pa' Ps' k → FtS b pa Ps k ∨ w.heap.size ≤ k)
theorem Grw.refl (b : Nat) (pa : Option Addr) (Ps : List M.Pg) (w : World) : Grw b pa Ps w pa Ps := ⟨fun _ h => .inl h, fun _ h => .inl h⟩
theorem Grw.mono {b : Nat} {pa pa' : Option Addr} {Ps Ps' : List M.Pg} {w w1 : World} (h : Grw b pa Ps w1 pa' Ps') (hs : w.heap.size ≤ w1.heap.size) : Grw b pa Ps w pa' Ps' := ⟨fun k hk => (h.1 k hk).imp_right (fun q => Nat.le_trans hs q), fun k hk => (h.2 k hk).imp_right (fun q => Nat.le_trans hs q)⟩
theorem Grw.trans {b : Nat} {pa0 pa pa' : Option Addr} {Ps0 Ps Ps' : List M.Pg} {w w1 : World} (h : Grw b pa0 Ps0 w pa Ps) (k : Grw b pa Ps w1 pa' Ps') (hs : w.heap.size ≤ w1.heap.size) : Grw b pa0 Ps0 w pa' Ps' := ⟨fun i hi => by
  rcases k.1 i hi with q | q
  · exact h.1 i q
  · exact .inr (Nat.le_trans hs q), fun i hi => by
  rcases k.2 i hi with q | q
  · exact h.2 i q
  · exact .inr (Nat.le_trans hs q)⟩
theorem pgCl_own {B : Nat} {w : World} {p : M.Pg} (h : w.ownsRow B 38 3 (pgV p) p.l.length (cls p.l)) (ho : p.o = 0) : PgCl w p := fun j hj => by
  have hc := clsAt_own (ao := some ⟨p.q, p.o, none⟩) (cap := p.k) h rfl
  obtain ⟨g, off, e, hk⟩ := hc (fun e => by rw [e] at hj; simp at hj)
  injection e with e
  injection e with e1 e2
  subst e1; rw [e2]; exact hk j hj
theorem pgOwn_row {B : Nat} {w : World} {p : M.Pg} (h : w.ownsRow B 38 3 (pgV p) p.l.length (cls p.l)) (hn : 0 < p.l.length) : B ≤ p.q ∧ p.q < w.heap.size ∧ (∃ C, RowIn C 38 w p.q) ∧ p.l.length ≤ p.k := by
  rcases h.2 with ⟨_, e⟩ | ⟨g, cap, cur, e, hB, hg, hc, _⟩
  · omega
  · unfold pgV at e
    injection e with e1 e2 e3
    injection e1 with e1
    injection e1 with e1
    rw [e1, e3]
    exact ⟨hB, (Array.getElem?_eq_some_iff.1 hg).1, ⟨cur, hg⟩, hc⟩
section
variable {B b g pc : Nat} {Ps : List M.Pg} {L : List M.Cl} {w w2 : World} {p p' : M.Pg}
theorem RepPg.only (h : RepPg B w w2 p p') : OnlyS (fun k => p.l.length ≠ p.k ∧ p.q = k) w w2 := by
  rcases h with ⟨h1, h2, _, _, _, _, hg⟩ | ⟨_, _, _, hb⟩
  · exact onlyS_grown hg (fun k e => by cases e; exact ⟨by omega, rfl⟩)
  · exact onlyS_below hb
theorem RepPg.own (h : RepPg B w w2 p p') (hB : B ≤ w.heap.size) : w2.ownsRow B 38 3 (pgV p') p'.l.length (cls p'.l) ∧ p'.o = 0 := by
  rcases h with ⟨_, _, _, _, ho, hw, _⟩ | ⟨_, ho, hw, _⟩
  · exact ⟨hw, ho⟩
  · exact ⟨ownP_mono hw hB, ho⟩
/-- Pages apart, where one was put in another one's place. -/
theorem pgsAp_set (hap : PgsAp Ps) (hblk : ∀ p, p ∈ Ps → PgBlk B w p) {a : Nat} (ha : a < Ps.length) (h : RepPg B w w2 (Ps.getD a M.pg0) p') : PgsAp (Ps.set a p') := fun i j hi hj hij => by
  rw [List.length_set] at hi hj
  have gi : ∀ k, k < Ps.length → (Ps.set a p').getD k M.pg0 = if a = k then p' else Ps.getD k M.pg0 := fun k hk => by
    simp only [List.getD, List.getElem?_set]
    by_cases e : a = k
    · subst e; simp [hk]
    · simp [e]
  rw [gi i hi, gi j hj]
  have hlt : ∀ k, k < Ps.length → (Ps.getD k M.pg0).q < w.heap.size := fun k hk => by
    obtain ⟨_, ⟨C, hC⟩, _⟩ := hblk _ (M.getD_memP hk)
    exact hC.lt
  by_cases ei : a = i
  · subst ei
    rw [if_pos rfl, if_neg hij]
    intro hn
    rcases h with ⟨h1, h2, h3, h4, _⟩ | ⟨h1, _⟩
    · rw [h2]
      exact hap a j ha hj hij (by omega)
    · rw [h1]
      have := hlt j hj
      omega
  · rw [if_neg ei]
    by_cases ej : a = j
    · subst ej
      rw [if_pos rfl]
      intro hn
      rcases h with ⟨h1, h2, _⟩ | ⟨h1, _⟩
      · rw [h2]
        exact hap i a hi ha hij hn
      · rw [h1]
        have := hlt i hi
        omega
    · rw [if_neg ej]
      exact hap i j hi hj hij
theorem flat_set15 {a : Nat} (ha : a < Ps.length) : M.flat (Ps.set a p') = M.flat (Ps.take a) ++ p'.l ++ M.flat (Ps.drop (a + 1)) := by
  rw [List.set_eq_take_append_cons_drop, if_pos ha, M.flat_append, M.flat_cons, List.append_assoc]
/-- The page, put where it belongs; one more is counted. -/
theorem MemAt.put {L' : List M.Cl} (h : MemAt B b (some ⟨g, 0, none⟩) pc Ps L w) {a : Nat} (ha : a < Ps.length) (hr : RepPg B w w2 (Ps.getD a M.pg0) p') (hB : B ≤ w.heap.size) (h0 : 0 < p'.l.length ∧ p'.l.length ≤ 64) (hf : M.flat (Ps.set a p') = L') (hst : M.Stt L') (hl : L'.length = L.length + 1) (hn : L'.length ≤ 50000) (hok : ∀ c, c ∈ L' → ClOk c ∧ M.mayC c = true) :
    MemAt B b (some ⟨g, 0, none⟩) pc (Ps.set a p') L' ((w2.setCell ⟨g, a, none⟩ (pgV p')).setCell ⟨b, 1, none⟩ (.int .i64 ((L.length : Int) + 1))) ∧
    OnlyS (WrS b (some ⟨g, 0, none⟩) Ps) w ((w2.setCell ⟨g, a, none⟩ (pgV p')).setCell ⟨b, 1, none⟩ (.int .i64 ((L.length : Int) + 1))) ∧ Grw b (some ⟨g, 0, none⟩) Ps w (some ⟨g, 0, none⟩) (Ps.set a p') := by
  have ho := hr.only
  have hmem := M.getD_memP ha
  have hgb : g ≠ b := row_apart h.row h.pgs.row (by decide) g rfl
  have hCq : ∀ q, q ∈ Ps → q.q ≠ b ∧ q.q ≠ g := fun q hq => by
    obtain ⟨_, ⟨C, hC⟩, _⟩ := h.blk q hq
    exact ⟨fun e => rowIn_ne hC h.row (by decide) e, fun e => row_apart hC h.pgs.row (by decide) g rfl e.symm⟩
  have hrow2 : RowIn #[.slice (some ⟨g, 0, none⟩) Ps.length pc, .int .i64 L.length, .bool true] 105 w2 b := ho.row h.row (fun e => (hCq _ hmem).1 e.2)
  have hpg2 : w2.ownsRow B 109 1 (.slice (some ⟨g, 0, none⟩) Ps.length pc) Ps.length (pgsV Ps) := ho.own h.pgs.row (fun q e hq => by cases e; exact (hCq _ hmem).2 hq.2)
  obtain ⟨hown, hpo⟩ := hr.own hB
  obtain ⟨hb1, hb2, ⟨C', hC'⟩, hlk⟩ := pgOwn_row hown h0.1
  have hqb : p'.q ≠ b := fun e => rowIn_ne hC' hrow2 (by decide) e
  have hqg : p'.q ≠ g := fun e => row_apart hC' hpg2 (by decide) g rfl e.symm
  -- a page's cells, over the two stores
  have keepC : ∀ q : M.Pg, q.q ≠ b → q.q ≠ g → PgCl w2 q → PgCl ((w2.setCell ⟨g, a, none⟩ (pgV p')).setCell ⟨b, 1, none⟩ (.int .i64 ((L.length : Int) + 1))) q := fun q h1 h2 hc j hj =>
    clOff_blk15 (hc j hj) (by rw [Below.heap_setCell _ _ _ _ h1, Below.heap_setCell _ _ _ _ h2])
  have keepR : ∀ (q : Nat) (C : Array Value), q ≠ b → q ≠ g → RowIn C 38 w2 q → RowIn C 38 ((w2.setCell ⟨g, a, none⟩ (pgV p')).setCell ⟨b, 1, none⟩ (.int .i64 ((L.length : Int) + 1))) q := fun q C h1 h2 hc => (hc.other h2 _ _).other h1 _ _
  have keepO : ∀ q : M.Pg, q.q ≠ b → q.q ≠ g → w2.ownsRow B 38 3 (pgV q) q.l.length (cls q.l) → ((w2.setCell ⟨g, a, none⟩ (pgV p')).setCell ⟨b, 1, none⟩ (.int .i64 ((L.length : Int) + 1))).ownsRow B 38 3 (pgV q) q.l.length (cls q.l) := fun q h1 h2 hc =>
    ownsRow_setCell_other (a := ⟨b, 1, none⟩) (ownsRow_setCell_other (a := ⟨g, a, none⟩) hc (fun e => by injection e with e; exact h2 e) _) (fun e => by injection e with e; exact h1 e) _
  -- other pages, from w to w2
  have other : ∀ i, i < Ps.length → i ≠ a → ¬ ((Ps.getD a M.pg0).l.length ≠ (Ps.getD a M.pg0).k ∧ (Ps.getD a M.pg0).q = (Ps.getD i M.pg0).q) := fun i hi hia hh => h.ap a i ha hi (fun e => hia e.symm) hh.1 hh.2
  have hset : ∀ q, q ∈ Ps.set a p' → q = p' ∨ ∃ i, i < Ps.length ∧ i ≠ a ∧ Ps.getD i M.pg0 = q := fun q hq => by
    obtain ⟨i, hi, e⟩ := List.getElem_of_mem hq
    rw [List.length_set] at hi
    rw [List.getElem_set] at e
    split at e
    · exact .inl e.symm
    · rename_i hne
      exact .inr ⟨i, hi, fun e' => hne e'.symm, by rw [M.gD15 _ i M.pg0 hi]; exact e⟩
  refine ⟨⟨?_, ⟨?_, fun q hq => ?_⟩, hf, hst, fun q hq => ?_, fun q hq => ?_, pgsAp_set h.ap h.blk ha hr, h.bb, hn, hok⟩, ?_, ⟨fun k hk => ?_, fun k hk => ?_⟩⟩
  · rw [List.length_set, hl]
    have := (hrow2.other (c := g) (fun e => hgb e.symm) a (pgV p')).set 1 (.int .i64 ((L.length : Int) + 1))
    simpa using this
  · rw [List.length_set]
    have h1 := ownsRow_set15 hpg2 a (pgV p')
    have h2 := ownsRow_setCell_other (a := ⟨b, 1, none⟩) h1 (fun e => by injection e with e; exact hgb e) (.int .i64 ((L.length : Int) + 1))
    rwa [show (pgsV Ps).set a (pgV p') = pgsV (Ps.set a p') from by simp [pgsV, List.map_set]] at h2
  · rcases hset q hq with rfl | ⟨i, hi, hia, rfl⟩
    · exact keepC _ hqb hqg (pgCl_own hown hpo)
    · have hm := M.getD_memP hi
      obtain ⟨_, ⟨C, hC⟩, _⟩ := h.blk _ hm
      refine keepC _ (hCq _ hm).1 (hCq _ hm).2 (fun j hj => clOff_blk15 (h.pgs.each _ hm j hj) (ho.block _ hC.lt (other i hi hia)))
  · rcases hset q hq with rfl | ⟨i, hi, hia, rfl⟩
    · refine ⟨hb1, ⟨C', keepR _ _ hqb hqg hC'⟩, ?_⟩
      rcases Nat.lt_or_ge q.l.length q.k with hlt | hge
      · exact .inr ⟨hpo, hlt, keepO _ hqb hqg hown⟩
      · exact .inl (by omega)
    · have hm := M.getD_memP hi
      obtain ⟨k1, ⟨C, hC⟩, k3⟩ := h.blk _ hm
      refine ⟨k1, ⟨C, keepR _ _ (hCq _ hm).1 (hCq _ hm).2 (ho.row hC (other i hi hia))⟩, ?_⟩
      rcases k3 with k3 | ⟨x1, x2, x3⟩
      · exact .inl k3
      · exact .inr ⟨x1, x2, keepO _ (hCq _ hm).1 (hCq _ hm).2 (ho.own x3 (fun q e hq => by injection e with e; subst e; exact other i hi hia hq))⟩
  · rcases hset q hq with rfl | ⟨i, hi, hia, rfl⟩
    · exact h0
    · exact h.sm _ (M.getD_memP hi)
  · refine OnlyS.trans (ho.mono (fun k hk => .inr (.inr ⟨_, hmem, hk.1, hk.2⟩))) ((onlyS_set w2 g a _ (.inr (.inl ⟨0, rfl⟩))).trans (onlyS_set _ b 1 _ (.inl rfl)))
  · rcases hk with rfl | ⟨o, e⟩ | ⟨q, hq, hq1, rfl⟩
    · exact .inl (.inl rfl)
    · exact .inl (.inr (.inl ⟨o, e⟩))
    · rcases hset q hq with rfl | ⟨i, hi, hia, rfl⟩
      · rcases hr with ⟨h1, h2, h3, h4, _⟩ | ⟨h1, _⟩
        · exact .inl (.inr (.inr ⟨_, hmem, by omega, h2.symm⟩))
        · exact .inr (by rw [h1]; exact Nat.le_refl _)
      · exact .inl (.inr (.inr ⟨_, M.getD_memP hi, hq1, rfl⟩))
  · rcases hk with rfl | ⟨o, e⟩ | ⟨q, hq, rfl⟩
    · exact .inl (.inl rfl)
    · exact .inl (.inr (.inl ⟨o, e⟩))
    · rcases hset q hq with rfl | ⟨i, hi, hia, rfl⟩
      · rcases hr with ⟨h1, h2, h3, h4, _⟩ | ⟨h1, _⟩
        · exact .inl (.inr (.inr ⟨_, hmem, h2.symm⟩))
        · exact .inr (by rw [h1]; exact Nat.le_refl _)
      · exact .inl (.inr (.inr ⟨_, M.getD_memP hi, rfl⟩))
end

end Go.Proofs.YtnhljlmelbiljaaGreat

/- Layer 15: a full page, parted, in a memory. -/
namespace Go.Proofs.YtnhljlmelbiljaaGreat
set_option linter.unusedVariables false
set_option linter.unusedSimpArgs false
open Go Go.RowKit

def PgR (p q : M.Pg) : Prop := (p.l.length ≠ p.k ∨ q.l.length ≠ q.k) → p.q ≠ q.q
theorem pgsAp_iff {Ps : List M.Pg} : PgsAp Ps ↔ Ps.Pairwise PgR := by
  rw [List.pairwise_iff_getElem]
  constructor
  · intro h i j hi hj hij hn
    have gi := M.gD15 Ps i M.pg0 hi
    have gj := M.gD15 Ps j M.pg0 hj
    rcases hn with hn | hn
    · have := h i j hi hj (by omega) (by rw [gi]; exact hn)
      rwa [gi, gj] at this
    · have := h j i hj hi (by omega) (by rw [gj]; exact hn)
      rw [gi, gj] at this
      exact fun e => this e.symm
  · intro h i j hi hj hij hn
    rw [M.gD15 Ps i M.pg0 hi] at hn ⊢
    rw [M.gD15 Ps j M.pg0 hj]
    rcases Nat.lt_or_ge i j with q | q
    · exact h i j hi hj q (.inl hn)
    · exact fun e => h j i hj hi (by omega) (.inr hn) e.symm
theorem OnlyS.trans2 {A A' : Nat → Prop} {a b c : World} (h : OnlyS A a b) (k : OnlyS A' b c) (hA : ∀ x, A' x → A x ∨ a.heap.size ≤ x) : OnlyS A a c :=
  ⟨k.os.trans h.os, k.tape.trans h.tape, k.output.trans h.output, Nat.le_trans h.size k.size, fun x hx hn => (k.block x (Nat.lt_of_lt_of_le hx h.size) (fun ha => by
    rcases hA x ha with q | q
    · exact hn q
    · omega)).trans (h.block x hx hn)⟩
def pgA (p : M.Pg) : M.Pg := ⟨p.l.take 32, p.q, p.o, 32⟩
def pgB (p : M.Pg) : M.Pg := ⟨p.l.drop 32, p.q, p.o + 96, 32⟩
def parted (Ps : List M.Pg) (a : Nat) : List M.Pg := Ps.take a ++ pgA (Ps.getD a M.pg0) :: pgB (Ps.getD a M.pg0) :: Ps.drop (a + 1)
section
variable {B b g g' pc pc' : Nat} {Ps : List M.Pg} {L : List M.Cl} {w w2 : World}
theorem parted_len {a : Nat} (ha : a < Ps.length) : (parted Ps a).length = Ps.length + 1 := by simp [parted]; omega
theorem parted_mem {a : Nat} (ha : a < Ps.length) {q : M.Pg} (h : q ∈ parted Ps a) : q = pgA (Ps.getD a M.pg0) ∨ q = pgB (Ps.getD a M.pg0) ∨ ∃ i, i < Ps.length ∧ i ≠ a ∧ Ps.getD i M.pg0 = q := by
  unfold parted at h
  rcases List.mem_append.1 h with h | h
  · obtain ⟨i, hi, e⟩ := List.getElem_of_mem h
    rw [List.length_take] at hi
    rw [List.getElem_take] at e
    exact .inr (.inr ⟨i, by omega, by omega, by rw [M.gD15 Ps i M.pg0 (by omega)]; exact e⟩)
  · rcases List.mem_cons.1 h with h | h
    · exact .inl h
    · rcases List.mem_cons.1 h with h | h
      · exact .inr (.inl h)
      · obtain ⟨i, hi, e⟩ := List.getElem_of_mem h
        rw [List.length_drop] at hi
        rw [List.getElem_drop] at e
        exact .inr (.inr ⟨a + 1 + i, by omega, by omega, by rw [M.gD15 Ps (a + 1 + i) M.pg0 (by omega)]; exact e⟩)
theorem parted_flat {a : Nat} (ha : a < Ps.length) : M.flat (parted Ps a) = M.flat Ps := by
  rw [parted, M.flat_append, M.flat_cons, M.flat_cons, M.flat_at ha, ← List.append_assoc (pgA _).l]
  show _ ++ (List.take 32 _ ++ List.drop 32 _ ++ _) = _
  rw [List.take_append_drop]
theorem parted_vals {a : Nat} (ha : a < Ps.length) : insV ((pgsV Ps).set a (pgV (pgA (Ps.getD a M.pg0)))) (a + 1) [pgV (pgB (Ps.getD a M.pg0))] = pgsV (parted Ps a) := by
  have e : (pgsV Ps).set a (pgV (pgA (Ps.getD a M.pg0))) = pgsV (Ps.take a) ++ pgV (pgA (Ps.getD a M.pg0)) :: pgsV (Ps.drop (a + 1)) := by
    rw [List.set_eq_take_append_cons_drop, if_pos (by simpa [pgsV] using ha)]
    simp [pgsV, List.map_take, List.map_drop]
  have hl : (pgsV (Ps.take a)).length = a := by simp [pgsV]; omega
  rw [e, insV]
  have t1 : (pgsV (Ps.take a) ++ pgV (pgA (Ps.getD a M.pg0)) :: pgsV (Ps.drop (a + 1))).take (a + 1) = pgsV (Ps.take a) ++ [pgV (pgA (Ps.getD a M.pg0))] := by
    have := List.take_left (l₁ := pgsV (Ps.take a) ++ [pgV (pgA (Ps.getD a M.pg0))]) (l₂ := pgsV (Ps.drop (a + 1)))
    simpa [hl] using this
  have t2 : (pgsV (Ps.take a) ++ pgV (pgA (Ps.getD a M.pg0)) :: pgsV (Ps.drop (a + 1))).drop (a + 1) = pgsV (Ps.drop (a + 1)) := by
    have := List.drop_left (l₁ := pgsV (Ps.take a) ++ [pgV (pgA (Ps.getD a M.pg0))]) (l₂ := pgsV (Ps.drop (a + 1)))
    simpa [hl] using this
  rw [t1, t2, parted]
  simp [pgsV]
theorem parted_ap {a : Nat} (ha : a < Ps.length) (h64 : (Ps.getD a M.pg0).l.length = 64) (h : PgsAp Ps) : PgsAp (parted Ps a) := by
  rw [pgsAp_iff] at *
  have e := M.split_at Ps a M.pg0 ha
  rw [e] at h
  unfold parted
  generalize Ps.getD a M.pg0 = p at *
  clear e
  have hA : (pgA p).l.length = (pgA p).k := by show (p.l.take 32).length = 32; rw [List.length_take, h64]; rfl
  have hB : (pgB p).l.length = (pgB p).k := by show (p.l.drop 32).length = 32; rw [List.length_drop, h64]
  obtain ⟨h1, h2, h3⟩ := List.pairwise_append.1 h
  obtain ⟨h4, h5⟩ := List.pairwise_cons.1 h2
  refine List.pairwise_append.2 ⟨h1, List.pairwise_cons.2 ⟨fun q hq => ?_, List.pairwise_cons.2 ⟨fun q hq => ?_, h5⟩⟩, fun x hx y hy => ?_⟩
  · rcases List.mem_cons.1 hq with rfl | hq
    · intro hn
      rcases hn with hn | hn
      · exact absurd hA hn
      · exact absurd hB hn
    · exact fun hn => h4 q hq (.inr (hn.resolve_left (fun k => k hA)))
  · exact fun hn => h4 q hq (.inr (hn.resolve_left (fun k => k hB)))
  · rcases List.mem_cons.1 hy with rfl | hy
    · exact fun hn => h3 x hx p (by simp) (.inl (hn.resolve_right (fun k => k hA)))
    · rcases List.mem_cons.1 hy with rfl | hy
      · exact fun hn => h3 x hx p (by simp) (.inl (hn.resolve_right (fun k => k hB)))
      · exact h3 x hx y (by simp [hy])
/-- The pages, one of them parted, put where they belong. -/
theorem MemAt.part (h : MemAt B b (some ⟨g, 0, none⟩) pc Ps L w) {a : Nat} (ha : a < Ps.length) (h64 : (Ps.getD a M.pg0).l.length = 64) (hO : OnlyS (fun k => k = g) w w2)
    (hrow2 : w2.ownsRow B 109 1 (.slice (some ⟨g', 0, none⟩) (Ps.length + 1) pc') (Ps.length + 1) (pgsV (parted Ps a))) (hg' : g' = g ∨ w.heap.size ≤ g') :
    MemAt B b (some ⟨g', 0, none⟩) pc' (parted Ps a) L (w2.setCell ⟨b, 0, none⟩ (.slice (some ⟨g', 0, none⟩) (Ps.length + 1) pc')) ∧
    OnlyS (WrS b (some ⟨g, 0, none⟩) Ps) w (w2.setCell ⟨b, 0, none⟩ (.slice (some ⟨g', 0, none⟩) (Ps.length + 1) pc')) ∧ Grw b (some ⟨g, 0, none⟩) Ps w (some ⟨g', 0, none⟩) (parted Ps a) := by
  have hmem := M.getD_memP ha
  have hgb : g ≠ b := row_apart h.row h.pgs.row (by decide) g rfl
  have hbl := h.row.lt
  have hgb' : g' ≠ b := by
    rcases hg' with e | e
    · rw [e]; exact hgb
    · omega
  have hCq : ∀ q, q ∈ Ps → q.q ≠ b ∧ q.q ≠ g ∧ q.q < w.heap.size := fun q hq => by
    obtain ⟨_, ⟨C, hC⟩, _⟩ := h.blk q hq
    exact ⟨fun e => rowIn_ne hC h.row (by decide) e, fun e => row_apart hC h.pgs.row (by decide) g rfl e.symm, hC.lt⟩
  have hrowb : RowIn #[.slice (some ⟨g, 0, none⟩) Ps.length pc, .int .i64 L.length, .bool true] 105 w2 b := hO.row h.row (fun e => hgb e.symm)
  have hblk : ∀ q, q ∈ Ps → (w2.setCell ⟨b, 0, none⟩ (.slice (some ⟨g', 0, none⟩) (Ps.length + 1) pc')).heap[q.q]? = w.heap[q.q]? := fun q hq => by
    rw [Below.heap_setCell _ _ _ _ (hCq q hq).1]
    exact hO.block _ (hCq q hq).2.2 (hCq q hq).2.1
  have hcl : ∀ q, q ∈ Ps → ∀ j, j < q.l.length → ClOff (q.l.getD j M.cl0) (w2.setCell ⟨b, 0, none⟩ (.slice (some ⟨g', 0, none⟩) (Ps.length + 1) pc')) q.q (q.o + j * 3) := fun q hq j hj => clOff_blk15 (h.pgs.each q hq j hj) (hblk q hq)
  have hB := (h.blk _ hmem).1
  obtain ⟨C, hC⟩ := (h.blk _ hmem).2.1
  refine ⟨⟨?_, ⟨?_, fun q hq => ?_⟩, (parted_flat ha).trans h.flat, h.st, fun q hq => ?_, fun q hq => ?_, parted_ap ha h64 h.ap, h.bb, h.nL, h.okc⟩, ?_, ⟨fun k hk => ?_, fun k hk => ?_⟩⟩
  · rw [parted_len ha]
    have := hrowb.set 0 (.slice (some ⟨g', 0, none⟩) (Ps.length + 1) pc')
    simpa using this
  · rw [parted_len ha]
    exact ownsRow_setCell_other (a := ⟨b, 0, none⟩) hrow2 (fun e => by injection e with e; exact hgb' e) _
  · rcases parted_mem ha hq with rfl | rfl | ⟨i, hi, hia, rfl⟩
    · intro j hj
      have hj2 : j < 32 := by have : (pgA (Ps.getD a M.pg0)).l.length ≤ 32 := by { show (List.take 32 _).length ≤ 32; rw [List.length_take]; omega }; omega
      have := hcl _ hmem j (by omega)
      have e : (pgA (Ps.getD a M.pg0)).l.getD j M.cl0 = (Ps.getD a M.pg0).l.getD j M.cl0 := by
        show (List.take 32 _).getD j M.cl0 = _
        have hj3 : j < (List.take 32 (Ps.getD a M.pg0).l).length := hj
        rw [M.gD15 _ j M.cl0 hj3, M.gD15 _ j M.cl0 (by omega)]
        exact List.getElem_take
      rw [e]; exact this
    · intro j hj
      have hj2 : j < 32 := by have : (pgB (Ps.getD a M.pg0)).l.length = 32 := by { show (List.drop 32 _).length = 32; rw [List.length_drop, h64] }; omega
      have := hcl _ hmem (32 + j) (by omega)
      have e : (pgB (Ps.getD a M.pg0)).l.getD j M.cl0 = (Ps.getD a M.pg0).l.getD (32 + j) M.cl0 := by
        show (List.drop 32 _).getD j M.cl0 = _
        have hj3 : j < (List.drop 32 (Ps.getD a M.pg0).l).length := hj
        rw [M.gD15 _ j M.cl0 hj3, M.gD15 _ (32 + j) M.cl0 (by omega)]
        exact List.getElem_drop
      rw [e, show (pgB (Ps.getD a M.pg0)).o + j * 3 = (Ps.getD a M.pg0).o + (32 + j) * 3 from by show (Ps.getD a M.pg0).o + 96 + j * 3 = _; omega]
      exact this
    · exact fun j hj => hcl _ (M.getD_memP hi) j hj
  · rcases parted_mem ha hq with rfl | rfl | ⟨i, hi, hia, rfl⟩
    · exact ⟨hB, ⟨C, (hblk _ hmem).trans hC⟩, .inl (by show (List.take 32 _).length = 32; rw [List.length_take, h64]; rfl)⟩
    · exact ⟨hB, ⟨C, (hblk _ hmem).trans hC⟩, .inl (by show (List.drop 32 _).length = 32; rw [List.length_drop, h64])⟩
    · have hm := M.getD_memP hi
      obtain ⟨k1, ⟨C', hC'⟩, k3⟩ := h.blk _ hm
      refine ⟨k1, ⟨C', (hblk _ hm).trans hC'⟩, ?_⟩
      rcases k3 with k3 | ⟨x1, x2, x3⟩
      · exact .inl k3
      · exact .inr ⟨x1, x2, ownsRow_setCell_other (a := ⟨b, 0, none⟩) (hO.own x3 (fun q e hq => by injection e with e; subst e; exact (hCq _ hm).2.1 hq)) (fun e => by injection e with e; exact (hCq _ hm).1 e) _⟩
  · rcases parted_mem ha hq with rfl | rfl | ⟨i, hi, hia, rfl⟩
    · have : (pgA (Ps.getD a M.pg0)).l.length = 32 := by show (List.take 32 _).length = 32; rw [List.length_take, h64]; rfl
      omega
    · have : (pgB (Ps.getD a M.pg0)).l.length = 32 := by show (List.drop 32 _).length = 32; rw [List.length_drop, h64]
      omega
    · exact h.sm _ (M.getD_memP hi)
  · exact OnlyS.trans (hO.mono (fun k hk => by subst hk; exact .inr (.inl ⟨0, rfl⟩))) (onlyS_set w2 b 0 _ (.inl rfl))
  · rcases hk with rfl | ⟨o, e⟩ | ⟨q, hq, hq1, rfl⟩
    · exact .inl (.inl rfl)
    · injection e with e
      injection e with e1 e2
      subst e1
      rcases hg' with rfl | e
      · exact .inl (.inr (.inl ⟨0, rfl⟩))
      · exact .inr e
    · rcases parted_mem ha hq with rfl | rfl | ⟨i, hi, hia, rfl⟩
      · exact absurd (show (List.take 32 _).length = 32 by rw [List.length_take, h64]; rfl) hq1
      · exact absurd (show (List.drop 32 _).length = 32 by rw [List.length_drop, h64]) hq1
      · exact .inl (.inr (.inr ⟨_, M.getD_memP hi, hq1, rfl⟩))
  · rcases hk with rfl | ⟨o, e⟩ | ⟨q, hq, rfl⟩
    · exact .inl (.inl rfl)
    · injection e with e
      injection e with e1 e2
      subst e1
      rcases hg' with rfl | e
      · exact .inl (.inr (.inl ⟨0, rfl⟩))
      · exact .inr e
    · rcases parted_mem ha hq with rfl | rfl | ⟨i, hi, hia, rfl⟩
      · exact .inl (.inr (.inr ⟨_, hmem, rfl⟩))
      · exact .inl (.inr (.inr ⟨_, hmem, rfl⟩))
      · exact .inl (.inr (.inr ⟨_, M.getD_memP hi, rfl⟩))
end

end Go.Proofs.YtnhljlmelbiljaaGreat

/- Layer 15: a cell laid into a page, a page laid among the pages, by contracts. -/
namespace Go.Proofs.YtnhljlmelbiljaaGreat
set_option linter.unusedVariables false
set_option linter.unusedSimpArgs false
open Go Go.RowKit
attribute [local go_sem ↓] run_index_S
attribute [local go_sem] S_append S_extract

theorem own_cell15 {w : World} {B : Nat} {e : TypeId} {g n cap : Nat} {xs : List Value} (h : w.ownsRow B e 1 (.slice (some ⟨g, 0, none⟩) n cap) n xs) {j : Nat} (hj : j < n) : (∃ v, w.cell? ⟨g, j, none⟩ = some v) ∧ w.frozen? ⟨g, j, none⟩ = false := by
  obtain ⟨cur, hg, hcs, hct, hnc, hcm, hB⟩ := setRow_own15 h
  have hr : RowIn cur e w g := hg
  exact ⟨⟨_, (hr.cell j).trans (Array.getElem?_eq_getElem (by omega))⟩, hr.free j⟩
theorem insPage15 {B b g pc : Nat} {Ps : List M.Pg} {L : List M.Cl} {w : World} (h : MemAt B b (some ⟨g, 0, none⟩) pc Ps L w) {a i : Nat} (ha : a < Ps.length) (hi : i ≤ (Ps.getD a M.pg0).l.length) (c : M.Cl) {X : Nat} (hX : RowIn (clA c) 38 w X) (hXq : X ≠ (Ps.getD a M.pg0).q) :
    Calls Tryz.prog 106 #[pgV (Ps.getD a M.pg0), .int .i64 i, .slice (some ⟨X, 0, none⟩) 1 1] w fun e w' => ∃ p', e = .returned (pgV p') ∧ p'.l = (Ps.getD a M.pg0).l.take i ++ c :: (Ps.getD a M.pg0).l.drop i ∧ RepPg B w w' (Ps.getD a M.pg0) p' := by
  have hm := M.getD_memP ha
  have hcl := h.pgs.each _ hm
  have hbk := h.blk _ hm
  have hs := h.sm _ hm
  generalize Ps.getD a M.pg0 = p at *
  obtain ⟨l, q, o, k⟩ := p
  simp only at hi hXq hs
  have hX' : RowIn (clL c).toArray 38 w X := hX
  have hlen : (l.take i ++ c :: l.drop i).length = l.length + 1 := by simp; omega
  rcases hbk with ⟨hB, hC, ht | ⟨h0, hlt, ho⟩⟩
  · simp only at ht
    subst ht
    refine (insFullC w q o l.length i X (cls l) (clL c) (cls_length l) (fun j v hj => clsAt_get9 hcl j v hj) (cls_oneC l) hi (by omega) _ hX' rfl (clL_oneC c)).mono ?_
    rintro e w' ⟨c', rfl, h1, h2⟩
    rw [cls_insV15] at h1
    refine ⟨⟨l.take i ++ c :: l.drop i, w.heap.size, 0, c'⟩, ?_, rfl, .inr ⟨rfl, rfl, ?_, h2⟩⟩
    · show _ = Ending.returned (.slice (some ⟨w.heap.size, 0, none⟩) (l.take i ++ c :: l.drop i).length c')
      rw [hlen]
    · show w'.ownsRow _ _ _ (.slice (some ⟨w.heap.size, 0, none⟩) (l.take i ++ c :: l.drop i).length c') (l.take i ++ c :: l.drop i).length _
      rw [hlen]; exact h1
  · simp only at h0 hlt
    subst h0
    refine (insRoomC B w q l.length k i X (cls l) (clL c) ho (cls_oneC l) hi hlt _ hX' rfl (clL_oneC c) hXq).mono ?_
    rintro e w' ⟨rfl, h1, h2⟩
    rw [cls_insV15] at h1
    refine ⟨⟨l.take i ++ c :: l.drop i, q, 0, k⟩, ?_, rfl, .inl ⟨hlt, rfl, rfl, by show (l.take i ++ c :: l.drop i).length ≤ k; rw [hlen]; omega, rfl, ?_, h2⟩⟩
    · show _ = Ending.returned (.slice (some ⟨q, 0, none⟩) (l.take i ++ c :: l.drop i).length k)
      rw [hlen]
    · show w'.ownsRow _ _ _ (.slice (some ⟨q, 0, none⟩) (l.take i ++ c :: l.drop i).length k) (l.take i ++ c :: l.drop i).length _
      rw [hlen]; exact h1
/-- A page laid among pages. -/
theorem insPages15 {B g n cap i X : Nat} {w : World} (xs : List Value) (v : Value) (hv : v.oneCell' = true) (hO : w.ownsRow B 109 1 (.slice (some ⟨g, 0, none⟩) n cap) n xs) (h1 : ∀ u ∈ xs, u.oneCell' = true) (hi : i ≤ n) (hn : n ≤ 1000000) (hX : RowIn #[v] 109 w X) (hXg : X ≠ g) (hBw : B ≤ w.heap.size) :
    Calls Tryz.prog 107 #[.slice (some ⟨g, 0, none⟩) n cap, .int .i64 i, .slice (some ⟨X, 0, none⟩) 1 1] w fun e w' => ∃ g' c', e = .returned (.slice (some ⟨g', 0, none⟩) (n + 1) c') ∧ w'.ownsRow B 109 1 (.slice (some ⟨g', 0, none⟩) (n + 1) c') (n + 1) (insV xs i [v]) ∧ OnlyS (fun k => k = g) w w' ∧ (g' = g ∨ g' = w.heap.size) := by
  have hX' : RowIn [v].toArray 109 w X := hX
  obtain ⟨cur, hg, hcs, hct, hnc, hcm, hB⟩ := setRow_own15 hO
  have hone : ∀ u ∈ [v], u.oneCell' = true := fun u hu => by rw [List.mem_singleton] at hu; rw [hu]; exact hv
  rcases Nat.lt_or_ge n cap with hlt | hge
  · refine (insRoomP B w g n cap i X xs [v] hO h1 hi hlt _ hX' rfl hone hXg).mono ?_
    rintro e w' ⟨rfl, h2, h3⟩
    exact ⟨g, cap, rfl, h2, onlyS_grown h3 (fun k e => by cases e; rfl), .inl rfl⟩
  · obtain rfl : cap = n := by omega
    refine (insFullP w g 0 cap i X xs [v] hO.1 (fun j u hj => by
      have := hO.cells (g := g) rfl j u hj
      rwa [Addr.add_lit] at this) h1 hi hn _ hX' rfl hone).mono ?_
    rintro e w' ⟨c', rfl, h2, h3⟩
    exact ⟨w.heap.size, c', rfl, ownP_mono h2 hBw, onlyS_below h3, .inr rfl⟩
set_option maxHeartbeats 2000000 in
set_option maxRecDepth 100000 in
/-- The first page. -/
theorem insNil15 (c : M.Cl) (X : Nat) (w : World) (hX : RowIn (clA c) 38 w X) :
    Calls Tryz.prog 106 #[.slice none 0 0, .int .i64 0, .slice (some ⟨X, 0, none⟩) 1 1] w fun e w' => ∃ c', e = .returned (.slice (some ⟨w.heap.size, 0, none⟩) 1 c') ∧ w'.ownsRow w.heap.size 38 3 (.slice (some ⟨w.heap.size, 0, none⟩) 1 c') 1 (cls [c]) ∧ Below w.heap.size w w' := by
  obtain ⟨i0, z0, hi0, hz0, hz1, hz2, hz3⟩ := infoCl_parts
  have hX' : RowIn (clL c).toArray 38 w X := hX
  have hrr : ∀ ty, ∃ c' w', (Builtin.append_ #[109, 22] ty #[.slice none 0 0, .slice (some ⟨X, 0, none⟩) 1 1]).run Tryz.prog w = .ok (.slice (some ⟨w.heap.size, 0, none⟩) 1 c') w' ∧ w'.ownsRow w.heap.size 38 3 (.slice (some ⟨w.heap.size, 0, none⟩) 1 c') 1 (cls [c]) ∧ Below w.heap.size w w' := fun ty => by
    have hr := run_append_nil (P := Tryz.prog) w 109 ty 38 i0 z0 Tryz.underlying109 hi0 hz0 ⟨X, 0, none⟩ 1 1 (clL c) (by rw [hz1]; rfl) (rowIn_src15 hX') (by omega) (by omega) (by rw [hz2]; omega)
    rw [append_types15 w _ _ ty _ _ Tryz.underlying109 Tryz.underlying22, hr]
    obtain ⟨l, hl, hll⟩ := zeroCells_list15 z0.cells (grownCap w 1 0 38 - 1)
    refine ⟨_, _, rfl, ?_, ((Below.refl w.heap.size w).drew).alloc (Nat.le_refl _) _⟩
    rw [hl]
    have := newRow15 w 38 3 (cls [c]) l 1 (grownCap w 1 0 38) rfl (by rw [hll, hz3]) (grownCap_ge w 1 0 _) (grownCap_le_maxLen w 1 0 _ (by unfold maxLen; omega)) w.heap.size (Nat.le_refl _)
    have e : (clL c).toArray ++ l.toArray = (cls [c] ++ l).toArray := by simp [cls]
    rw [e]
    exact this
  go_enter Tryz.func106, Tryz.ntmps106
  go_wp2_with (at_builtin; obtain ⟨c2, w2, hr, ho, hb⟩ := hrr _; refine wpList_append_run15 _ rfl _ _ 109 22 rfl _ _ rfl rfl _ _ hr ?_; have HR := Lib.hid (And.intro ho hb); clear hr ho hb hrr)
  go_ret
  exact ⟨c2, rfl, HR.out⟩

end Go.Proofs.YtnhljlmelbiljaaGreat

/- Layer 15: lay, by a contract. -/
namespace Go.Proofs.YtnhljlmelbiljaaGreat
set_option linter.unusedVariables false
set_option linter.unusedSimpArgs false
open Go Go.RowKit
attribute [local go_sem ↓] run_index_S
attribute [local go_sem] S_append S_extract

def SmP (Ps : List M.Pg) : Prop := ∀ p, p ∈ Ps → p.l.length < 64
def LayR (B b : Nat) (pa : Option Addr) (Ps : List M.Pg) (L' : List M.Cl) (w : World) (e : Ending) (w' : World) : Prop := e = .returned (.tuple #[]) ∧ ∃ pa' pc' Ps', MemAt B b pa' pc' Ps' L' w' ∧ SmP Ps' ∧ OnlyS (WrS b pa Ps) w w' ∧ Grw b pa Ps w pa' Ps'
theorem RepPg.rows {B b g pc : Nat} {Ps : List M.Pg} {L : List M.Cl} {w w2 : World} {p' : M.Pg} (h : MemAt B b (some ⟨g, 0, none⟩) pc Ps L w) {a : Nat} (ha : a < Ps.length) (hr : RepPg B w w2 (Ps.getD a M.pg0) p') :
    RowIn #[.slice (some ⟨g, 0, none⟩) Ps.length pc, .int .i64 L.length, .bool true] 105 w2 b ∧ w2.ownsRow B 109 1 (.slice (some ⟨g, 0, none⟩) Ps.length pc) Ps.length (pgsV Ps) ∧ g ≠ b := by
  have ho := hr.only
  obtain ⟨_, ⟨C, hC⟩, _⟩ := h.blk _ (M.getD_memP ha)
  exact ⟨ho.row h.row (fun e => rowIn_ne hC h.row (by decide) e.2), ho.own h.pgs.row (fun q e hq => by cases e; exact row_apart hC h.pgs.row (by decide) g rfl hq.2.symm), row_apart h.row h.pgs.row (by decide) g rfl⟩
/-- What a page taken in comes to, for the memory. -/
theorem lay_put15 {B b g pc : Nat} {Ps : List M.Pg} {L : List M.Cl} {c : M.Cl} {w w1 w2 : World} {p' : M.Pg} {a i : Nat} (hb : Below w.heap.size w w1) (h : MemAt B b (some ⟨g, 0, none⟩) pc Ps L w1) (hsm : SmP Ps) (hBw : B ≤ w.heap.size) (hc : ClOk c ∧ M.mayC c = true) (hn : L.length < 50000)
    (ha : a < Ps.length) (hi : i ≤ (Ps.getD a M.pg0).l.length) (hl : p'.l = (Ps.getD a M.pg0).l.take i ++ c :: (Ps.getD a M.pg0).l.drop i) (hr : RepPg B w1 w2 (Ps.getD a M.pg0) p') (hins : M.insC c L = M.flat (Ps.take a) ++ ((Ps.getD a M.pg0).l.take i ++ c :: (Ps.getD a M.pg0).l.drop i) ++ M.flat (Ps.drop (a + 1))) :
    MemAt B b (some ⟨g, 0, none⟩) pc (Ps.set a p') (M.insC c L) ((w2.setCell ⟨g, a, none⟩ (pgV p')).setCell ⟨b, 1, none⟩ (.int .i64 ((L.length : Int) + 1))) ∧
    OnlyS (WrS b (some ⟨g, 0, none⟩) Ps) w ((w2.setCell ⟨g, a, none⟩ (pgV p')).setCell ⟨b, 1, none⟩ (.int .i64 ((L.length : Int) + 1))) ∧ Grw b (some ⟨g, 0, none⟩) Ps w (some ⟨g, 0, none⟩) (Ps.set a p') ∧ p'.l.length ≤ 64 ∧ (p'.l.length < 64 → SmP (Ps.set a p')) ∧ p'.o = 0 ∧ 0 < p'.l.length ∧ p'.l.length ≤ p'.k := by
  have hpl := hsm _ (M.getD_memP ha)
  have hlen : p'.l.length = (Ps.getD a M.pg0).l.length + 1 := by rw [hl]; simp; omega
  have hf : M.flat (Ps.set a p') = M.insC c L := by rw [flat_set15 ha, hl, hins]
  have hL : M.flat Ps = L := h.flat
  have hll : (M.insC c L).length = L.length + 1 := by
    rw [hins, ← hL, M.flat_at ha]
    simp
    omega
  have hBw1 : B ≤ w1.heap.size := Nat.le_trans hBw hb.size
  obtain ⟨k1, k2, k3⟩ := h.put ha hr hBw1 ⟨by omega, by omega⟩ hf (M.insC_strict h.st) hll (by omega) (fun x hx => by
    rcases M.insC_mem hx with rfl | hx
    · exact hc
    · exact h.okc x hx)
  refine ⟨k1, (onlyS_below hb).trans2 k2 (fun x hx => .inl hx), k3.mono hb.size, by omega, fun h64 q hq => ?_, (hr.own hBw1).2, by omega, (pgOwn_row (hr.own hBw1).1 (by omega)).2.2.2⟩
  · obtain ⟨j, hj, e⟩ := List.getElem_of_mem hq
    rw [List.length_set] at hj
    rw [List.getElem_set] at e
    split at e
    · rw [← e]; exact h64
    · rw [← e]; exact hsm _ (List.getElem_mem _)
/-- .. and one that is full. -/
theorem lay_part15 {B b g g' pc pc' : Nat} {pa0 : Option Addr} {Ps0 Ps : List M.Pg} {L : List M.Cl} {w w1 w2 : World} {a : Nat} (h : MemAt B b (some ⟨g, 0, none⟩) pc Ps L w1) (ha : a < Ps.length) (h64 : (Ps.getD a M.pg0).l.length = 64) (hO1 : OnlyS (WrS b pa0 Ps0) w w1) (hW : Grw b pa0 Ps0 w (some ⟨g, 0, none⟩) Ps)
    (hO : OnlyS (fun k => k = g) w1 w2) (hrow2 : w2.ownsRow B 109 1 (.slice (some ⟨g', 0, none⟩) (Ps.length + 1) pc') (Ps.length + 1) (pgsV (parted Ps a))) (hg' : g' = g ∨ w1.heap.size ≤ g') (hsm : ∀ q, q ∈ Ps → q.l.length ≤ 64) (h1 : ∀ i, i < Ps.length → i ≠ a → (Ps.getD i M.pg0).l.length < 64) :
    ∃ pa' pc'' Ps', MemAt B b pa' pc'' Ps' L (w2.setCell ⟨b, 0, none⟩ (.slice (some ⟨g', 0, none⟩) (Ps.length + 1) pc')) ∧ SmP Ps' ∧ OnlyS (WrS b pa0 Ps0) w (w2.setCell ⟨b, 0, none⟩ (.slice (some ⟨g', 0, none⟩) (Ps.length + 1) pc')) ∧ Grw b pa0 Ps0 w pa' Ps' := by
  obtain ⟨k1, k2, k3⟩ := h.part ha h64 hO hrow2 hg'
  refine ⟨_, _, _, k1, fun q hq => ?_, hO1.trans2 k2 hW.1, hW.trans k3 hO1.size⟩
  · rcases parted_mem ha hq with rfl | rfl | ⟨i, hi, hia, rfl⟩
    · have : (pgA (Ps.getD a M.pg0)).l.length = 32 := by show (List.take 32 _).length = 32; rw [List.length_take, h64]; rfl
      omega
    · have : (pgB (Ps.getD a M.pg0)).l.length = 32 := by show (List.drop 32 _).length = 32; rw [List.length_drop, h64]
      omega
    · exact h1 i hi hia
set_option maxHeartbeats 8000000 in
set_option maxRecDepth 100000 in
theorem layCons15_any (B b : Nat) (pa : Option Addr) (pc : Nat) (Ps : List M.Pg) (L : List M.Cl) (c : M.Cl) (w : World) (h : MemAt B b pa pc Ps L w) (hsm : SmP Ps) (hBw : B ≤ w.heap.size) (hc : ClOk c ∧ M.mayC c = true) (hn : L.length < 50000) (hz : 0 < Ps.length) :
    Calls Tryz.prog 81 #[.pointer (some ⟨b, 0, none⟩), .agg (clA c)] w (LayR B b pa Ps (M.insC c L) w) := by
  obtain ⟨g, epa, -⟩ := h.pgs.at_ hz
  have HQL := Lib.hid (show ∀ q, q ∈ Ps → q.q < w.heap.size from fun q hq => by
    obtain ⟨_, ⟨C, hC⟩, _⟩ := h.blk q hq
    exact hC.lt)
  subst epa
  have hal := (Below.refl w.heap.size w).alloc (Nat.le_refl _) (.cells (clA c) 38)
  have HB := Lib.hid hal
  have HM := Lib.hid (h.below hal)
  have HX := Lib.hid (rowIn_new (clA c) 38 w)
  have CS := Lib.hid (seek15_any B b _ pc Ps L c _ (h.below hal))
  have HS := Lib.hid (M.seek_ok h.ok c)
  have HI := Lib.hid (show M.insC c L = if M.seekA Ps c = Ps.length then L ++ [c] else if M.sameC ((Ps.getD (M.seekA Ps c) M.pg0).l.getD (M.seekJ Ps c) M.cl0) c = true then L else M.flat (Ps.take (M.seekA Ps c)) ++ ((Ps.getD (M.seekA Ps c) M.pg0).l.take (M.seekJ Ps c) ++ c :: (Ps.getD (M.seekA Ps c) M.pg0).l.drop (M.seekJ Ps c)) ++ M.flat (Ps.drop (M.seekA Ps c + 1)) from by
    have := HS.out.ins
    rwa [h.flat] at this)
  have hPn := h.ok.n
  have HSM := Lib.hid hsm
  have HC := Lib.hid hc
  have HBW := Lib.hid hBw
  have hxlt : w.heap.size < (w.alloc (.cells (clA c) 38)).heap.size := by rw [szA]; exact Nat.lt_succ_self _
  unfold SeekR at CS
  generalize M.seekA Ps c = a at *
  generalize M.seekJ Ps c = j at *
  clear h hal hsm hc hBw
  go_enter Tryz.func81, Tryz.ntmps81
  go_wp2_with fail
  refine (CS.out).mono ?_
  rintro e w1 ⟨rfl, hb⟩
  replace HB := carry hb HB
  replace HM := carry hb HM
  replace HX := carry hb HX
  have hxlt1 : w.heap.size < w1.heap.size := Nat.lt_of_lt_of_le hxlt hb.size
  clear hb CS hxlt
  obtain ⟨xb, hxb⟩ : ∃ x, x = w.heap.size := ⟨_, rfl⟩
  rw [← hxb] at HX hxlt1 ⊢
  have HXB := Lib.hid hxb
  clear hxb
  have z0 : ¬ ((Ps.length : Int) = 0) := by omega
  have z1 : ((Ps.length : Int) == 0) = false := by rw [beq_eq_false_iff_ne]; exact z0
  have z2 : decide ((Ps.length : Int) = 0) = false := by rw [decide_eq_false_iff_not]; exact z0
  have r0 := HM.out.row.cell 0
  have hle := HS.out.le
  by_cases he : a = Ps.length
  · have d0 : ((a : Int) == (Ps.length : Int)) = true := by rw [beq_iff_eq]; omega
    have d1 : decide ((a : Int) = (Ps.length : Int)) = true := by rw [decide_eq_true_eq]; omega
    obtain ⟨n, hn1⟩ : ∃ n, Ps.length = n + 1 := ⟨Ps.length - 1, by omega⟩
    have hw1 : IntKind.i64.wrap ((a : Int) - 1) = (n : Int) := by rw [IntWalk.i64_in _ (by omega)]; omega
    have hnn : n < Ps.length := by omega
    have hni : (n : Int) < (Ps.length : Int) := by omega
    obtain ⟨_, eg, y0, hcl⟩ := HM.out.pgs.at_ hnn
    injection eg with eg
    injection eg with eg
    subst eg
    have hpsm := HSM.out _ (M.getD_memP hnn)
    have HIN := Lib.hid (show M.insC c L = M.flat (Ps.take n) ++ ((Ps.getD n M.pg0).l.take (Ps.getD n M.pg0).l.length ++ c :: (Ps.getD n M.pg0).l.drop (Ps.getD n M.pg0).l.length) ++ M.flat (Ps.drop (n + 1)) from by
      rw [HI.out, if_pos he, ← HM.out.flat, M.flat_at hnn, List.take_length, List.drop_length, List.drop_eq_nil_of_le (show Ps.length ≤ n + 1 by omega)]
      simp [M.flat])
    have hile : (Ps.getD n M.pg0).l.length ≤ (Ps.getD n M.pg0).l.length := Nat.le_refl _
    obtain ⟨ii, hii⟩ : ∃ ii, ii = (Ps.getD n M.pg0).l.length := ⟨_, rfl⟩
    rw [← hii] at HIN
    rw [← hii] at hile
    have HII := Lib.hid hii
    have HILE := Lib.hid (show ii ≤ (Ps.getD n M.pg0).l.length from by rw [hii]; exact Nat.le_refl _)
    have HC2 := Lib.hid (show ∀ (X : Nat) V, MemAt B b (some ⟨g, 0, none⟩) pc Ps L V → RowIn (clA c) 38 V X → w1.heap.size ≤ X → Calls Tryz.prog 106 #[pgV (Ps.getD n M.pg0), .int .i64 ii, .slice (some ⟨X, 0, none⟩) 1 1] V fun e w' => ∃ p', e = .returned (pgV p') ∧ p'.l = (Ps.getD n M.pg0).l.take ii ++ c :: (Ps.getD n M.pg0).l.drop ii ∧ RepPg B V w' (Ps.getD n M.pg0) p' from fun X V hV hX hXw => insPage15 hV hnn (by rw [hii]; exact Nat.le_refl _) c hX (fun e => by
      obtain ⟨_, ⟨C, hC⟩, _⟩ := HM.out.blk _ (M.getD_memP hnn)
      have := hC.lt
      omega))
    unfold pgV at y0
    clear he hle HI hii hn1
    have hqx : (Ps.getD n M.pg0).q ≠ xb := fun e => by have h1 := HQL.out _ (M.getD_memP hnn); rw [← HXB.out] at h1; omega
    have HRows := Lib.hid (fun V w2 p' (hV : MemAt B b (some ⟨g, 0, none⟩) pc Ps L V) (hr : RepPg B V w2 (Ps.getD n M.pg0) p') => RepPg.rows hV hnn hr)
    have HPut := Lib.hid (fun V w2 p' (hb : Below w.heap.size w V) (hV : MemAt B b (some ⟨g, 0, none⟩) pc Ps L V) (hl : p'.l = (Ps.getD n M.pg0).l.take ii ++ c :: (Ps.getD n M.pg0).l.drop ii) (hr : RepPg B V w2 (Ps.getD n M.pg0) p') => lay_put15 hb hV HSM.out HBW.out HC.out hn hnn HILE.out hl hr HIN.out)
    have HPg := Lib.hid (fun (V : World) (hV : V.ownsRow B 109 1 (.slice (some ⟨g, 0, none⟩) Ps.length pc) Ps.length (pgsV Ps)) => (show V.cell? ⟨g, n, none⟩ = some (pgV (Ps.getD n M.pg0)) from by
      obtain ⟨g2, cap2, e, _, hc⟩ := own_slice10 hV (by omega)
      injection e with e1 e2 e3
      injection e1 with e1
      injection e1 with e1
      subst e1
      exact hc n _ (pgsV_get hnn)))
    have HOn := Lib.hid (fun V w2 p' (hr : RepPg B V w2 (Ps.getD n M.pg0) p') => hr.only)
    obtain ⟨p, hp⟩ : ∃ p, p = Ps.getD n M.pg0 := ⟨_, rfl⟩
    rw [← hp] at hqx HRows HPut HPg HOn y0 HC2 hpsm
    have HP := Lib.hid hp
    have hii2 := HII.out
    rw [← hp] at hii2
    obtain ⟨l, q, o, k⟩ := p
    simp only at hqx y0 hpsm
    simp only at hii2
    subst hii2
    clear hp hcl
    obtain ⟨x0, x1, x2⟩ : w1.cell? ⟨xb, 0, none⟩ = some (.string (S c.key)) ∧ w1.cell? ⟨xb, 1, none⟩ = some (.int .i64 c.seq) ∧ w1.cell? ⟨xb, 2, none⟩ = some (.string (S c.val)) := ⟨HX.out.cell 0, HX.out.cell 1, HX.out.cell 2⟩
    have r0' : w1.cell? ⟨b, 0, none⟩ = some (.slice (some ⟨g, 0, none⟩) Ps.length pc) := r0
    clear r0
    have hal := ((Below.refl w1.heap.size w1).alloc (Nat.le_refl _) (.cells (clA c) 38)).drew
    have HMA := Lib.hid (HM.out.below hal)
    have HXA := Lib.hid (show RowIn (clA c) 38 (w1.alloc (.cells (clA c) 38)).drew xb from HX.out.below hal)
    have HBA := Lib.hid (HB.out.trans (hal.mono HB.out.size))
    clear hal
    go_wp2_with fail
    go_region_held3 (fun W => W.cell? ⟨b, 0, none⟩ = some (.slice (some ⟨g, 0, none⟩) Ps.length pc) ∧ W.cell? ⟨g, n, none⟩ = some (.slice (some ⟨q, o, none⟩) l.length k) ∧ W.cell? ⟨xb, 0, none⟩ = some (.string (S c.key)) ∧ W.cell? ⟨xb, 1, none⟩ = some (.int .i64 c.seq) ∧ W.cell? ⟨xb, 2, none⟩ = some (.string (S c.val))) (go_keep) (first
      | (go_at_call 106; refine (HC2.out w1.heap.size _ HMA.out (rowIn_new _ _ _) (Nat.le_refl _)).mono ?_; rintro e w2 ⟨p', e1, hl, hr⟩; obtain ⟨l', q', o', k'⟩ := p'; unfold pgV at e1; simp only at e1; subst e1; obtain ⟨hr1, hr2, hgb⟩ := HRows.out _ _ _ HMA.out hr; have HPT := Lib.hid (HPut.out _ _ _ HBA.out HMA.out hl hr); have HO2 := Lib.hid (HOn.out _ _ _ hr); have s0 : w2.cell? ⟨b, 0, none⟩ = some (.slice (some ⟨g, 0, none⟩) Ps.length pc) := hr1.cell 0; have s1 : w2.cell? ⟨b, 1, none⟩ = some (.int .i64 L.length) := hr1.cell 1; have f1 := hr1.free 1; have s2 : w2.cell? ⟨g, n, none⟩ = some (.slice (some ⟨q, o, none⟩) l.length k) := HPg.out _ hr2; have f2 := (own_cell15 hr2 hnn).2; have hX2 := HO2.out.row HXA.out (fun e => hqx e.2); obtain ⟨s3, s4, s5⟩ : w2.cell? ⟨xb, 0, none⟩ = some (.string (S c.key)) ∧ w2.cell? ⟨xb, 1, none⟩ = some (.int .i64 c.seq) ∧ w2.cell? ⟨xb, 2, none⟩ = some (.string (S c.val)) := ⟨hX2.cell 0, hX2.cell 1, hX2.cell 2⟩; have hbg := hgb.symm; have HR2 := Lib.hid (And.intro hr1 hr2); clear hr1 hr2 hX2 hl hr))
    all_goals
      have hpk : l'.length ≤ k' := HPT.out.2.2.2.2.2.2.2
      by_cases h64 : l'.length = 64
      · have t0 : ((l'.length : Int) == 64) = true := by rw [beq_iff_eq]; omega
        have t1 : decide ((l'.length : Int) = 64) = true := by rw [decide_eq_true_eq]; omega
        have H64 := Lib.hid h64
        have hk32 : (32 : Int) ≤ (k' : Int) := by omega
        have hk64 : (64 : Int) ≤ (k' : Int) := by omega
        clear h64 hpk HC2 HMA HXA HBA HPut HRows HPg HOn s3 s4 s5 HO2 HR2
        go_wp2_with fail
        obtain ⟨w4, hw4⟩ : ∃ W, W = (w2.setCell ⟨g, n, none⟩ (.slice (some ⟨q', o', none⟩) l'.length k')).setCell ⟨b, 1, none⟩ (.int .i64 ((L.length : Int) + 1)) := ⟨_, rfl⟩
        rw [← hw4]
        have HPT2 := HPT.out
        unfold pgV at HPT2
        simp only at HPT2
        rw [← hw4] at HPT2
        obtain ⟨k1, k2, k3, -, -, ko, -, -⟩ := HPT2
        have hP2l : (Ps.set n ⟨l', q', o', k'⟩).length = Ps.length := List.length_set
        have hP2g : (Ps.set n ⟨l', q', o', k'⟩).getD n M.pg0 = ⟨l', q', o', k'⟩ := by simp [List.getD, hnn]
        have hP2o : ∀ i, i < Ps.length → i ≠ n → ((Ps.set n ⟨l', q', o', k'⟩).getD i M.pg0).l.length < 64 := fun i hi hin => by
          rw [show (Ps.set n ⟨l', q', o', k'⟩).getD i M.pg0 = Ps.getD i M.pg0 from by simp only [List.getD, List.getElem?_set_ne (fun e : n = i => hin e.symm)]]
          exact HSM.out _ (M.getD_memP hi)
        clear HPT hw4 HM HX x0 x1 x2 y0 s0 s1 s2 f1 f2 r0'
        generalize Ps.set n ⟨l', q', o', k'⟩ = Ps2 at *
        have HP2 := Lib.hid (And.intro hP2l (And.intro hP2g hP2o))
        have HK := Lib.hid (And.intro k1 (And.intro k2 k3))
        have r4 := k1.row.cell 0
        have r4' : w4.cell? ⟨b, 0, none⟩ = some (.slice (some ⟨g, 0, none⟩) Ps.length pc) := by rw [← hP2l]; exact r4
        have hrow4 : w4.ownsRow B 109 1 (.slice (some ⟨g, 0, none⟩) Ps.length pc) Ps.length (pgsV Ps2) := by rw [← hP2l]; exact k1.pgs.row
        obtain ⟨⟨v4, c4⟩, f4⟩ := own_cell15 hrow4 hnn
        have HRow4 := Lib.hid hrow4
        have hb4 := k1.row.free 0
        clear k1 k2 k3 r4 hP2l hP2g hP2o hrow4
        subst ko
        have HVA : Hid (pgV (pgA ⟨l', q', 0, k'⟩) = .slice (some ⟨q', 0, none⟩) 32 32) := Lib.hid (by
          show Value.slice (some ⟨q', 0, none⟩) (l'.take 32).length 32 = _
          rw [List.length_take, H64.out]; rfl)
        have HVB : Hid (pgV (pgB ⟨l', q', 0, k'⟩) = .slice (some ⟨q', 96, none⟩) 32 32) := Lib.hid (by
          show Value.slice (some ⟨q', 0 + 96, none⟩) (l'.drop 32).length 32 = _
          rw [List.length_drop, H64.out])
        go_region
        all_goals
          obtain ⟨w5, hw5⟩ : ∃ W, W = (w4.setCell ⟨g, n, none⟩ (.slice (some ⟨q', 0, none⟩) 32 32)).drew := ⟨_, rfl⟩
          rw [← hw5]
          have HO5 := Lib.hid (show OnlyS (fun k => k = g) w4 w5 from by
            obtain ⟨a1, a2, a3, a4, a5⟩ := onlyS_set (A := fun k => k = g) w4 g n (.slice (some ⟨q', 0, none⟩) 32 32) rfl
            rw [hw5]
            exact ⟨a1, a2, a3, a4, a5⟩)
          have HRow5 := Lib.hid (show w5.ownsRow B 109 1 (.slice (some ⟨g, 0, none⟩) Ps.length pc) Ps.length ((pgsV Ps2).set n (.slice (some ⟨q', 0, none⟩) 32 32)) from by
            rw [hw5]; exact ownsRow_set15 HRow4.out n _)
          have HRB5 := Lib.hid (HO5.out.row HK.out.1.row (fun e => hbg e))
          have r5 : w5.cell? ⟨b, 0, none⟩ = some (.slice (some ⟨g, 0, none⟩) Ps.length pc) := by rw [← HP2.out.1]; exact HRB5.out.cell 0
          have hgl := (HRow5.out.lt g rfl).2
          have hw6 : IntKind.i64.wrap ((n : Int) + 1) = ((n + 1 : Nat) : Int) := by rw [IntWalk.i64_in _ (by omega)]; omega
          have hBw5 : B ≤ w5.heap.size := Nat.le_trans HBW.out (Nat.le_trans HK.out.2.1.size HO5.out.size)
          clear hw5 r4' c4 f4 hb4
          have hal5 := ((Below.refl w5.heap.size w5).alloc (Nat.le_refl _) (.cells #[.slice (some ⟨q', 96, none⟩) 32 32] 109))
          have CI := Lib.hid (insPages15 (B := B) (g := g) (n := Ps.length) (cap := pc) (i := n + 1) (X := w5.heap.size) (w := (w5.alloc (.cells #[.slice (some ⟨q', 96, none⟩) 32 32] 109)).drew) ((pgsV Ps2).set n (.slice (some ⟨q', 0, none⟩) 32 32)) (.slice (some ⟨q', 96, none⟩) 32 32) rfl (HRow5.out.alloc _) (fun u hu => by
            rcases List.mem_or_eq_of_mem_set hu with hu | rfl
            · exact pgsV_one _ u hu
            · rfl) (by omega) (by omega) (rowIn_new _ _ _) (by omega) (Nat.le_trans hBw5 (by show w5.heap.size ≤ (w5.alloc _).heap.size; rw [szA]; exact Nat.le_succ _)))
          have HRB6 := Lib.hid (show RowIn #[.slice (some ⟨g, 0, none⟩) Ps2.length pc, .int .i64 ((M.insC c L).length : Int), .bool true] 105 (w5.alloc (.cells #[.slice (some ⟨q', 96, none⟩) 32 32] 109)).drew b from HRB5.out.more _)
          have HO6 := Lib.hid (show OnlyS (fun k => k = g) w4 (w5.alloc (.cells #[.slice (some ⟨q', 96, none⟩) 32 32] 109)).drew from HO5.out.trans (onlyS_below hal5.drew))
          have hsz6 : w4.heap.size ≤ (w5.alloc (.cells #[.slice (some ⟨q', 96, none⟩) 32 32] 109)).drew.heap.size := HO6.out.size
          have r6a : (w5.alloc (.cells #[.slice (some ⟨q', 96, none⟩) 32 32] 109)).cell? ⟨b, 0, none⟩ = some (.slice (some ⟨g, 0, none⟩) Ps.length pc) := by rw [← HP2.out.1]; exact HRB6.out.cell 0
          have r6b : (w5.alloc (.cells #[.slice (some ⟨q', 96, none⟩) 32 32] 109)).drew.cell? ⟨b, 0, none⟩ = some (.slice (some ⟨g, 0, none⟩) Ps.length pc) := r6a
          clear hal5
          simp only [Int.natCast_add, Int.natCast_one] at hw6 CI
          go_wp2_with fail
          go_region_law (first
            | (go_simp; go_at_call 107; refine (CI.out).mono ?_; rintro e w6 ⟨g', c', rfl, h2, h3, h4⟩; have hr6 := h3.row HRB6.out (fun e => hbg e); have s6 : w6.cell? ⟨b, 0, none⟩ = some (.slice (some ⟨g, 0, none⟩) Ps2.length pc) := hr6.cell 0; have f6 := hr6.free 0; have HI6 := Lib.hid (And.intro h2 (And.intro h3 h4)); clear h2 h3 h4 hr6))
          all_goals
            go_wp2_with fail
            go_end0
            have hn2 : n < Ps2.length := by rw [HP2.out.1]; exact hnn
            have HF := lay_part15 (b := b) (Ps0 := Ps) (Ps := Ps2) (a := n) (w2 := w6) (g' := g') (pc' := c') HK.out.1 hn2 (by rw [HP2.out.2.1]; exact H64.out) HK.out.2.1 HK.out.2.2 (HO6.out.trans HI6.out.2.1) (by
              rw [HP2.out.1, ← parted_vals hn2, HP2.out.2.1, HVA.out, HVB.out]
              exact HI6.out.1) (by
              rcases HI6.out.2.2 with q1 | q1
              · exact .inl q1
              · exact .inr (by rw [q1]; exact hsz6)) (fun q hq => (HK.out.1.sm q hq).2) (fun i hi hin => HP2.out.2.2 i (by rw [← HP2.out.1]; exact hi) hin)
            rw [HP2.out.1] at HF
            exact ⟨rfl, HF⟩
      · have t0 : ((l'.length : Int) == 64) = false := by rw [beq_eq_false_iff_ne]; omega
        have t1 : decide ((l'.length : Int) = 64) = false := by rw [decide_eq_false_iff_not]; omega
        go_wp2_with fail
        go_end0
        exact ⟨rfl, _, _, _, HPT.out.1, HPT.out.2.2.2.2.1 (by have := HPT.out.2.2.2.1; omega), HPT.out.2.1, HPT.out.2.2.1⟩
  · have d0 : ((a : Int) == (Ps.length : Int)) = false := by rw [beq_eq_false_iff_ne]; omega
    have d1 : decide ((a : Int) = (Ps.length : Int)) = false := by rw [decide_eq_false_iff_not]; omega
    have hnn : a < Ps.length := by omega
    have hni : (a : Int) < (Ps.length : Int) := by omega
    have hjl := HS.out.in_ hnn
    replace HI := Lib.hid (HI.out.trans (if_neg he))
    obtain ⟨n, rfl⟩ : ∃ n, n = a := ⟨a, rfl⟩
    obtain ⟨ii, rfl⟩ : ∃ ii, ii = j := ⟨j, rfl⟩
    obtain ⟨_, eg, y0, hcl⟩ := HM.out.pgs.at_ hnn
    injection eg with eg
    injection eg with eg
    subst eg
    have hpsm := HSM.out _ (M.getD_memP hnn)
    have HILE := Lib.hid (Nat.le_of_lt hjl)
    have HC2 := Lib.hid (show ∀ (w1 : World), w.heap.size ≤ w1.heap.size → ∀ (X : Nat) V, MemAt B b (some ⟨g, 0, none⟩) pc Ps L V → RowIn (clA c) 38 V X → w1.heap.size ≤ X → Calls Tryz.prog 106 #[pgV (Ps.getD n M.pg0), .int .i64 ii, .slice (some ⟨X, 0, none⟩) 1 1] V fun e w' => ∃ p', e = .returned (pgV p') ∧ p'.l = (Ps.getD n M.pg0).l.take ii ++ c :: (Ps.getD n M.pg0).l.drop ii ∧ RepPg B V w' (Ps.getD n M.pg0) p' from fun w1 hw1 X V hV hX hXw => insPage15 hV hnn HILE.out c hX (fun e => by
      have := HQL.out _ (M.getD_memP hnn)
      omega))
    have HCL := Lib.hid hcl
    have hji : (ii : Int) < ((Ps.getD n M.pg0).l.length : Int) := by omega
    obtain ⟨u0, u1, u2⟩ := hcl ii hjl
    obtain ⟨v0, v1⟩ : w1.cell? ⟨xb, 0, none⟩ = some (.string (S c.key)) ∧ w1.cell? ⟨xb, 1, none⟩ = some (.int .i64 c.seq) := ⟨HX.out.cell 0, HX.out.cell 1⟩
    have r0q : w1.cell? ⟨b, 0, none⟩ = some (.slice (some ⟨g, 0, none⟩) Ps.length pc) := r0
    have HSame : Hid (M.sameC ((Ps.getD n M.pg0).l.getD ii M.cl0) c = (((Ps.getD n M.pg0).l.getD ii M.cl0).key == c.key && ((Ps.getD n M.pg0).l.getD ii M.cl0).seq == c.seq)) := Lib.hid rfl
    obtain ⟨d, hd⟩ : ∃ d, d = (Ps.getD n M.pg0).l.getD ii M.cl0 := ⟨_, rfl⟩
    obtain ⟨pq, hpq⟩ : ∃ x, x = (Ps.getD n M.pg0).q := ⟨_, rfl⟩
    obtain ⟨po, hpo⟩ : ∃ x, x = (Ps.getD n M.pg0).o := ⟨_, rfl⟩
    obtain ⟨pk, hpk⟩ : ∃ x, x = (Ps.getD n M.pg0).k := ⟨_, rfl⟩
    obtain ⟨pl, hpl⟩ : ∃ x, x = (Ps.getD n M.pg0).l.length := ⟨_, rfl⟩
    unfold pgV at y0
    rw [← hd] at u0 u1 u2 HSame HI
    rw [← hpq, ← hpo] at u0 u1 u2
    rw [← hpq, ← hpo, ← hpk, ← hpl] at y0
    rw [← hpl] at hji
    have HEQ := Lib.hid (And.intro hpq (And.intro hpo (And.intro hpk hpl)))
    clear he hle r0 hd hpq hpo hpk hpl hcl
    by_cases hkey : d.key = c.key
    · have b1 : (d.key == c.key) = true := by simpa using hkey
      by_cases hseq : d.seq = c.seq
      · have b2 : (d.seq == c.seq) = true := by simpa using hseq
        have HIE := Lib.hid (show M.insC c L = L from by rw [HI.out, if_pos (by rw [HSame.out, b1, b2]; rfl)])
        clear hkey hseq
        go_wp2_with fail
        go_quiet (fail)
        have hbq : Below w1.heap.size w1 (w1.drewN nq) := below_drewN (Below.refl _ _) nq
        obtain ⟨wq, hwq⟩ : ∃ x, x = w1.drewN nq := ⟨_, rfl⟩
        rw [← hwq] at hbq ⊢
        replace HB := carry hbq HB
        replace HM := carry hbq HM
        replace HX := carry hbq HX
        have hxlt2 : xb < wq.heap.size := Nat.lt_of_lt_of_le hxlt1 hbq.size
        clear hwq hbq u0 u1 u2 v0 v1 r0q y0 hxlt1
        go_wp2_with fail
        go_end0
        rw [HIE.out]
        exact ⟨rfl, _, _, _, HM.out, HSM.out, onlyS_below HB.out, Grw.refl _ _ _ _⟩
      · have b2 : (d.seq == c.seq) = false := by rw [beq_eq_false_iff_ne]; exact hseq
        have HIN := Lib.hid (HI.out.trans (if_neg (by rw [HSame.out, b1, b2]; decide)))
        clear hkey hseq
        go_wp2_with fail
        go_quiet (fail)
        have hbq : Below w1.heap.size w1 (w1.drewN nq) := below_drewN (Below.refl _ _) nq
        obtain ⟨wq, hwq⟩ : ∃ x, x = w1.drewN nq := ⟨_, rfl⟩
        rw [← hwq] at hbq ⊢
        replace HB := carry hbq HB
        replace HM := carry hbq HM
        replace HX := carry hbq HX
        have hxlt2 : xb < wq.heap.size := Nat.lt_of_lt_of_le hxlt1 hbq.size
        clear hwq hbq u0 u1 u2 v0 v1 r0q y0 hxlt1
        obtain ⟨w1, hw1q⟩ : ∃ x, x = wq := ⟨_, rfl⟩
        subst hw1q
        have hxlt1 := hxlt2
        have r0 := HM.out.row.cell 0
        obtain ⟨_, eg, y0, hcl⟩ := HM.out.pgs.at_ hnn
        injection eg with eg
        injection eg with eg
        subst eg
        unfold pgV at y0
        replace HC2 := Lib.hid (HC2.out _ HB.out.size)
        have hqx : (Ps.getD n M.pg0).q ≠ xb := fun e => by have h1 := HQL.out _ (M.getD_memP hnn); rw [← HXB.out] at h1; omega
        have HRows := Lib.hid (fun V w2 p' (hV : MemAt B b (some ⟨g, 0, none⟩) pc Ps L V) (hr : RepPg B V w2 (Ps.getD n M.pg0) p') => RepPg.rows hV hnn hr)
        have HPut := Lib.hid (fun V w2 p' (hb : Below w.heap.size w V) (hV : MemAt B b (some ⟨g, 0, none⟩) pc Ps L V) (hl : p'.l = (Ps.getD n M.pg0).l.take ii ++ c :: (Ps.getD n M.pg0).l.drop ii) (hr : RepPg B V w2 (Ps.getD n M.pg0) p') => lay_put15 hb hV HSM.out HBW.out HC.out hn hnn HILE.out hl hr HIN.out)
        have HPg := Lib.hid (fun (V : World) (hV : V.ownsRow B 109 1 (.slice (some ⟨g, 0, none⟩) Ps.length pc) Ps.length (pgsV Ps)) => (show V.cell? ⟨g, n, none⟩ = some (pgV (Ps.getD n M.pg0)) from by
          obtain ⟨g2, cap2, e, _, hc⟩ := own_slice10 hV (by omega)
          injection e with e1 e2 e3
          injection e1 with e1
          injection e1 with e1
          subst e1
          exact hc n _ (pgsV_get hnn)))
        have HOn := Lib.hid (fun V w2 p' (hr : RepPg B V w2 (Ps.getD n M.pg0) p') => hr.only)
        obtain ⟨p, hp⟩ : ∃ p, p = Ps.getD n M.pg0 := ⟨_, rfl⟩
        rw [← hp] at hqx HRows HPut HPg HOn y0 HC2 hpsm
        have HP := Lib.hid hp
        obtain ⟨l, q, o, k⟩ := p
        simp only at hqx y0 hpsm
        clear hp hcl
        obtain ⟨x0, x1, x2⟩ : w1.cell? ⟨xb, 0, none⟩ = some (.string (S c.key)) ∧ w1.cell? ⟨xb, 1, none⟩ = some (.int .i64 c.seq) ∧ w1.cell? ⟨xb, 2, none⟩ = some (.string (S c.val)) := ⟨HX.out.cell 0, HX.out.cell 1, HX.out.cell 2⟩
        have r0' : w1.cell? ⟨b, 0, none⟩ = some (.slice (some ⟨g, 0, none⟩) Ps.length pc) := r0
        clear r0
        have hal := ((Below.refl w1.heap.size w1).alloc (Nat.le_refl _) (.cells (clA c) 38)).drew
        have HMA := Lib.hid (HM.out.below hal)
        have HXA := Lib.hid (show RowIn (clA c) 38 (w1.alloc (.cells (clA c) 38)).drew xb from HX.out.below hal)
        have HBA := Lib.hid (HB.out.trans (hal.mono HB.out.size))
        clear hal
        go_wp2_with fail
        go_region_held3 (fun W => W.cell? ⟨b, 0, none⟩ = some (.slice (some ⟨g, 0, none⟩) Ps.length pc) ∧ W.cell? ⟨g, n, none⟩ = some (.slice (some ⟨q, o, none⟩) l.length k) ∧ W.cell? ⟨xb, 0, none⟩ = some (.string (S c.key)) ∧ W.cell? ⟨xb, 1, none⟩ = some (.int .i64 c.seq) ∧ W.cell? ⟨xb, 2, none⟩ = some (.string (S c.val))) (go_keep) (first
          | (go_at_call 106; refine (HC2.out w1.heap.size _ HMA.out (rowIn_new _ _ _) (Nat.le_refl _)).mono ?_; rintro e w2 ⟨p', e1, hl, hr⟩; obtain ⟨l', q', o', k'⟩ := p'; unfold pgV at e1; simp only at e1; subst e1; obtain ⟨hr1, hr2, hgb⟩ := HRows.out _ _ _ HMA.out hr; have HPT := Lib.hid (HPut.out _ _ _ HBA.out HMA.out hl hr); have HO2 := Lib.hid (HOn.out _ _ _ hr); have s0 : w2.cell? ⟨b, 0, none⟩ = some (.slice (some ⟨g, 0, none⟩) Ps.length pc) := hr1.cell 0; have s1 : w2.cell? ⟨b, 1, none⟩ = some (.int .i64 L.length) := hr1.cell 1; have f1 := hr1.free 1; have s2 : w2.cell? ⟨g, n, none⟩ = some (.slice (some ⟨q, o, none⟩) l.length k) := HPg.out _ hr2; have f2 := (own_cell15 hr2 hnn).2; have hX2 := HO2.out.row HXA.out (fun e => hqx e.2); obtain ⟨s3, s4, s5⟩ : w2.cell? ⟨xb, 0, none⟩ = some (.string (S c.key)) ∧ w2.cell? ⟨xb, 1, none⟩ = some (.int .i64 c.seq) ∧ w2.cell? ⟨xb, 2, none⟩ = some (.string (S c.val)) := ⟨hX2.cell 0, hX2.cell 1, hX2.cell 2⟩; have hbg := hgb.symm; have HR2 := Lib.hid (And.intro hr1 hr2); clear hr1 hr2 hX2 hl hr))
        all_goals
          have hpk : l'.length ≤ k' := HPT.out.2.2.2.2.2.2.2
          by_cases h64 : l'.length = 64
          · have t0 : ((l'.length : Int) == 64) = true := by rw [beq_iff_eq]; omega
            have t1 : decide ((l'.length : Int) = 64) = true := by rw [decide_eq_true_eq]; omega
            have H64 := Lib.hid h64
            have hk32 : (32 : Int) ≤ (k' : Int) := by omega
            have hk64 : (64 : Int) ≤ (k' : Int) := by omega
            clear h64 hpk HC2 HMA HXA HBA HPut HRows HPg HOn s3 s4 s5 HO2 HR2
            go_wp2_with fail
            obtain ⟨w4, hw4⟩ : ∃ W, W = (w2.setCell ⟨g, n, none⟩ (.slice (some ⟨q', o', none⟩) l'.length k')).setCell ⟨b, 1, none⟩ (.int .i64 ((L.length : Int) + 1)) := ⟨_, rfl⟩
            rw [← hw4]
            have HPT2 := HPT.out
            unfold pgV at HPT2
            simp only at HPT2
            rw [← hw4] at HPT2
            obtain ⟨k1, k2, k3, -, -, ko, -, -⟩ := HPT2
            have hP2l : (Ps.set n ⟨l', q', o', k'⟩).length = Ps.length := List.length_set
            have hP2g : (Ps.set n ⟨l', q', o', k'⟩).getD n M.pg0 = ⟨l', q', o', k'⟩ := by simp [List.getD, hnn]
            have hP2o : ∀ i, i < Ps.length → i ≠ n → ((Ps.set n ⟨l', q', o', k'⟩).getD i M.pg0).l.length < 64 := fun i hi hin => by
              rw [show (Ps.set n ⟨l', q', o', k'⟩).getD i M.pg0 = Ps.getD i M.pg0 from by simp only [List.getD, List.getElem?_set_ne (fun e : n = i => hin e.symm)]]
              exact HSM.out _ (M.getD_memP hi)
            clear HPT hw4 HM HX x0 x1 x2 y0 s0 s1 s2 f1 f2 r0'
            generalize Ps.set n ⟨l', q', o', k'⟩ = Ps2 at *
            have HP2 := Lib.hid (And.intro hP2l (And.intro hP2g hP2o))
            have HK := Lib.hid (And.intro k1 (And.intro k2 k3))
            have r4 := k1.row.cell 0
            have r4' : w4.cell? ⟨b, 0, none⟩ = some (.slice (some ⟨g, 0, none⟩) Ps.length pc) := by rw [← hP2l]; exact r4
            have hrow4 : w4.ownsRow B 109 1 (.slice (some ⟨g, 0, none⟩) Ps.length pc) Ps.length (pgsV Ps2) := by rw [← hP2l]; exact k1.pgs.row
            obtain ⟨⟨v4, c4⟩, f4⟩ := own_cell15 hrow4 hnn
            have HRow4 := Lib.hid hrow4
            have hb4 := k1.row.free 0
            clear k1 k2 k3 r4 hP2l hP2g hP2o hrow4
            subst ko
            have HVA : Hid (pgV (pgA ⟨l', q', 0, k'⟩) = .slice (some ⟨q', 0, none⟩) 32 32) := Lib.hid (by
              show Value.slice (some ⟨q', 0, none⟩) (l'.take 32).length 32 = _
              rw [List.length_take, H64.out]; rfl)
            have HVB : Hid (pgV (pgB ⟨l', q', 0, k'⟩) = .slice (some ⟨q', 96, none⟩) 32 32) := Lib.hid (by
              show Value.slice (some ⟨q', 0 + 96, none⟩) (l'.drop 32).length 32 = _
              rw [List.length_drop, H64.out])
            go_region
            all_goals
              obtain ⟨w5, hw5⟩ : ∃ W, W = (w4.setCell ⟨g, n, none⟩ (.slice (some ⟨q', 0, none⟩) 32 32)).drew := ⟨_, rfl⟩
              rw [← hw5]
              have HO5 := Lib.hid (show OnlyS (fun k => k = g) w4 w5 from by
                obtain ⟨a1, a2, a3, a4, a5⟩ := onlyS_set (A := fun k => k = g) w4 g n (.slice (some ⟨q', 0, none⟩) 32 32) rfl
                rw [hw5]
                exact ⟨a1, a2, a3, a4, a5⟩)
              have HRow5 := Lib.hid (show w5.ownsRow B 109 1 (.slice (some ⟨g, 0, none⟩) Ps.length pc) Ps.length ((pgsV Ps2).set n (.slice (some ⟨q', 0, none⟩) 32 32)) from by
                rw [hw5]; exact ownsRow_set15 HRow4.out n _)
              have HRB5 := Lib.hid (HO5.out.row HK.out.1.row (fun e => hbg e))
              have r5 : w5.cell? ⟨b, 0, none⟩ = some (.slice (some ⟨g, 0, none⟩) Ps.length pc) := by rw [← HP2.out.1]; exact HRB5.out.cell 0
              have hgl := (HRow5.out.lt g rfl).2
              have hw6 : IntKind.i64.wrap ((n : Int) + 1) = ((n + 1 : Nat) : Int) := by rw [IntWalk.i64_in _ (by omega)]; omega
              have hBw5 : B ≤ w5.heap.size := Nat.le_trans HBW.out (Nat.le_trans HK.out.2.1.size HO5.out.size)
              clear hw5 r4' c4 f4 hb4
              have hal5 := ((Below.refl w5.heap.size w5).alloc (Nat.le_refl _) (.cells #[.slice (some ⟨q', 96, none⟩) 32 32] 109))
              have CI := Lib.hid (insPages15 (B := B) (g := g) (n := Ps.length) (cap := pc) (i := n + 1) (X := w5.heap.size) (w := (w5.alloc (.cells #[.slice (some ⟨q', 96, none⟩) 32 32] 109)).drew) ((pgsV Ps2).set n (.slice (some ⟨q', 0, none⟩) 32 32)) (.slice (some ⟨q', 96, none⟩) 32 32) rfl (HRow5.out.alloc _) (fun u hu => by
                rcases List.mem_or_eq_of_mem_set hu with hu | rfl
                · exact pgsV_one _ u hu
                · rfl) (by omega) (by omega) (rowIn_new _ _ _) (by omega) (Nat.le_trans hBw5 (by show w5.heap.size ≤ (w5.alloc _).heap.size; rw [szA]; exact Nat.le_succ _)))
              have HRB6 := Lib.hid (show RowIn #[.slice (some ⟨g, 0, none⟩) Ps2.length pc, .int .i64 ((M.insC c L).length : Int), .bool true] 105 (w5.alloc (.cells #[.slice (some ⟨q', 96, none⟩) 32 32] 109)).drew b from HRB5.out.more _)
              have HO6 := Lib.hid (show OnlyS (fun k => k = g) w4 (w5.alloc (.cells #[.slice (some ⟨q', 96, none⟩) 32 32] 109)).drew from HO5.out.trans (onlyS_below hal5.drew))
              have hsz6 : w4.heap.size ≤ (w5.alloc (.cells #[.slice (some ⟨q', 96, none⟩) 32 32] 109)).drew.heap.size := HO6.out.size
              have r6a : (w5.alloc (.cells #[.slice (some ⟨q', 96, none⟩) 32 32] 109)).cell? ⟨b, 0, none⟩ = some (.slice (some ⟨g, 0, none⟩) Ps.length pc) := by rw [← HP2.out.1]; exact HRB6.out.cell 0
              have r6b : (w5.alloc (.cells #[.slice (some ⟨q', 96, none⟩) 32 32] 109)).drew.cell? ⟨b, 0, none⟩ = some (.slice (some ⟨g, 0, none⟩) Ps.length pc) := r6a
              clear hal5
              simp only [Int.natCast_add, Int.natCast_one] at hw6 CI
              go_wp2_with fail
              go_region_law (first
                | (go_simp; go_at_call 107; refine (CI.out).mono ?_; rintro e w6 ⟨g', c', rfl, h2, h3, h4⟩; have hr6 := h3.row HRB6.out (fun e => hbg e); have s6 : w6.cell? ⟨b, 0, none⟩ = some (.slice (some ⟨g, 0, none⟩) Ps2.length pc) := hr6.cell 0; have f6 := hr6.free 0; have HI6 := Lib.hid (And.intro h2 (And.intro h3 h4)); clear h2 h3 h4 hr6))
              all_goals
                go_wp2_with fail
                go_end0
                have hn2 : n < Ps2.length := by rw [HP2.out.1]; exact hnn
                have HF := lay_part15 (b := b) (Ps0 := Ps) (Ps := Ps2) (a := n) (w2 := w6) (g' := g') (pc' := c') HK.out.1 hn2 (by rw [HP2.out.2.1]; exact H64.out) HK.out.2.1 HK.out.2.2 (HO6.out.trans HI6.out.2.1) (by
                  rw [HP2.out.1, ← parted_vals hn2, HP2.out.2.1, HVA.out, HVB.out]
                  exact HI6.out.1) (by
                  rcases HI6.out.2.2 with q1 | q1
                  · exact .inl q1
                  · exact .inr (by rw [q1]; exact hsz6)) (fun q hq => (HK.out.1.sm q hq).2) (fun i hi hin => HP2.out.2.2 i (by rw [← HP2.out.1]; exact hi) hin)
                rw [HP2.out.1] at HF
                exact ⟨rfl, HF⟩
          · have t0 : ((l'.length : Int) == 64) = false := by rw [beq_eq_false_iff_ne]; omega
            have t1 : decide ((l'.length : Int) = 64) = false := by rw [decide_eq_false_iff_not]; omega
            go_wp2_with fail
            go_end0
            exact ⟨rfl, _, _, _, HPT.out.1, HPT.out.2.2.2.2.1 (by have := HPT.out.2.2.2.1; omega), HPT.out.2.1, HPT.out.2.2.1⟩
    · have b1 : (d.key == c.key) = false := by rw [beq_eq_false_iff_ne]; exact hkey
      have HIN := Lib.hid (HI.out.trans (if_neg (by rw [HSame.out, b1, Bool.false_and]; decide)))
      clear hkey
      go_wp2_with fail
      go_quiet (fail)
      have hbq : Below w1.heap.size w1 (w1.drewN nq) := below_drewN (Below.refl _ _) nq
      obtain ⟨wq, hwq⟩ : ∃ x, x = w1.drewN nq := ⟨_, rfl⟩
      rw [← hwq] at hbq ⊢
      replace HB := carry hbq HB
      replace HM := carry hbq HM
      replace HX := carry hbq HX
      have hxlt2 : xb < wq.heap.size := Nat.lt_of_lt_of_le hxlt1 hbq.size
      clear hwq hbq u0 u1 u2 v0 v1 r0q y0 hxlt1
      obtain ⟨w1, hw1q⟩ : ∃ x, x = wq := ⟨_, rfl⟩
      subst hw1q
      have hxlt1 := hxlt2
      have r0 := HM.out.row.cell 0
      obtain ⟨_, eg, y0, hcl⟩ := HM.out.pgs.at_ hnn
      injection eg with eg
      injection eg with eg
      subst eg
      unfold pgV at y0
      replace HC2 := Lib.hid (HC2.out _ HB.out.size)
      have hqx : (Ps.getD n M.pg0).q ≠ xb := fun e => by have h1 := HQL.out _ (M.getD_memP hnn); rw [← HXB.out] at h1; omega
      have HRows := Lib.hid (fun V w2 p' (hV : MemAt B b (some ⟨g, 0, none⟩) pc Ps L V) (hr : RepPg B V w2 (Ps.getD n M.pg0) p') => RepPg.rows hV hnn hr)
      have HPut := Lib.hid (fun V w2 p' (hb : Below w.heap.size w V) (hV : MemAt B b (some ⟨g, 0, none⟩) pc Ps L V) (hl : p'.l = (Ps.getD n M.pg0).l.take ii ++ c :: (Ps.getD n M.pg0).l.drop ii) (hr : RepPg B V w2 (Ps.getD n M.pg0) p') => lay_put15 hb hV HSM.out HBW.out HC.out hn hnn HILE.out hl hr HIN.out)
      have HPg := Lib.hid (fun (V : World) (hV : V.ownsRow B 109 1 (.slice (some ⟨g, 0, none⟩) Ps.length pc) Ps.length (pgsV Ps)) => (show V.cell? ⟨g, n, none⟩ = some (pgV (Ps.getD n M.pg0)) from by
        obtain ⟨g2, cap2, e, _, hc⟩ := own_slice10 hV (by omega)
        injection e with e1 e2 e3
        injection e1 with e1
        injection e1 with e1
        subst e1
        exact hc n _ (pgsV_get hnn)))
      have HOn := Lib.hid (fun V w2 p' (hr : RepPg B V w2 (Ps.getD n M.pg0) p') => hr.only)
      obtain ⟨p, hp⟩ : ∃ p, p = Ps.getD n M.pg0 := ⟨_, rfl⟩
      rw [← hp] at hqx HRows HPut HPg HOn y0 HC2 hpsm
      have HP := Lib.hid hp
      obtain ⟨l, q, o, k⟩ := p
      simp only at hqx y0 hpsm
      clear hp hcl
      obtain ⟨x0, x1, x2⟩ : w1.cell? ⟨xb, 0, none⟩ = some (.string (S c.key)) ∧ w1.cell? ⟨xb, 1, none⟩ = some (.int .i64 c.seq) ∧ w1.cell? ⟨xb, 2, none⟩ = some (.string (S c.val)) := ⟨HX.out.cell 0, HX.out.cell 1, HX.out.cell 2⟩
      have r0' : w1.cell? ⟨b, 0, none⟩ = some (.slice (some ⟨g, 0, none⟩) Ps.length pc) := r0
      clear r0
      have hal := ((Below.refl w1.heap.size w1).alloc (Nat.le_refl _) (.cells (clA c) 38)).drew
      have HMA := Lib.hid (HM.out.below hal)
      have HXA := Lib.hid (show RowIn (clA c) 38 (w1.alloc (.cells (clA c) 38)).drew xb from HX.out.below hal)
      have HBA := Lib.hid (HB.out.trans (hal.mono HB.out.size))
      clear hal
      go_wp2_with fail
      go_region_held3 (fun W => W.cell? ⟨b, 0, none⟩ = some (.slice (some ⟨g, 0, none⟩) Ps.length pc) ∧ W.cell? ⟨g, n, none⟩ = some (.slice (some ⟨q, o, none⟩) l.length k) ∧ W.cell? ⟨xb, 0, none⟩ = some (.string (S c.key)) ∧ W.cell? ⟨xb, 1, none⟩ = some (.int .i64 c.seq) ∧ W.cell? ⟨xb, 2, none⟩ = some (.string (S c.val))) (go_keep) (first
        | (go_at_call 106; refine (HC2.out w1.heap.size _ HMA.out (rowIn_new _ _ _) (Nat.le_refl _)).mono ?_; rintro e w2 ⟨p', e1, hl, hr⟩; obtain ⟨l', q', o', k'⟩ := p'; unfold pgV at e1; simp only at e1; subst e1; obtain ⟨hr1, hr2, hgb⟩ := HRows.out _ _ _ HMA.out hr; have HPT := Lib.hid (HPut.out _ _ _ HBA.out HMA.out hl hr); have HO2 := Lib.hid (HOn.out _ _ _ hr); have s0 : w2.cell? ⟨b, 0, none⟩ = some (.slice (some ⟨g, 0, none⟩) Ps.length pc) := hr1.cell 0; have s1 : w2.cell? ⟨b, 1, none⟩ = some (.int .i64 L.length) := hr1.cell 1; have f1 := hr1.free 1; have s2 : w2.cell? ⟨g, n, none⟩ = some (.slice (some ⟨q, o, none⟩) l.length k) := HPg.out _ hr2; have f2 := (own_cell15 hr2 hnn).2; have hX2 := HO2.out.row HXA.out (fun e => hqx e.2); obtain ⟨s3, s4, s5⟩ : w2.cell? ⟨xb, 0, none⟩ = some (.string (S c.key)) ∧ w2.cell? ⟨xb, 1, none⟩ = some (.int .i64 c.seq) ∧ w2.cell? ⟨xb, 2, none⟩ = some (.string (S c.val)) := ⟨hX2.cell 0, hX2.cell 1, hX2.cell 2⟩; have hbg := hgb.symm; have HR2 := Lib.hid (And.intro hr1 hr2); clear hr1 hr2 hX2 hl hr))
      all_goals
        have hpk : l'.length ≤ k' := HPT.out.2.2.2.2.2.2.2
        by_cases h64 : l'.length = 64
        · have t0 : ((l'.length : Int) == 64) = true := by rw [beq_iff_eq]; omega
          have t1 : decide ((l'.length : Int) = 64) = true := by rw [decide_eq_true_eq]; omega
          have H64 := Lib.hid h64
          have hk32 : (32 : Int) ≤ (k' : Int) := by omega
          have hk64 : (64 : Int) ≤ (k' : Int) := by omega
          clear h64 hpk HC2 HMA HXA HBA HPut HRows HPg HOn s3 s4 s5 HO2 HR2
          go_wp2_with fail
          obtain ⟨w4, hw4⟩ : ∃ W, W = (w2.setCell ⟨g, n, none⟩ (.slice (some ⟨q', o', none⟩) l'.length k')).setCell ⟨b, 1, none⟩ (.int .i64 ((L.length : Int) + 1)) := ⟨_, rfl⟩
          rw [← hw4]
          have HPT2 := HPT.out
          unfold pgV at HPT2
          simp only at HPT2
          rw [← hw4] at HPT2
          obtain ⟨k1, k2, k3, -, -, ko, -, -⟩ := HPT2
          have hP2l : (Ps.set n ⟨l', q', o', k'⟩).length = Ps.length := List.length_set
          have hP2g : (Ps.set n ⟨l', q', o', k'⟩).getD n M.pg0 = ⟨l', q', o', k'⟩ := by simp [List.getD, hnn]
          have hP2o : ∀ i, i < Ps.length → i ≠ n → ((Ps.set n ⟨l', q', o', k'⟩).getD i M.pg0).l.length < 64 := fun i hi hin => by
            rw [show (Ps.set n ⟨l', q', o', k'⟩).getD i M.pg0 = Ps.getD i M.pg0 from by simp only [List.getD, List.getElem?_set_ne (fun e : n = i => hin e.symm)]]
            exact HSM.out _ (M.getD_memP hi)
          clear HPT hw4 HM HX x0 x1 x2 y0 s0 s1 s2 f1 f2 r0'
          generalize Ps.set n ⟨l', q', o', k'⟩ = Ps2 at *
          have HP2 := Lib.hid (And.intro hP2l (And.intro hP2g hP2o))
          have HK := Lib.hid (And.intro k1 (And.intro k2 k3))
          have r4 := k1.row.cell 0
          have r4' : w4.cell? ⟨b, 0, none⟩ = some (.slice (some ⟨g, 0, none⟩) Ps.length pc) := by rw [← hP2l]; exact r4
          have hrow4 : w4.ownsRow B 109 1 (.slice (some ⟨g, 0, none⟩) Ps.length pc) Ps.length (pgsV Ps2) := by rw [← hP2l]; exact k1.pgs.row
          obtain ⟨⟨v4, c4⟩, f4⟩ := own_cell15 hrow4 hnn
          have HRow4 := Lib.hid hrow4
          have hb4 := k1.row.free 0
          clear k1 k2 k3 r4 hP2l hP2g hP2o hrow4
          subst ko
          have HVA : Hid (pgV (pgA ⟨l', q', 0, k'⟩) = .slice (some ⟨q', 0, none⟩) 32 32) := Lib.hid (by
            show Value.slice (some ⟨q', 0, none⟩) (l'.take 32).length 32 = _
            rw [List.length_take, H64.out]; rfl)
          have HVB : Hid (pgV (pgB ⟨l', q', 0, k'⟩) = .slice (some ⟨q', 96, none⟩) 32 32) := Lib.hid (by
            show Value.slice (some ⟨q', 0 + 96, none⟩) (l'.drop 32).length 32 = _
            rw [List.length_drop, H64.out])
          go_region
          all_goals
            obtain ⟨w5, hw5⟩ : ∃ W, W = (w4.setCell ⟨g, n, none⟩ (.slice (some ⟨q', 0, none⟩) 32 32)).drew := ⟨_, rfl⟩
            rw [← hw5]
            have HO5 := Lib.hid (show OnlyS (fun k => k = g) w4 w5 from by
              obtain ⟨a1, a2, a3, a4, a5⟩ := onlyS_set (A := fun k => k = g) w4 g n (.slice (some ⟨q', 0, none⟩) 32 32) rfl
              rw [hw5]
              exact ⟨a1, a2, a3, a4, a5⟩)
            have HRow5 := Lib.hid (show w5.ownsRow B 109 1 (.slice (some ⟨g, 0, none⟩) Ps.length pc) Ps.length ((pgsV Ps2).set n (.slice (some ⟨q', 0, none⟩) 32 32)) from by
              rw [hw5]; exact ownsRow_set15 HRow4.out n _)
            have HRB5 := Lib.hid (HO5.out.row HK.out.1.row (fun e => hbg e))
            have r5 : w5.cell? ⟨b, 0, none⟩ = some (.slice (some ⟨g, 0, none⟩) Ps.length pc) := by rw [← HP2.out.1]; exact HRB5.out.cell 0
            have hgl := (HRow5.out.lt g rfl).2
            have hw6 : IntKind.i64.wrap ((n : Int) + 1) = ((n + 1 : Nat) : Int) := by rw [IntWalk.i64_in _ (by omega)]; omega
            have hBw5 : B ≤ w5.heap.size := Nat.le_trans HBW.out (Nat.le_trans HK.out.2.1.size HO5.out.size)
            clear hw5 r4' c4 f4 hb4
            have hal5 := ((Below.refl w5.heap.size w5).alloc (Nat.le_refl _) (.cells #[.slice (some ⟨q', 96, none⟩) 32 32] 109))
            have CI := Lib.hid (insPages15 (B := B) (g := g) (n := Ps.length) (cap := pc) (i := n + 1) (X := w5.heap.size) (w := (w5.alloc (.cells #[.slice (some ⟨q', 96, none⟩) 32 32] 109)).drew) ((pgsV Ps2).set n (.slice (some ⟨q', 0, none⟩) 32 32)) (.slice (some ⟨q', 96, none⟩) 32 32) rfl (HRow5.out.alloc _) (fun u hu => by
              rcases List.mem_or_eq_of_mem_set hu with hu | rfl
              · exact pgsV_one _ u hu
              · rfl) (by omega) (by omega) (rowIn_new _ _ _) (by omega) (Nat.le_trans hBw5 (by show w5.heap.size ≤ (w5.alloc _).heap.size; rw [szA]; exact Nat.le_succ _)))
            have HRB6 := Lib.hid (show RowIn #[.slice (some ⟨g, 0, none⟩) Ps2.length pc, .int .i64 ((M.insC c L).length : Int), .bool true] 105 (w5.alloc (.cells #[.slice (some ⟨q', 96, none⟩) 32 32] 109)).drew b from HRB5.out.more _)
            have HO6 := Lib.hid (show OnlyS (fun k => k = g) w4 (w5.alloc (.cells #[.slice (some ⟨q', 96, none⟩) 32 32] 109)).drew from HO5.out.trans (onlyS_below hal5.drew))
            have hsz6 : w4.heap.size ≤ (w5.alloc (.cells #[.slice (some ⟨q', 96, none⟩) 32 32] 109)).drew.heap.size := HO6.out.size
            have r6a : (w5.alloc (.cells #[.slice (some ⟨q', 96, none⟩) 32 32] 109)).cell? ⟨b, 0, none⟩ = some (.slice (some ⟨g, 0, none⟩) Ps.length pc) := by rw [← HP2.out.1]; exact HRB6.out.cell 0
            have r6b : (w5.alloc (.cells #[.slice (some ⟨q', 96, none⟩) 32 32] 109)).drew.cell? ⟨b, 0, none⟩ = some (.slice (some ⟨g, 0, none⟩) Ps.length pc) := r6a
            clear hal5
            simp only [Int.natCast_add, Int.natCast_one] at hw6 CI
            go_wp2_with fail
            go_region_law (first
              | (go_simp; go_at_call 107; refine (CI.out).mono ?_; rintro e w6 ⟨g', c', rfl, h2, h3, h4⟩; have hr6 := h3.row HRB6.out (fun e => hbg e); have s6 : w6.cell? ⟨b, 0, none⟩ = some (.slice (some ⟨g, 0, none⟩) Ps2.length pc) := hr6.cell 0; have f6 := hr6.free 0; have HI6 := Lib.hid (And.intro h2 (And.intro h3 h4)); clear h2 h3 h4 hr6))
            all_goals
              go_wp2_with fail
              go_end0
              have hn2 : n < Ps2.length := by rw [HP2.out.1]; exact hnn
              have HF := lay_part15 (b := b) (Ps0 := Ps) (Ps := Ps2) (a := n) (w2 := w6) (g' := g') (pc' := c') HK.out.1 hn2 (by rw [HP2.out.2.1]; exact H64.out) HK.out.2.1 HK.out.2.2 (HO6.out.trans HI6.out.2.1) (by
                rw [HP2.out.1, ← parted_vals hn2, HP2.out.2.1, HVA.out, HVB.out]
                exact HI6.out.1) (by
                rcases HI6.out.2.2 with q1 | q1
                · exact .inl q1
                · exact .inr (by rw [q1]; exact hsz6)) (fun q hq => (HK.out.1.sm q hq).2) (fun i hi hin => HP2.out.2.2 i (by rw [← HP2.out.1]; exact hi) hin)
              rw [HP2.out.1] at HF
              exact ⟨rfl, HF⟩
        · have t0 : ((l'.length : Int) == 64) = false := by rw [beq_eq_false_iff_ne]; omega
          have t1 : decide ((l'.length : Int) = 64) = false := by rw [decide_eq_false_iff_not]; omega
          go_wp2_with fail
          go_end0
          exact ⟨rfl, _, _, _, HPT.out.1, HPT.out.2.2.2.2.1 (by have := HPT.out.2.2.2.1; omega), HPT.out.2.1, HPT.out.2.2.1⟩

end Go.Proofs.YtnhljlmelbiljaaGreat

/- Layer 15: lay, by a contract, also into a memory without pages; Put. -/
namespace Go.Proofs.YtnhljlmelbiljaaGreat
set_option linter.unusedVariables false
set_option linter.unusedSimpArgs false
open Go Go.RowKit
attribute [local go_sem ↓] run_index_S
attribute [local go_sem] S_append S_extract

set_option maxHeartbeats 4000000 in
set_option maxRecDepth 100000 in
theorem layNil15_any (B b : Nat) (pa : Option Addr) (pc : Nat) (L : List M.Cl) (c : M.Cl) (w : World) (h : MemAt B b pa pc [] L w) (hBw : B ≤ w.heap.size) (hc : ClOk c ∧ M.mayC c = true) :
    Calls Tryz.prog 81 #[.pointer (some ⟨b, 0, none⟩), .agg (clA c)] w (LayR B b pa [] (M.insC c L) w) := by
  obtain rfl : L = [] := h.flat.symm
  have hal := (Below.refl w.heap.size w).alloc (Nat.le_refl _) (.cells (clA c) 38)
  have HB := Lib.hid hal
  have HM := Lib.hid (h.below hal)
  have HX := Lib.hid (rowIn_new (clA c) 38 w)
  have CS := Lib.hid (seek15_any B b _ pc [] [] c _ (h.below hal))
  have HBW := Lib.hid hBw
  have HBl := Lib.hid h.row.lt
  have HBB := Lib.hid h.bb
  have hxlt : w.heap.size < (w.alloc (.cells (clA c) 38)).heap.size := by rw [szA]; exact Nat.lt_succ_self _
  unfold SeekR at CS
  have e1 : M.seekA [] c = 0 := rfl
  have e2 : M.seekJ [] c = 0 := rfl
  rw [e1, e2] at CS
  clear h hal hBw e1 e2
  go_enter Tryz.func81, Tryz.ntmps81
  go_wp2_with fail
  refine (CS.out).mono ?_
  rintro e w1 ⟨rfl, hb⟩
  replace HB := carry hb HB
  replace HM := carry hb HM
  replace HX := carry hb HX
  have hxlt1 : w.heap.size < w1.heap.size := Nat.lt_of_lt_of_le hxlt hb.size
  clear hb CS hxlt
  obtain ⟨xb, hxb⟩ : ∃ x, x = w.heap.size := ⟨_, rfl⟩
  rw [← hxb] at HX hxlt1 ⊢
  have HXB := Lib.hid hxb
  have hbx : b < w1.heap.size := HM.out.row.lt
  clear hxb
  have hr := HM.out.row
  have r0 : w1.cell? ⟨b, 0, none⟩ = some (.slice pa 0 pc) := hr.cell 0
  have r1 : w1.cell? ⟨b, 1, none⟩ = some (.int .i64 0) := hr.cell 1
  have f0 := hr.free 0
  have f1 := hr.free 1
  have hne1 : ¬ (b = w1.heap.size) := by omega
  have hne2 : ¬ (w1.heap.size = b) := by omega
  go_wp2_with fail
  obtain ⟨PB, hPB⟩ : ∃ x, x = w1.heap.size := ⟨_, rfl⟩
  obtain ⟨W2, hW2⟩ : ∃ W, W = (w1.setCell ⟨b, 0, none⟩ (.slice (some ⟨PB, 0, none⟩) 1 1)).alloc (.cells #[.slice none 0 0] 109) := ⟨_, rfl⟩
  have HRb := Lib.hid (show RowIn #[.slice (some ⟨PB, 0, none⟩) 1 1, .int .i64 0, .bool true] 105 W2 b from by
    rw [hW2]; exact (hr.set 0 (.slice (some ⟨PB, 0, none⟩) 1 1)).more _)
  have HRp := Lib.hid (show RowIn #[.slice none 0 0] 109 W2 PB from by
    rw [hW2]; exact rowIn_at _ _ _ _ (by rw [hPB]; simp [World.setCell]))
  have HRx := Lib.hid (show RowIn (clA c) 38 W2 xb from by
    rw [hW2]; exact (HX.out.other (rowIn_ne HX.out hr (by decide)) 0 _).more _)
  have HO2 := Lib.hid (show OnlyS (fun k => k = b) w1 W2 from by
    rw [hW2]; exact (onlyS_set (A := fun k => k = b) w1 b 0 _ rfl).trans (onlyS_below ((Below.refl _ _).alloc (Nat.le_refl _) _)))
  have hbp : ¬ (b = PB) := by rw [hPB]; exact hne1
  have hpb : ¬ (PB = b) := by rw [hPB]; exact hne2
  have HPB := Lib.hid hPB
  have HC := Lib.hid hc
  clear hr r0 r1 f0 f1 hne1 hne2
  rw [← hPB, ← hW2]
  clear hPB hW2 hc
  obtain ⟨x0, x1, x2⟩ : W2.cell? ⟨xb, 0, none⟩ = some (.string (S c.key)) ∧ W2.cell? ⟨xb, 1, none⟩ = some (.int .i64 c.seq) ∧ W2.cell? ⟨xb, 2, none⟩ = some (.string (S c.val)) := ⟨HRx.out.cell 0, HRx.out.cell 1, HRx.out.cell 2⟩
  have r0 : W2.cell? ⟨b, 0, none⟩ = some (.slice (some ⟨PB, 0, none⟩) 1 1) := HRb.out.cell 0
  have p0 : W2.cell? ⟨PB, 0, none⟩ = some (.slice none 0 0) := HRp.out.cell 0
  have hal := ((Below.refl W2.heap.size W2).alloc (Nat.le_refl _) (.cells (clA c) 38)).drew
  have HAL := Lib.hid hal
  have CI := Lib.hid (insNil15 c W2.heap.size (W2.alloc (.cells (clA c) 38)).drew (rowIn_new _ _ _))
  clear hal
  go_region_held3 (fun W => W.cell? ⟨b, 0, none⟩ = some (.slice (some ⟨PB, 0, none⟩) 1 1) ∧ W.cell? ⟨PB, 0, none⟩ = some (.slice none 0 0) ∧ W.cell? ⟨xb, 0, none⟩ = some (.string (S c.key)) ∧ W.cell? ⟨xb, 1, none⟩ = some (.int .i64 c.seq) ∧ W.cell? ⟨xb, 2, none⟩ = some (.string (S c.val))) (go_keep) (first
    | (go_at_call 106; refine (CI.out).mono ?_; rintro e w3 ⟨c', rfl, ho, hb3⟩; have hb23 := HAL.out.trans (hb3.mono HAL.out.size); have hr1 := HRb.out.below hb23; have hr2 := HRp.out.below hb23; have hr3 := HRx.out.below hb23; have s0 : w3.cell? ⟨b, 0, none⟩ = some (.slice (some ⟨PB, 0, none⟩) 1 1) := hr1.cell 0; have s1 : w3.cell? ⟨b, 1, none⟩ = some (.int .i64 0) := hr1.cell 1; have f1 := hr1.free 1; have s2 : w3.cell? ⟨PB, 0, none⟩ = some (.slice none 0 0) := hr2.cell 0; have f2 := hr2.free 0; obtain ⟨s3, s4, s5⟩ : w3.cell? ⟨xb, 0, none⟩ = some (.string (S c.key)) ∧ w3.cell? ⟨xb, 1, none⟩ = some (.int .i64 c.seq) ∧ w3.cell? ⟨xb, 2, none⟩ = some (.string (S c.val)) := ⟨hr3.cell 0, hr3.cell 1, hr3.cell 2⟩; have HF := Lib.hid (And.intro ho (And.intro hb23 (And.intro hr1 hr2))); clear ho hb3 hb23 hr1 hr2 hr3))
  all_goals
    have hq0 : (W2.alloc (.cells (clA c) 38)).drew.heap.size = W2.heap.size + 1 := by show (W2.alloc _).heap.size = _; rw [szA]
    rw [hq0] at HF
    obtain ⟨Q, hQ⟩ : ∃ x, x = W2.heap.size + 1 := ⟨_, rfl⟩
    have hpk : PB < W2.heap.size := HRp.out.lt
    have hbk : b < W2.heap.size := HRb.out.lt
    rw [← hQ] at HF ⊢
    have HQ := Lib.hid hQ
    clear hQ hq0
    go_wp2_with fail
    go_end0
    obtain ⟨ho, hb23, hr1, hr2⟩ := HF.out
    have hQB : B ≤ Q := by rw [HQ.out]; have := HBW.out; have := HB.out.size; have := HO2.out.size; omega
    have hQb : Q ≠ b := by rw [HQ.out]; omega
    have hQp : Q ≠ PB := by rw [HQ.out]; omega
    have hPBB : B ≤ PB := by rw [HPB.out]; exact Nat.le_trans HBW.out HB.out.size
    have ho2 := ownsRow_setCell_other (a := ⟨b, 1, none⟩) (ownsRow_setCell_other (a := ⟨PB, 0, none⟩) ho (fun e => by injection e with e; exact hQp e) (.slice (some ⟨Q, 0, none⟩) 1 c')) (fun e => by injection e with e; exact hQb e) (.int .i64 1)
    have hrow := pgOwn_row (p := ⟨[c], Q, 0, c'⟩) ho2 (by simp)
    have hrp := (hr2.set 0 (.slice (some ⟨Q, 0, none⟩) 1 c')).other (c := b) hpb 1 (.int .i64 1)
    refine ⟨rfl, some ⟨PB, 0, none⟩, 1, [⟨[c], Q, 0, c'⟩], ⟨?_, ⟨?_, fun p hp => ?_⟩, rfl, List.pairwise_singleton _ _, fun p hp => ?_, fun p hp => ?_, fun i j hi hj hij => ?_, HBB.out, by show 1 ≤ 50000; omega, fun x hx => ?_⟩, fun p hp => ?_, ?_, ⟨fun k hk => ?_, fun k hk => ?_⟩⟩
    · exact (hr1.other (c := PB) hbp 0 _).set 1 (.int .i64 1)
    · refine ⟨rfl, .inr ⟨PB, 1, _, rfl, hPBB, hrp, Nat.le_refl _, by unfold maxLen; omega, rfl, rfl⟩⟩
    · rw [List.mem_singleton] at hp
      subst hp
      exact pgCl_own ho2 rfl
    · rw [List.mem_singleton] at hp
      subst hp
      refine ⟨hQB, hrow.2.2.1, ?_⟩
      rcases Nat.lt_or_ge 1 c' with q | q
      · exact .inr ⟨rfl, q, ownP_mono ho2 (by show B ≤ _; have := HBW.out; have := HB.out.size; have := HO2.out.size; have := HAL.out.size; omega)⟩
      · exact .inl (by have := hrow.2.2.2; show 1 = c'; simp at this; omega)
    · rw [List.mem_singleton] at hp
      subst hp
      exact ⟨by simp, by simp⟩
    · simp at hi hj; omega
    · rw [show M.insC c [] = [c] from rfl, List.mem_singleton] at hx
      subst hx
      exact HC.out
    · rw [List.mem_singleton] at hp
      subst hp
      simp
    · have k1 : OnlyS (WrS b pa []) w w1 := onlyS_below HB.out
      have k2 : OnlyS (fun k => k = b ∨ k = PB) w1 (((w3.setCell ⟨PB, 0, none⟩ (.slice (some ⟨Q, 0, none⟩) 1 c')).setCell ⟨b, 1, none⟩ (.int .i64 1))) :=
        ((HO2.out.mono (fun k hk => .inl hk)).trans (onlyS_below hb23)).trans ((onlyS_set _ PB 0 _ (.inr rfl)).trans (onlyS_set _ b 1 _ (.inl rfl)))
      exact k1.trans2 k2 (fun x hx => by
        rcases hx with rfl | rfl
        · exact .inl (.inl rfl)
        · exact .inr (by rw [HPB.out]; exact HB.out.size))
    · rcases hk with rfl | ⟨o, e⟩ | ⟨p, hp, hp1, rfl⟩
      · exact .inl (.inl rfl)
      · injection e with e
        injection e with e1 e2
        exact .inr (by rw [← e1, HPB.out]; exact HB.out.size)
      · rw [List.mem_singleton] at hp
        subst hp
        exact .inr (by show w.heap.size ≤ Q; rw [HQ.out]; have := HB.out.size; have := HO2.out.size; omega)
    · rcases hk with rfl | ⟨o, e⟩ | ⟨p, hp, rfl⟩
      · exact .inl (.inl rfl)
      · injection e with e
        injection e with e1 e2
        exact .inr (by rw [← e1, HPB.out]; exact HB.out.size)
      · rw [List.mem_singleton] at hp
        subst hp
        exact .inr (by show w.heap.size ≤ Q; rw [HQ.out]; have := HB.out.size; have := HO2.out.size; omega)
theorem lay15_any (B b : Nat) (pa : Option Addr) (pc : Nat) (Ps : List M.Pg) (L : List M.Cl) (c : M.Cl) (w : World) (h : MemAt B b pa pc Ps L w) (hsm : SmP Ps) (hBw : B ≤ w.heap.size) (hc : ClOk c ∧ M.mayC c = true) (hn : L.length < 50000) :
    Calls Tryz.prog 81 #[.pointer (some ⟨b, 0, none⟩), .agg (clA c)] w (LayR B b pa Ps (M.insC c L) w) := by
  cases Ps with
  | nil => exact layNil15_any B b pa pc L c w h hBw hc
  | cons p t => exact layCons15_any B b pa pc (p :: t) L c w h hsm hBw hc hn (by simp)

end Go.Proofs.YtnhljlmelbiljaaGreat
