/- Layer 15: a full page, parted, in a memory. -/
import Derived.Test.YthidmgnfdikppaaMemH
namespace Go.Proofs.Ythidmgnfdikppaa
set_option linter.unusedVariables false
set_option linter.unusedSimpArgs false
open Go Go.RowKit

def PgR (p q : M.Pg) : Prop := (p.l.length ≠ p.k ∨ q.l.length ≠ q.k) → p.q ≠ q.q
theorem pgsAp_iff {Ps : List M.Pg} : PgsAp Ps ↔ Ps.Pairwise PgR := by
  rw [List.pairwise_iff_getElem]
  constructor
  · intro h i j hi hj hij hn
    have gi := M.gD15 Ps i M.pg0 hi
    have gj := M.gD15 Ps j M.pg0 hj
    rcases hn with hn | hn
    · have := h i j hi hj (by omega) (by rw [gi]; exact hn)
      rwa [gi, gj] at this
    · have := h j i hj hi (by omega) (by rw [gj]; exact hn)
      rw [gi, gj] at this
      exact fun e => this e.symm
  · intro h i j hi hj hij hn
    rw [M.gD15 Ps i M.pg0 hi] at hn ⊢
    rw [M.gD15 Ps j M.pg0 hj]
    rcases Nat.lt_or_ge i j with q | q
    · exact h i j hi hj q (.inl hn)
    · exact fun e => h j i hj hi (by omega) (.inr hn) e.symm
theorem OnlyS.trans2 {A A' : Nat → Prop} {a b c : World} (h : OnlyS A a b) (k : OnlyS A' b c) (hA : ∀ x, A' x → A x ∨ a.heap.size ≤ x) : OnlyS A a c :=
  ⟨k.os.trans h.os, k.tape.trans h.tape, k.output.trans h.output, Nat.le_trans h.size k.size, fun x hx hn => (k.block x (Nat.lt_of_lt_of_le hx h.size) (fun ha => by
    rcases hA x ha with q | q
    · exact hn q
    · omega)).trans (h.block x hx hn)⟩
def pgA (p : M.Pg) : M.Pg := ⟨p.l.take 32, p.q, p.o, 32⟩
def pgB (p : M.Pg) : M.Pg := ⟨p.l.drop 32, p.q, p.o + 96, 32⟩
def parted (Ps : List M.Pg) (a : Nat) : List M.Pg := Ps.take a ++ pgA (Ps.getD a M.pg0) :: pgB (Ps.getD a M.pg0) :: Ps.drop (a + 1)
section
variable {B b g g' pc pc' : Nat} {Ps : List M.Pg} {L : List M.Cl} {w w2 : World}
theorem parted_len {a : Nat} (ha : a < Ps.length) : (parted Ps a).length = Ps.length + 1 := by simp [parted]; omega
theorem parted_mem {a : Nat} (ha : a < Ps.length) {q : M.Pg} (h : q ∈ parted Ps a) : q = pgA (Ps.getD a M.pg0) ∨ q = pgB (Ps.getD a M.pg0) ∨ ∃ i, i < Ps.length ∧ i ≠ a ∧ Ps.getD i M.pg0 = q := by
  unfold parted at h
  rcases List.mem_append.1 h with h | h
  · obtain ⟨i, hi, e⟩ := List.getElem_of_mem h
    rw [List.length_take] at hi
    rw [List.getElem_take] at e
    exact .inr (.inr ⟨i, by omega, by omega, by rw [M.gD15 Ps i M.pg0 (by omega)]; exact e⟩)
  · rcases List.mem_cons.1 h with h | h
    · exact .inl h
    · rcases List.mem_cons.1 h with h | h
      · exact .inr (.inl h)
      · obtain ⟨i, hi, e⟩ := List.getElem_of_mem h
        rw [List.length_drop] at hi
        rw [List.getElem_drop] at e
        exact .inr (.inr ⟨a + 1 + i, by omega, by omega, by rw [M.gD15 Ps (a + 1 + i) M.pg0 (by omega)]; exact e⟩)
theorem parted_flat {a : Nat} (ha : a < Ps.length) : M.flat (parted Ps a) = M.flat Ps := by
  rw [parted, M.flat_append, M.flat_cons, M.flat_cons, M.flat_at ha, ← List.append_assoc (pgA _).l]
  show _ ++ (List.take 32 _ ++ List.drop 32 _ ++ _) = _
  rw [List.take_append_drop]
theorem parted_vals {a : Nat} (ha : a < Ps.length) : insV ((pgsV Ps).set a (pgV (pgA (Ps.getD a M.pg0)))) (a + 1) [pgV (pgB (Ps.getD a M.pg0))] = pgsV (parted Ps a) := by
  have e : (pgsV Ps).set a (pgV (pgA (Ps.getD a M.pg0))) = pgsV (Ps.take a) ++ pgV (pgA (Ps.getD a M.pg0)) :: pgsV (Ps.drop (a + 1)) := by
    rw [List.set_eq_take_append_cons_drop, if_pos (by simpa [pgsV] using ha)]
    simp [pgsV, List.map_take, List.map_drop]
  have hl : (pgsV (Ps.take a)).length = a := by simp [pgsV]; omega
  rw [e, insV]
  have t1 : (pgsV (Ps.take a) ++ pgV (pgA (Ps.getD a M.pg0)) :: pgsV (Ps.drop (a + 1))).take (a + 1) = pgsV (Ps.take a) ++ [pgV (pgA (Ps.getD a M.pg0))] := by
    have := List.take_left (l₁ := pgsV (Ps.take a) ++ [pgV (pgA (Ps.getD a M.pg0))]) (l₂ := pgsV (Ps.drop (a + 1)))
    simpa [hl] using this
  have t2 : (pgsV (Ps.take a) ++ pgV (pgA (Ps.getD a M.pg0)) :: pgsV (Ps.drop (a + 1))).drop (a + 1) = pgsV (Ps.drop (a + 1)) := by
    have := List.drop_left (l₁ := pgsV (Ps.take a) ++ [pgV (pgA (Ps.getD a M.pg0))]) (l₂ := pgsV (Ps.drop (a + 1)))
    simpa [hl] using this
  rw [t1, t2, parted]
  simp [pgsV]
theorem parted_ap {a : Nat} (ha : a < Ps.length) (h64 : (Ps.getD a M.pg0).l.length = 64) (h : PgsAp Ps) : PgsAp (parted Ps a) := by
  rw [pgsAp_iff] at *
  have e := M.split_at Ps a M.pg0 ha
  rw [e] at h
  unfold parted
  generalize Ps.getD a M.pg0 = p at *
  clear e
  have hA : (pgA p).l.length = (pgA p).k := by show (p.l.take 32).length = 32; rw [List.length_take, h64]; rfl
  have hB : (pgB p).l.length = (pgB p).k := by show (p.l.drop 32).length = 32; rw [List.length_drop, h64]
  obtain ⟨h1, h2, h3⟩ := List.pairwise_append.1 h
  obtain ⟨h4, h5⟩ := List.pairwise_cons.1 h2
  refine List.pairwise_append.2 ⟨h1, List.pairwise_cons.2 ⟨fun q hq => ?_, List.pairwise_cons.2 ⟨fun q hq => ?_, h5⟩⟩, fun x hx y hy => ?_⟩
  · rcases List.mem_cons.1 hq with rfl | hq
    · intro hn
      rcases hn with hn | hn
      · exact absurd hA hn
      · exact absurd hB hn
    · exact fun hn => h4 q hq (.inr (hn.resolve_left (fun k => k hA)))
  · exact fun hn => h4 q hq (.inr (hn.resolve_left (fun k => k hB)))
  · rcases List.mem_cons.1 hy with rfl | hy
    · exact fun hn => h3 x hx p (by simp) (.inl (hn.resolve_right (fun k => k hA)))
    · rcases List.mem_cons.1 hy with rfl | hy
      · exact fun hn => h3 x hx p (by simp) (.inl (hn.resolve_right (fun k => k hB)))
      · exact h3 x hx y (by simp [hy])
/-- The pages, one of them parted, put where they belong. -/
theorem MemAt.part (h : MemAt B b (some ⟨g, 0, none⟩) pc Ps L w) {a : Nat} (ha : a < Ps.length) (h64 : (Ps.getD a M.pg0).l.length = 64) (hO : OnlyS (fun k => k = g) w w2)
    (hrow2 : w2.ownsRow B 136 1 (.slice (some ⟨g', 0, none⟩) (Ps.length + 1) pc') (Ps.length + 1) (pgsV (parted Ps a))) (hg' : g' = g ∨ w.heap.size ≤ g') :
    MemAt B b (some ⟨g', 0, none⟩) pc' (parted Ps a) L (w2.setCell ⟨b, 0, none⟩ (.slice (some ⟨g', 0, none⟩) (Ps.length + 1) pc')) ∧
    OnlyS (WrS b (some ⟨g, 0, none⟩) Ps) w (w2.setCell ⟨b, 0, none⟩ (.slice (some ⟨g', 0, none⟩) (Ps.length + 1) pc')) ∧ Grw b (some ⟨g, 0, none⟩) Ps w (some ⟨g', 0, none⟩) (parted Ps a) := by
  have hmem := M.getD_memP ha
  have hgb : g ≠ b := row_apart h.row h.pgs.row (by decide) g rfl
  have hbl := h.row.lt
  have hgb' : g' ≠ b := by
    rcases hg' with e | e
    · rw [e]; exact hgb
    · omega
  have hCq : ∀ q, q ∈ Ps → q.q ≠ b ∧ q.q ≠ g ∧ q.q < w.heap.size := fun q hq => by
    obtain ⟨_, ⟨C, hC⟩, _⟩ := h.blk q hq
    exact ⟨fun e => rowIn_ne hC h.row (by decide) e, fun e => row_apart hC h.pgs.row (by decide) g rfl e.symm, hC.lt⟩
  have hrowb : RowIn #[.slice (some ⟨g, 0, none⟩) Ps.length pc, .int .i64 L.length, .bool true] 132 w2 b := hO.row h.row (fun e => hgb e.symm)
  have hblk : ∀ q, q ∈ Ps → (w2.setCell ⟨b, 0, none⟩ (.slice (some ⟨g', 0, none⟩) (Ps.length + 1) pc')).heap[q.q]? = w.heap[q.q]? := fun q hq => by
    rw [Below.heap_setCell _ _ _ _ (hCq q hq).1]
    exact hO.block _ (hCq q hq).2.2 (hCq q hq).2.1
  have hcl : ∀ q, q ∈ Ps → ∀ j, j < q.l.length → ClOff (q.l.getD j M.cl0) (w2.setCell ⟨b, 0, none⟩ (.slice (some ⟨g', 0, none⟩) (Ps.length + 1) pc')) q.q (q.o + j * 3) := fun q hq j hj => clOff_blk15 (h.pgs.each q hq j hj) (hblk q hq)
  have hB := (h.blk _ hmem).1
  obtain ⟨C, hC⟩ := (h.blk _ hmem).2.1
  refine ⟨⟨?_, ⟨?_, fun q hq => ?_⟩, (parted_flat ha).trans h.flat, h.st, fun q hq => ?_, fun q hq => ?_, parted_ap ha h64 h.ap, h.bb, h.nL, h.okc⟩, ?_, ⟨fun k hk => ?_, fun k hk => ?_⟩⟩
  · rw [parted_len ha]
    have := hrowb.set 0 (.slice (some ⟨g', 0, none⟩) (Ps.length + 1) pc')
    simpa using this
  · rw [parted_len ha]
    exact ownsRow_setCell_other (a := ⟨b, 0, none⟩) hrow2 (fun e => by injection e with e; exact hgb' e) _
  · rcases parted_mem ha hq with rfl | rfl | ⟨i, hi, hia, rfl⟩
    · intro j hj
      have hj2 : j < 32 := by have : (pgA (Ps.getD a M.pg0)).l.length ≤ 32 := by { show (List.take 32 _).length ≤ 32; rw [List.length_take]; omega }; omega
      have := hcl _ hmem j (by omega)
      have e : (pgA (Ps.getD a M.pg0)).l.getD j M.cl0 = (Ps.getD a M.pg0).l.getD j M.cl0 := by
        show (List.take 32 _).getD j M.cl0 = _
        have hj3 : j < (List.take 32 (Ps.getD a M.pg0).l).length := hj
        rw [M.gD15 _ j M.cl0 hj3, M.gD15 _ j M.cl0 (by omega)]
        exact List.getElem_take
      rw [e]; exact this
    · intro j hj
      have hj2 : j < 32 := by have : (pgB (Ps.getD a M.pg0)).l.length = 32 := by { show (List.drop 32 _).length = 32; rw [List.length_drop, h64] }; omega
      have := hcl _ hmem (32 + j) (by omega)
      have e : (pgB (Ps.getD a M.pg0)).l.getD j M.cl0 = (Ps.getD a M.pg0).l.getD (32 + j) M.cl0 := by
        show (List.drop 32 _).getD j M.cl0 = _
        have hj3 : j < (List.drop 32 (Ps.getD a M.pg0).l).length := hj
        rw [M.gD15 _ j M.cl0 hj3, M.gD15 _ (32 + j) M.cl0 (by omega)]
        exact List.getElem_drop
      rw [e, show (pgB (Ps.getD a M.pg0)).o + j * 3 = (Ps.getD a M.pg0).o + (32 + j) * 3 from by show (Ps.getD a M.pg0).o + 96 + j * 3 = _; omega]
      exact this
    · exact fun j hj => hcl _ (M.getD_memP hi) j hj
  · rcases parted_mem ha hq with rfl | rfl | ⟨i, hi, hia, rfl⟩
    · exact ⟨hB, ⟨C, (hblk _ hmem).trans hC⟩, .inl (by show (List.take 32 _).length = 32; rw [List.length_take, h64]; rfl)⟩
    · exact ⟨hB, ⟨C, (hblk _ hmem).trans hC⟩, .inl (by show (List.drop 32 _).length = 32; rw [List.length_drop, h64])⟩
    · have hm := M.getD_memP hi
      obtain ⟨k1, ⟨C', hC'⟩, k3⟩ := h.blk _ hm
      refine ⟨k1, ⟨C', (hblk _ hm).trans hC'⟩, ?_⟩
      rcases k3 with k3 | ⟨x1, x2, x3⟩
      · exact .inl k3
      · exact .inr ⟨x1, x2, ownsRow_setCell_other (a := ⟨b, 0, none⟩) (hO.own x3 (fun q e hq => by injection e with e; subst e; exact (hCq _ hm).2.1 hq)) (fun e => by injection e with e; exact (hCq _ hm).1 e) _⟩
  · rcases parted_mem ha hq with rfl | rfl | ⟨i, hi, hia, rfl⟩
    · have : (pgA (Ps.getD a M.pg0)).l.length = 32 := by show (List.take 32 _).length = 32; rw [List.length_take, h64]; rfl
      omega
    · have : (pgB (Ps.getD a M.pg0)).l.length = 32 := by show (List.drop 32 _).length = 32; rw [List.length_drop, h64]
      omega
    · exact h.sm _ (M.getD_memP hi)
  · exact OnlyS.trans (hO.mono (fun k hk => by subst hk; exact .inr (.inl ⟨0, rfl⟩))) (onlyS_set w2 b 0 _ (.inl rfl))
  · rcases hk with rfl | ⟨o, e⟩ | ⟨q, hq, hq1, rfl⟩
    · exact .inl (.inl rfl)
    · injection e with e
      injection e with e1 e2
      subst e1
      rcases hg' with rfl | e
      · exact .inl (.inr (.inl ⟨0, rfl⟩))
      · exact .inr e
    · rcases parted_mem ha hq with rfl | rfl | ⟨i, hi, hia, rfl⟩
      · exact absurd (show (List.take 32 _).length = 32 by rw [List.length_take, h64]; rfl) hq1
      · exact absurd (show (List.drop 32 _).length = 32 by rw [List.length_drop, h64]) hq1
      · exact .inl (.inr (.inr ⟨_, M.getD_memP hi, hq1, rfl⟩))
  · rcases hk with rfl | ⟨o, e⟩ | ⟨q, hq, rfl⟩
    · exact .inl (.inl rfl)
    · injection e with e
      injection e with e1 e2
      subst e1
      rcases hg' with rfl | e
      · exact .inl (.inr (.inl ⟨0, rfl⟩))
      · exact .inr e
    · rcases parted_mem ha hq with rfl | rfl | ⟨i, hi, hia, rfl⟩
      · exact .inl (.inr (.inr ⟨_, hmem, rfl⟩))
      · exact .inl (.inr (.inr ⟨_, hmem, rfl⟩))
      · exact .inl (.inr (.inr ⟨_, M.getD_memP hi, rfl⟩))
end

end Go.Proofs.Ythidmgnfdikppaa
