/- Layer 15: a cell laid into a page, a page laid among the pages, by contracts. -/
import Derived.Test.YthidmgnfdikppaaMemI
namespace Go.Proofs.Ythidmgnfdikppaa
set_option linter.unusedVariables false
set_option linter.unusedSimpArgs false
open Go Go.RowKit
attribute [local go_sem ↓] run_index_S
attribute [local go_sem] S_append S_extract

theorem own_cell15 {w : World} {B : Nat} {e : TypeId} {g n cap : Nat} {xs : List Value} (h : w.ownsRow B e 1 (.slice (some ⟨g, 0, none⟩) n cap) n xs) {j : Nat} (hj : j < n) : (∃ v, w.cell? ⟨g, j, none⟩ = some v) ∧ w.frozen? ⟨g, j, none⟩ = false := by
  obtain ⟨cur, hg, hcs, hct, hnc, hcm, hB⟩ := setRow_own15 h
  have hr : RowIn cur e w g := hg
  exact ⟨⟨_, (hr.cell j).trans (Array.getElem?_eq_getElem (by omega))⟩, hr.free j⟩
theorem insPage15 {B b g pc : Nat} {Ps : List M.Pg} {L : List M.Cl} {w : World} (h : MemAt B b (some ⟨g, 0, none⟩) pc Ps L w) {a i : Nat} (ha : a < Ps.length) (hi : i ≤ (Ps.getD a M.pg0).l.length) (c : M.Cl) {X : Nat} (hX : RowIn (clA c) 38 w X) (hXq : X ≠ (Ps.getD a M.pg0).q) :
    Calls Try.prog 130 #[pgV (Ps.getD a M.pg0), .int .i64 i, .slice (some ⟨X, 0, none⟩) 1 1] w fun e w' => ∃ p', e = .returned (pgV p') ∧ p'.l = (Ps.getD a M.pg0).l.take i ++ c :: (Ps.getD a M.pg0).l.drop i ∧ RepPg B w w' (Ps.getD a M.pg0) p' := by
  have hm := M.getD_memP ha
  have hcl := h.pgs.each _ hm
  have hbk := h.blk _ hm
  have hs := h.sm _ hm
  generalize Ps.getD a M.pg0 = p at *
  obtain ⟨l, q, o, k⟩ := p
  simp only at hi hXq hs
  have hX' : RowIn (clL c).toArray 38 w X := hX
  have hlen : (l.take i ++ c :: l.drop i).length = l.length + 1 := by simp; omega
  rcases hbk with ⟨hB, hC, ht | ⟨h0, hlt, ho⟩⟩
  · simp only at ht
    subst ht
    refine (insFullC w q o l.length i X (cls l) (clL c) (cls_length l) (fun j v hj => clsAt_get9 hcl j v hj) (cls_oneC l) hi (by omega) _ hX' rfl (clL_oneC c)).mono ?_
    rintro e w' ⟨c', rfl, h1, h2⟩
    rw [cls_insV15] at h1
    refine ⟨⟨l.take i ++ c :: l.drop i, w.heap.size, 0, c'⟩, ?_, rfl, .inr ⟨rfl, rfl, ?_, h2⟩⟩
    · show _ = Ending.returned (.slice (some ⟨w.heap.size, 0, none⟩) (l.take i ++ c :: l.drop i).length c')
      rw [hlen]
    · show w'.ownsRow _ _ _ (.slice (some ⟨w.heap.size, 0, none⟩) (l.take i ++ c :: l.drop i).length c') (l.take i ++ c :: l.drop i).length _
      rw [hlen]; exact h1
  · simp only at h0 hlt
    subst h0
    refine (insRoomC B w q l.length k i X (cls l) (clL c) ho (cls_oneC l) hi hlt _ hX' rfl (clL_oneC c) hXq).mono ?_
    rintro e w' ⟨rfl, h1, h2⟩
    rw [cls_insV15] at h1
    refine ⟨⟨l.take i ++ c :: l.drop i, q, 0, k⟩, ?_, rfl, .inl ⟨hlt, rfl, rfl, by show (l.take i ++ c :: l.drop i).length ≤ k; rw [hlen]; omega, rfl, ?_, h2⟩⟩
    · show _ = Ending.returned (.slice (some ⟨q, 0, none⟩) (l.take i ++ c :: l.drop i).length k)
      rw [hlen]
    · show w'.ownsRow _ _ _ (.slice (some ⟨q, 0, none⟩) (l.take i ++ c :: l.drop i).length k) (l.take i ++ c :: l.drop i).length _
      rw [hlen]; exact h1
/-- A page laid among pages. -/
theorem insPages15 {B g n cap i X : Nat} {w : World} (xs : List Value) (v : Value) (hv : v.oneCell' = true) (hO : w.ownsRow B 136 1 (.slice (some ⟨g, 0, none⟩) n cap) n xs) (h1 : ∀ u ∈ xs, u.oneCell' = true) (hi : i ≤ n) (hn : n ≤ 1000000) (hX : RowIn #[v] 136 w X) (hXg : X ≠ g) (hBw : B ≤ w.heap.size) :
    Calls Try.prog 131 #[.slice (some ⟨g, 0, none⟩) n cap, .int .i64 i, .slice (some ⟨X, 0, none⟩) 1 1] w fun e w' => ∃ g' c', e = .returned (.slice (some ⟨g', 0, none⟩) (n + 1) c') ∧ w'.ownsRow B 136 1 (.slice (some ⟨g', 0, none⟩) (n + 1) c') (n + 1) (insV xs i [v]) ∧ OnlyS (fun k => k = g) w w' ∧ (g' = g ∨ g' = w.heap.size) := by
  have hX' : RowIn [v].toArray 136 w X := hX
  obtain ⟨cur, hg, hcs, hct, hnc, hcm, hB⟩ := setRow_own15 hO
  have hone : ∀ u ∈ [v], u.oneCell' = true := fun u hu => by rw [List.mem_singleton] at hu; rw [hu]; exact hv
  rcases Nat.lt_or_ge n cap with hlt | hge
  · refine (insRoomP B w g n cap i X xs [v] hO h1 hi hlt _ hX' rfl hone hXg).mono ?_
    rintro e w' ⟨rfl, h2, h3⟩
    exact ⟨g, cap, rfl, h2, onlyS_grown h3 (fun k e => by cases e; rfl), .inl rfl⟩
  · obtain rfl : cap = n := by omega
    refine (insFullP w g 0 cap i X xs [v] hO.1 (fun j u hj => by
      have := hO.cells (g := g) rfl j u hj
      rwa [Addr.add_lit] at this) h1 hi hn _ hX' rfl hone).mono ?_
    rintro e w' ⟨c', rfl, h2, h3⟩
    exact ⟨w.heap.size, c', rfl, ownP_mono h2 hBw, onlyS_below h3, .inr rfl⟩
set_option maxHeartbeats 2000000 in
set_option maxRecDepth 100000 in
/-- The first page. -/
theorem insNil15 (c : M.Cl) (X : Nat) (w : World) (hX : RowIn (clA c) 38 w X) :
    Calls Try.prog 130 #[.slice none 0 0, .int .i64 0, .slice (some ⟨X, 0, none⟩) 1 1] w fun e w' => ∃ c', e = .returned (.slice (some ⟨w.heap.size, 0, none⟩) 1 c') ∧ w'.ownsRow w.heap.size 38 3 (.slice (some ⟨w.heap.size, 0, none⟩) 1 c') 1 (cls [c]) ∧ Below w.heap.size w w' := by
  obtain ⟨i0, z0, hi0, hz0, hz1, hz2, hz3⟩ := infoCl_parts
  have hX' : RowIn (clL c).toArray 38 w X := hX
  have hrr : ∀ ty, ∃ c' w', (Builtin.append_ #[136, 22] ty #[.slice none 0 0, .slice (some ⟨X, 0, none⟩) 1 1]).run Try.prog w = .ok (.slice (some ⟨w.heap.size, 0, none⟩) 1 c') w' ∧ w'.ownsRow w.heap.size 38 3 (.slice (some ⟨w.heap.size, 0, none⟩) 1 c') 1 (cls [c]) ∧ Below w.heap.size w w' := fun ty => by
    have hr := run_append_nil (P := Try.prog) w 136 ty 38 i0 z0 Try.underlying136 hi0 hz0 ⟨X, 0, none⟩ 1 1 (clL c) (by rw [hz1]; rfl) (rowIn_src15 hX') (by omega) (by omega) (by rw [hz2]; omega)
    rw [append_types15 w _ _ ty _ _ Try.underlying136 Try.underlying22, hr]
    obtain ⟨l, hl, hll⟩ := zeroCells_list15 z0.cells (grownCap w 1 0 38 - 1)
    refine ⟨_, _, rfl, ?_, ((Below.refl w.heap.size w).drew).alloc (Nat.le_refl _) _⟩
    rw [hl]
    have := newRow15 w 38 3 (cls [c]) l 1 (grownCap w 1 0 38) rfl (by rw [hll, hz3]) (grownCap_ge w 1 0 _) (grownCap_le_maxLen w 1 0 _ (by unfold maxLen; omega)) w.heap.size (Nat.le_refl _)
    have e : (clL c).toArray ++ l.toArray = (cls [c] ++ l).toArray := by simp [cls]
    rw [e]
    exact this
  go_enter Try.func130, Try.ntmps130
  go_wp2_with (at_builtin; obtain ⟨c2, w2, hr, ho, hb⟩ := hrr _; refine wpList_append_run15 _ rfl _ _ 136 22 rfl _ _ rfl rfl _ _ hr ?_; have HR := Lib.hid (And.intro ho hb); clear hr ho hb hrr)
  go_ret
  exact ⟨c2, rfl, HR.out⟩

end Go.Proofs.Ythidmgnfdikppaa
