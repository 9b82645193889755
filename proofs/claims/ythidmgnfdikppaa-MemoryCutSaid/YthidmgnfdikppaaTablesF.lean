/- Layer 10: the table of a text, by a contract. -/
import Derived.Test.YthidmgnfdikppaaTablesD
import Derived.Test.YthidmgnfdikppaaTablesE
import Derived.Test.YthidmgnfdikppaaOrder
import Derived.Test.YthidmgnfdikppaaZI
import Derived.Test.YthidmgnfdikppaaZF
import Derived.Maps.AppendAt
namespace Go.Proofs.Ythidmgnfdikppaa
set_option linter.unusedVariables false
open Go Go.RowKit
attribute [local go_sem ↓] run_index_S
attribute [local go_sem] S_append S_extract

theorem infoSt10 : (Try.prog.info? 9).map (fun i => (i.zero, i.size, i.bytes)) = some (some (.string ByteArray.empty), 1, 16) := by kernel_rfl
/-- Texts as cells. -/
def txs10 (ps : List (List UInt8)) : List Value := ps.map fun p => Value.string (S p)
theorem txs10_len (ps : List (List UInt8)) : (txs10 ps).length = ps.length := by simp [txs10]
theorem txs10_snoc (ps : List (List UInt8)) (p : List UInt8) : txs10 (ps ++ [p]) = txs10 ps ++ [.string (S p)] := by simp [txs10]
/-- A table that is laid: of each block its bytes, and its first key. -/
structure TabRow (B p : Nat) (vB vF : Value) (Bk F : List (List UInt8)) (n : Int) (w : World) : Prop where
  row : RowIn #[vB, vF, .int .i64 n] 57 w p
  b : w.ownsRow B 9 1 vB Bk.length (txs10 Bk)
  f : w.ownsRow B 9 1 vF F.length (txs10 F)
  ne : ∀ q, vB.ownBlock = some q → vF.ownBlock ≠ some q
def TabAt (L : List M.Cl) (p : Nat) (w : World) : Prop := ∃ B vB vF, TabRow B p vB vF (M.blksB L (M.many L)) (M.firsts L (M.many L)) L.length w
theorem TabRow.below {B p : Nat} {vB vF : Value} {Bk F : List (List UInt8)} {n : Int} {w w' : World} (h : TabRow B p vB vF Bk F n w) (hb : Below w.heap.size w w') : TabRow B p vB vF Bk F n w' :=
  ⟨h.row.below hb, ownP_below h.b hb, ownP_below h.f hb, h.ne⟩
theorem TabAt.below {L : List M.Cl} {p : Nat} {w w' : World} (h : TabAt L p w) (hb : Below w.heap.size w w') : TabAt L p w' := by
  obtain ⟨B, vB, vF, h⟩ := h
  exact ⟨B, vB, vF, h.below hb⟩
instance car_tab {w w' : World} {L : List M.Cl} {p : Nat} : Car w w' (TabAt L p w) (TabAt L p w') := ⟨fun hb h => h.below hb⟩
theorem IdxAt.below {b : Nat} {x bl : M.RS} {w w' : World} (h : IdxAt b x bl w) (hb : Below w.heap.size w w') : IdxAt b x bl w' := ⟨h.row.below hb, h.l1, h.l2⟩
/-- What Open comes to. -/
def OpenR10 (t : List UInt8) (w : World) (e : Ending) (w' : World) : Prop := (match M.openT t with
  | none => e = .returned (.tuple #[.pointer none, .int .i64 30])
  | some L => ∃ p, e = .returned (.tuple #[.pointer (some ⟨p, 0, none⟩), .int .i64 0]) ∧ TabAt L p w') ∧ Below w.heap.size w w'
theorem openR10_none {t : List UInt8} {w w' : World} (h : ∀ L, ¬ M.IsT t L) (hb : Below w.heap.size w w') : OpenR10 t w (.returned (.tuple #[.pointer none, .int .i64 30])) w' := by
  unfold OpenR10
  rw [M.openT_none h]
  exact ⟨rfl, hb⟩
theorem openR10_some {t : List UInt8} {L : List M.Cl} {p : Nat} {w w' : World} (h : M.IsT t L) (ht : TabAt L p w') (hb : Below w.heap.size w w') : OpenR10 t w (.returned (.tuple #[.pointer (some ⟨p, 0, none⟩), .int .i64 0])) w' := by
  unfold OpenR10
  rw [M.openT_some h]
  exact ⟨⟨p, rfl, ht⟩, hb⟩
/-- What has been read, after so many entries. -/
structure Read10 (t : List UInt8) (k n : Nat) (x bl : M.RS) (C : List M.Cl) (Bk F : List (List UInt8)) : Prop where
  lb : Bk.length = k
  lf : F.length = k
  kx : k + x.t.length ≤ 1000000
  cl : C.length + bl.t.length ≤ 1000000
  ok : ∀ c ∈ C, ClOk c
  is : ∀ L, M.IsT t L → k + n = M.many L ∧ x = ⟨M.idxS n (L.drop (4 * k)), false⟩ ∧ bl = ⟨M.bodyS n (L.drop (4 * k)), false⟩ ∧ C = L.take (4 * k) ∧ F = M.firsts L k ∧ Bk = M.blksB L k
/-- What is read first. -/
theorem isT_len {t : List UInt8} {L : List M.Cl} (h : M.IsT t L) : 25 ≤ t.length := by
  rw [← h.t, M.tab_len]; omega
theorem M.bigR_big (n : Nat) (h : n ≤ 9223372036854775807) (z : List UInt8) : M.bigR ⟨M.bigN n ++ z, false⟩ = (n, ⟨z, false⟩) := by
  have e1 : M.cutR ⟨M.bigN n ++ z, false⟩ 8 = (M.bigN n, ⟨z, false⟩) := M.cutR_app' _ _ 8 (by rw [M.bigN_length]; rfl)
  have e2 := M.ofBigs_big [] [] n h
  simp only [List.nil_append, List.append_nil, List.length_nil] at e2
  have e0 : ((0 : Nat) : Int) = 0 := rfl
  rw [e0] at e2
  unfold M.bigR
  rw [e1]
  simp only [e2]
theorem isT_body {t : List UInt8} {L : List M.Cl} (h : M.IsT t L) : (M.bodyT L).length ≤ 1000 * 1024 := by
  have h1 := M.body_len h.s (M.many L)
  have h2 := h.n
  have : M.many L ≤ 1024 := by unfold M.many; omega
  unfold M.bodyT
  omega
theorem isT_foot {t : List UInt8} {L : List M.Cl} (h : M.IsT t L) : ∃ z, M.bigR ⟨t.drop (t.length - 21), false⟩ = ((M.bodyT L).length, ⟨z, false⟩) := by
  have h1 := isT_body h
  have e := M.tab_foot L
  rw [h.t] at e
  rw [e, M.bigR_big _ (by omega)]
  exact ⟨_, rfl⟩
theorem isT_size {t : List UInt8} {L : List M.Cl} (h : M.IsT t L) : (M.bodyT L).length ≤ t.length - 25 := by
  rw [← h.t, M.tab_len]; omega
/-- What the rests begin with. -/
theorem isT_start {t : List UInt8} {L : List M.Cl} (h : M.IsT t L) : M.numR ⟨(t.take (t.length - 25)).drop (M.bodyT L).length, false⟩ = (M.many L, ⟨M.idxS (M.many L) L, false⟩) ∧ (t.take (t.length - 25)).take (M.bodyT L).length = M.bodyS (M.many L) L := by
  have e := M.tab_body L
  rw [h.t] at e
  rw [e]
  have hm : M.many L ≤ 1025 := by have := h.n; unfold M.many; omega
  refine ⟨?_, ?_⟩
  · rw [List.drop_append_of_le_length (Nat.le_refl _), List.drop_of_length_le (Nat.le_refl _), List.nil_append, M.idxT, M.numR_put _ (by omega)]
  · rw [List.take_append_of_le_length (Nat.le_refl _), List.take_of_length_le (Nat.le_refl _)]; rfl
theorem M.numR_lt {r : M.RS} (h : (M.numR r).2.b = false) : (M.numR r).2.t.length + 1 ≤ r.t.length ∧ r.b = false := by
  obtain ⟨t, b⟩ := r
  unfold M.numR at h ⊢
  cases hg : M.gets t 0 with
  | none => simp [hg] at h
  | some x =>
    obtain ⟨n, nx⟩ := x
    simp only [hg] at h ⊢
    obtain ⟨g1, g2, g3, _⟩ := M.gets_bounds hg
    cases b with
    | true => simp at h
    | false => simp; omega
theorem M.cutR_ok {r : M.RS} {n : Int} (h : (M.cutR r n).2.b = false) : (M.cutR r n).1.length + (M.cutR r n).2.t.length = r.t.length ∧ r.b = false := by
  unfold M.cutR at h ⊢
  split at h
  · rename_i hc
    rw [if_pos hc]
    refine ⟨?_, hc.1⟩
    simp only [List.length_take, List.length_drop]
    omega
  · cases h
theorem M.entR_len {x bl x' bl' : M.RS} {fs bk : List UInt8} (he : M.entR x bl = ⟨fs, bk, x', bl'⟩) (hx : x'.b = false) (hb : bl'.b = false) : x'.t.length + 1 ≤ x.t.length ∧ bk.length + bl'.t.length ≤ bl.t.length := by
  unfold M.entR at he
  injection he with h1 h2 h3 h4
  subst h1 h2 h3 h4
  obtain ⟨a1, a2⟩ := M.numR_lt hx
  unfold M.keyR at a1 a2
  obtain ⟨b1, b2⟩ := M.cutR_ok a2
  have b3 := M.numR_len x
  obtain ⟨c1, c2⟩ := M.cutR_ok hb
  obtain ⟨d1, d2⟩ := M.cutR_ok c2
  unfold M.keyR at *
  constructor <;> omega
theorem Read10.step {t : List UInt8} {k n : Nat} {x bl x' bl' : M.RS} {C Ln : List M.Cl} {Bk F : List (List UInt8)} {fs bk : List UInt8} (h : Read10 t k (n + 1) x bl C Bk F) (he : M.entR x bl = ⟨fs, bk, x', bl'⟩) (hx : x'.b = false) (hb : bl'.b = false) (hd : M.decC bk = some Ln) :
    Read10 t (k + 1) n x' bl' (C ++ Ln) (Bk ++ [bk]) (F ++ [fs]) := by
  obtain ⟨e1, e2⟩ := M.entR_len he hx hb
  have e3 := M.decC_len hd
  obtain ⟨o1, -, -⟩ := decC_oks hd
  refine ⟨by simp [h.lb], by simp [h.lf], by have := h.kx; omega, by have := h.cl; simp only [List.length_append]; omega, fun c hc => ?_, fun L hL => ?_⟩
  · rcases List.mem_append.1 hc with hc | hc
    · exact h.ok c hc
    · exact o1 c hc
  · obtain ⟨i1, rfl, rfl, i4, i5, i6⟩ := h.is L hL
    rw [M.entR_is (M.srt_drop hL.s _) n] at he
    injection he with h1 h2 h3 h4
    have hdr : (L.drop (4 * k)).drop 4 = L.drop (4 * (k + 1)) := by rw [List.drop_drop]; congr 1
    rw [hdr] at h3 h4
    have hbk : M.encCs (M.blk L k) = bk := h2
    have hLn : Ln = M.blk L k := by
      have := M.dec_encC (M.srt_blk hL.s k) (fun c hc => hL.q c (M.blk_mem hc)) (by have := M.blk_len4 L k; omega)
      rw [hbk, hd] at this
      injection this
    refine ⟨by omega, h3.symm, h4.symm, by rw [i4, hLn, M.take_blk], ?_, by rw [i6, M.blksB_snoc, hbk]⟩
    rw [i5, M.firsts_snoc, ← h1]
    simp [List.getD]
theorem Read10.bad {t : List UInt8} {k n : Nat} {x bl x' bl' : M.RS} {C : List M.Cl} {Bk F : List (List UInt8)} {fs bk : List UInt8} (h : Read10 t k (n + 1) x bl C Bk F) (he : M.entR x bl = ⟨fs, bk, x', bl'⟩) (hbad : x'.b = true ∨ bl'.b = true ∨ M.decC bk = none) :
    ∀ L, ¬ M.IsT t L := fun L hL => by
  obtain ⟨i1, rfl, rfl, i4, i5, i6⟩ := h.is L hL
  rw [M.entR_is (M.srt_drop hL.s _) n] at he
  injection he with h1 h2 h3 h4
  subst h3 h4
  rcases hbad with q | q | q
  · cases q
  · cases q
  · have hbk : M.encCs (M.blk L k) = bk := h2
    have := M.dec_encC (M.srt_blk hL.s k) (fun c hc => hL.q c (M.blk_mem hc)) (by have := M.blk_len4 L k; omega)
    rw [hbk, q] at this
    cases this
/-- At the end. -/
theorem Read10.fin {t : List UInt8} {k : Nat} {x bl : M.RS} {C : List M.Cl} {Bk F : List (List UInt8)} (h : Read10 t k 0 x bl C Bk F) (hs : M.srt none C = true) (hn : ¬ 4096 < C.length) (ht : M.tableT C = t) : M.IsT t C ∧ F = M.firsts C (M.many C) ∧ Bk = M.blksB C (M.many C) := by
  have hi : M.IsT t C := ⟨hs, by omega, fun c hc => (h.ok c hc).2.2.h2, ht⟩
  obtain ⟨i1, _, _, _, i5, i6⟩ := h.is C hi
  have : k = M.many C := by omega
  subst this
  exact ⟨hi, i5, i6⟩
theorem Read10.finBad {t : List UInt8} {k : Nat} {x bl : M.RS} {C : List M.Cl} {Bk F : List (List UInt8)} (h : Read10 t k 0 x bl C Bk F) (hb : M.srt none C = false ∨ 4096 < C.length ∨ M.tableT C ≠ t) : ∀ L, ¬ M.IsT t L := fun L hL => by
  obtain ⟨i1, _, _, i4, _⟩ := h.is L hL
  have : k = M.many L := by omega
  subst this
  rw [M.take_many] at i4
  subst i4
  rcases hb with q | q | q
  · rw [hL.s] at q; cases q
  · have := hL.n; omega
  · exact q hL.t
/-- An append, as a step of a region: what its run comes to. -/
theorem step_append_run {P : Program} {w : World} {ops : Array Oper} {o : Oper} {a : Act} {K : Act → World → Prop} {Q : Exit → Act → World → Prop} {E : Prop} (hgd : o.guard = none) (s x : Operand) (t : TypeId)
    (ho : o.op = .call { callee := .builtin .append, args := #[s, x], argTypes := #[t, t] }) {v u v' : Value} {w' : World} (hs : a.eval s = v) (hx : a.eval x = u)
    (hr : (Builtin.append_ #[t, t] o.type #[v, u]).run P w = .ok v' w') (h : K (a.put o.dst v') w') :
    if Region.wanted o (yielded ops a.tmps) = true then Oper.wp P o a w K Q else E := by
  have hw : Region.wanted o (yielded ops a.tmps) = true := by simp [Region.wanted, hgd]
  rw [if_pos hw]
  unfold Oper.wp execOp
  simp only [ho, resolve, invoke, builtin, Sem.run_bind, Sem.run_pure, Result.andThen_ok, List.map_toArray, List.map_cons, List.map_nil, hs, hx, hr]
  exact h
theorem append_st10 (w : World) (base : Nat) (t ty : TypeId) (ht : Try.prog.underlying t = some (.slice 9)) (v : Value) (ps : List (List UInt8)) (ho : w.ownsRow base 9 1 v ps.length (txs10 ps)) (g c : Nat) (p : List UInt8) (hg : RowIn #[.string (S p)] 9 w g) (hl : ps.length ≤ 1000000) (hb : base ≤ w.heap.size) :
    ∃ v' w', (Builtin.append_ #[t, t] ty #[v, .slice (some ⟨g, 0, none⟩) 1 c]).run Try.prog w = .ok v' w' ∧ w'.ownsRow base 9 1 v' (ps ++ [p]).length (txs10 (ps ++ [p])) ∧ w.grownBy w' v.ownBlock ∧ (v'.ownBlock = v.ownBlock ∨ v'.ownBlock = some w.heap.size) := by
  obtain ⟨iS, hiS, hzS, hsS, hbS⟩ := info_parts infoSt10
  obtain ⟨v', w', hr, h2, h3, -, h5⟩ := run_append_own_at (P := Try.prog) w base t ty 9 iS (.string ByteArray.empty) 1 16 ht hiS hzS hsS hbS rfl (by decide) v ps.length (txs10 ps) ho ⟨g, 0, none⟩ 1 c [.string (S p)] rfl (fun j u hu => add_row hg rfl j u hu) (by simp [Value.oneCell']) (by unfold maxLen; omega) (by omega) hb
  exact ⟨v', w', hr, by rw [txs10_snoc, List.length_append]; exact h2, h3, h5⟩
/-- A piece of one text, made for an append. -/
def Pc10 (x : Value) (p : List UInt8) (w : World) (v u : Value) : Prop := ∃ g, x = .slice (some ⟨g, 0, none⟩) 1 1 ∧ RowIn #[.string (S p)] 9 w g ∧ v.ownBlock ≠ some g ∧ u.ownBlock ≠ some g
theorem Pc10.below {x : Value} {p : List UInt8} {w w' : World} {v u : Value} (h : Pc10 x p w v u) (hb : Below w.heap.size w w') : Pc10 x p w' v u := by
  obtain ⟨g, h1, h2, h3, h4⟩ := h
  exact ⟨g, h1, h2.below hb, h3, h4⟩
theorem Pc10.symm {x : Value} {p : List UInt8} {w : World} {v u : Value} (h : Pc10 x p w v u) : Pc10 x p w u v := by
  obtain ⟨g, h1, h2, h3, h4⟩ := h
  exact ⟨g, h1, h2, h4, h3⟩
/-- What the region has: the table that is laid, the index, the rows. -/
structure Rs10 (W : World) (bx bt : Nat) (x bl : M.RS) (vB0 vF0 vB vF vC : Value) (Bk F : List (List UInt8)) (C : List M.Cl) (w : World) : Prop where
  row : RowIn #[vB0, vF0, .int .i64 0] 57 w bt
  idx : IdxAt bx x bl w
  b : w.ownsRow W.heap.size 9 1 vB Bk.length (txs10 Bk)
  f : w.ownsRow W.heap.size 9 1 vF F.length (txs10 F)
  c : w.ownsRow W.heap.size 38 3 vC C.length (cls C)
  ne : ∀ q, vB.ownBlock = some q → vF.ownBlock ≠ some q
  bel : Below W.heap.size W w
theorem Rs10.below {W : World} {bx bt : Nat} {x bl : M.RS} {vB0 vF0 vB vF vC : Value} {Bk F : List (List UInt8)} {C : List M.Cl} {w w' : World} (h : Rs10 W bx bt x bl vB0 vF0 vB vF vC Bk F C w) (hb : Below w.heap.size w w') : Rs10 W bx bt x bl vB0 vF0 vB vF vC Bk F C w' :=
  ⟨h.row.below hb, h.idx.below hb, ownP_below h.b hb, ownP_below h.f hb, ownP_below h.c hb, h.ne, below_step h.bel hb⟩
theorem row_kept10 {w w' : World} {C : Array Value} {T : TypeId} {g : Nat} {row : Option Nat} (h : RowIn C T w g) (hg : w.grownBy w' row) (hn : row ≠ some g) : RowIn C T w' g :=
  h.grownP hg (fun q hq e => hn (by rw [hq, e]))
theorem Pc10.grown {x : Value} {p : List UInt8} {w w' : World} {v u v' : Value} (h : Pc10 x p w v u) (hg : w.grownBy w' v.ownBlock) (hat : v'.ownBlock = v.ownBlock ∨ v'.ownBlock = some w.heap.size) : Pc10 x p w' v' u := by
  obtain ⟨g, h1, h2, h3, h4⟩ := h
  refine ⟨g, h1, row_kept10 h2 hg h3, fun e => ?_, h4⟩
  rcases hat with k | k
  · exact h3 (k ▸ e)
  · rw [k] at e
    injection e with e
    have := h2.lt
    omega
theorem Rs10.appF {W : World} {bx bt : Nat} {x bl : M.RS} {vB0 vF0 vB vF vC vF' : Value} {Bk F : List (List UInt8)} {C : List M.Cl} {p : List UInt8} {w w' : World} (h : Rs10 W bx bt x bl vB0 vF0 vB vF vC Bk F C w) (ho : w'.ownsRow W.heap.size 9 1 vF' (F ++ [p]).length (txs10 (F ++ [p]))) (hg : w.grownBy w' vF.ownBlock) (hat : vF'.ownBlock = vF.ownBlock ∨ vF'.ownBlock = some w.heap.size) :
    Rs10 W bx bt x bl vB0 vF0 vB vF' vC Bk (F ++ [p]) C w' := by
  refine ⟨row_kept10 h.row hg (fun e => row_apart h.row h.f (by decide) bt e rfl), ⟨row_kept10 h.idx.row hg (fun e => row_apart h.idx.row h.f (by decide) bx e rfl), h.idx.l1, h.idx.l2⟩, h.b.kept hg ?_, ho, h.c.kept hg (own_apart h.c h.f (by decide)), fun q hq e => ?_, h.bel.grown hg h.bel.size (fun k hk => (h.f.lt k hk).1)⟩
  · cases hb : vB.ownBlock with
    | none => exact .inl rfl
    | some q => exact .inr (fun e => h.ne q hb e.symm)
  · rcases hat with k | k
    · exact h.ne q hq (k ▸ e)
    · rw [k] at e
      injection e with e
      have := (h.b.lt q hq).2
      omega
theorem Rs10.flip {W : World} {bx bt : Nat} {x bl : M.RS} {vB0 vF0 vB vF vC : Value} {Bk F : List (List UInt8)} {C : List M.Cl} {w : World} (h : Rs10 W bx bt x bl vB0 vF0 vB vF vC Bk F C w) : Rs10 W bx bt x bl vB0 vF0 vF vB vC F Bk C w :=
  ⟨h.row, h.idx, h.f, h.b, h.c, fun q hq e => h.ne q e hq, h.bel⟩
theorem Rs10.appC {W : World} {bx bt : Nat} {x bl : M.RS} {vB0 vF0 vB vF vC vC' : Value} {Bk F : List (List UInt8)} {C C' : List M.Cl} {w w' : World} (h : Rs10 W bx bt x bl vB0 vF0 vB vF vC Bk F C w) (ho : w'.ownsRow W.heap.size 38 3 vC' C'.length (cls C')) (hg : w.grownBy w' vC.ownBlock) :
    Rs10 W bx bt x bl vB0 vF0 vB vF vC' Bk F C' w' :=
  ⟨row_kept10 h.row hg (fun e => row_apart h.row h.c (by decide) bt e rfl), ⟨row_kept10 h.idx.row hg (fun e => row_apart h.idx.row h.c (by decide) bx e rfl), h.idx.l1, h.idx.l2⟩, h.b.kept hg (own_apart h.b h.c (by decide)), h.f.kept hg (own_apart h.f h.c (by decide)), ho, h.ne, h.bel.grown hg h.bel.size (fun k hk => (h.c.lt k hk).1)⟩
/-- Cells that were decoded, apart from those that are kept. -/
def Ln10 (al : Option Addr) (Ln : List M.Cl) (cl : Nat) (vC : Value) (w : World) : Prop := ∃ B, w.ownsRow B 38 3 (.slice al Ln.length cl) Ln.length (cls Ln) ∧ ∀ q, (Value.slice al Ln.length cl).ownBlock = some q → vC.ownBlock ≠ some q
theorem Ln10.below {al : Option Addr} {Ln : List M.Cl} {cl : Nat} {vC : Value} {w w' : World} (h : Ln10 al Ln cl vC w) (hb : Below w.heap.size w w') : Ln10 al Ln cl vC w' := by
  obtain ⟨B, h1, h2⟩ := h
  exact ⟨B, ownP_below h1 hb, h2⟩
theorem Ln10.grown {al : Option Addr} {Ln : List M.Cl} {cl : Nat} {vC v : Value} {w w' : World} {B n : Nat} {xs : List Value} (h : Ln10 al Ln cl vC w) (ho : w.ownsRow B 9 1 v n xs) (hg : w.grownBy w' v.ownBlock) : Ln10 al Ln cl vC w' := by
  obtain ⟨B', h1, h2⟩ := h
  exact ⟨B', h1.kept hg (own_apart h1 ho (by decide)), h2⟩

end Go.Proofs.Ythidmgnfdikppaa
