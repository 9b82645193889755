/- Layer 7: the document's net: Send, Lose, by contracts. -/
import Derived.Test.YtggflkjdpibioaaNetsU
import Derived.Deep.RegionLaw
import Derived.Maps.AppendAt
namespace Go.Proofs.Ytggflkjdpibioaa
set_option linter.unusedVariables false
open Go Go.RowKit

theorem BlkIn.grown {C : Array Value} {T : TypeId} {w w' : World} {b : Nat} {row : Option Nat} (h : BlkIn C T w b) (hg : w.grownBy w' row) (hne : ∀ q, row = some q → q ≠ b) : BlkIn C T w' b := by
  have hl := h.lt
  unfold BlkIn at *
  rw [hg.block b hl (fun e => hne b e.symm rfl)]; exact h
theorem ownsRow_set {B sz r i : Nat} {e : TypeId} {v u : Value} {n : Nat} {xs : List Value} {w : World} (h : w.ownsRow B e sz v n xs) (hr : r < B) : (w.setCell ⟨r, i, none⟩ u).ownsRow B e sz v n xs := by
  refine ⟨h.1, ?_⟩
  rcases h.2 with hc | ⟨g, cap, cur, rfl, hBg, hgg, rest⟩
  · exact .inl hc
  · exact .inr ⟨g, cap, cur, rfl, hBg, by rw [Below.heap_setCell _ _ _ _ (show g ≠ r from by omega)]; exact hgg, rest⟩
theorem ml_new1 (w : World) (o : Obj) (m : Ml) (T : TypeId) : ∀ j u, (mlC m)[j]? = some u → ((w.alloc o).alloc (.cells #[.int .i64 m.src, .int .i64 m.dst, .string (S m.dat)] T)).cell? ((⟨w.heap.size + 1, 0, none⟩ : Addr).add j) = some u := by
  rw [← sz_alloc w o]
  exact ml_new _ _ _

theorem own_shape {w : World} {B sz n : Nat} {e : TypeId} {v : Value} {xs : List Value} (h : w.ownsRow B e sz v n xs) : ∃ ao c, v = .slice ao n c := by
  rcases h.2 with ⟨rfl, rfl⟩ | ⟨g, cap, cur, rfl, _⟩
  · exact ⟨_, _, rfl⟩
  · exact ⟨_, _, rfl⟩
/-- append at a step of a region that draws its order, whatever is appended. -/
theorem step_append_own {P : Program} {w : World} {ops : Array Oper} {o : Oper} {a : Act} {K : Act → World → Prop} {Q : Exit → Act → World → Prop} {E : Prop} (hgd : o.guard = none) (s x : Operand) (t : TypeId)
    (ho : o.op = .call { callee := .builtin .append, args := #[s, x], argTypes := #[t, t] })
    (base : Nat) (e : TypeId) (i : TypeInfo) (z : Value) (size bytes : Nat) (ht : P.underlying t = some (.slice e)) (hi : P.info? e = some i) (hz : i.zero = some z)
    (hsize : i.size = size) (hby : i.bytes = bytes) (hzs : z.cells.size = size) (hsz : 0 < size)
    (v : Value) (n : Nat) (xs : List Value) (hs : a.eval s = v) (hown : w.ownsRow base e size v n xs)
    (ad : Addr) (m c : Nat) (news : List Value) (hx : a.eval x = .slice (some ad) m c) (hl : news.length = m * size) (hnews : ∀ j u, news[j]? = some u → w.cell? (ad.add j) = some u) (h1 : ∀ u ∈ news, u.oneCell' = true)
    (h63 : n + m ≤ maxLen) (hbytes : (n + m) * bytes ≤ 140737488355328) (hbase : base ≤ w.heap.size)
    (h : ∀ v' w', w'.ownsRow base e size v' (n + m) (xs ++ news) → w.grownBy w' v.ownBlock → (v' = .slice none 0 0 ↔ v = .slice none 0 0 ∧ m = 0) → K (a.put o.dst v') w') :
    if Region.wanted o (yielded ops a.tmps) = true then Oper.wp P o a w K Q else E := by
  have hw : Region.wanted o (yielded ops a.tmps) = true := by simp [Region.wanted, hgd]
  rw [if_pos hw]
  exact wp_append_own w s x t ho base e i z size bytes ht hi hz hsize hby hzs hsz v n xs hs hown ad m c news hx hl hnews h1 h63 hbytes hbase h

/-- append at such a step; and where the row lies then. -/
theorem step_append_at7 {P : Program} {w : World} {ops : Array Oper} {o : Oper} {a : Act} {K : Act → World → Prop} {Q : Exit → Act → World → Prop} {E : Prop} (hgd : o.guard = none) (s x : Operand) (t : TypeId)
    (hop : o.op = .call { callee := .builtin .append, args := #[s, x], argTypes := #[t, t] })
    (base : Nat) (e : TypeId) (i : TypeInfo) (z : Value) (size bytes : Nat) (ht : P.underlying t = some (.slice e)) (hi : P.info? e = some i) (hz : i.zero = some z)
    (hsize : i.size = size) (hby : i.bytes = bytes) (hzs : z.cells.size = size) (hsz : 0 < size)
    (v : Value) (n : Nat) (xs : List Value) (hs : a.eval s = v) (hown : w.ownsRow base e size v n xs)
    (ad : Addr) (m c : Nat) (news : List Value) (hx : a.eval x = .slice (some ad) m c) (hl : news.length = m * size) (hnews : ∀ j u, news[j]? = some u → w.cell? (ad.add j) = some u) (h1 : ∀ u ∈ news, u.oneCell' = true)
    (h63 : n + m ≤ maxLen) (hbytes : (n + m) * bytes ≤ 140737488355328) (hbase : base ≤ w.heap.size)
    (h : ∀ v' w', w'.ownsRow base e size v' (n + m) (xs ++ news) → w.grownBy w' v.ownBlock → (v' = .slice none 0 0 ↔ v = .slice none 0 0 ∧ m = 0) → (v'.ownBlock = v.ownBlock ∨ v'.ownBlock = some w.heap.size) → K (a.put o.dst v') w') :
    if Region.wanted o (yielded ops a.tmps) = true then Oper.wp P o a w K Q else E := by
  have hw : Region.wanted o (yielded ops a.tmps) = true := by simp [Region.wanted, hgd]
  rw [if_pos hw]
  obtain ⟨v', w', hrun, h5, h6, h7, h8⟩ := run_append_own_at (P := P) w base t o.type e i z size bytes ht hi hz hsize hby hzs hsz v n xs hown ad m c news hl hnews h1 h63 hbytes hbase
  unfold Oper.wp execOp
  simp only [hop, resolve, invoke, builtin, Sem.run_bind, Sem.run_pure, Result.andThen_ok, List.map_toArray, List.map_cons, List.map_nil, hs, hx, hrun]
  exact h v' w' h5 h6 h7 h8
/-- The block of the row of the document's net. -/
def QOf (w : World) (r : Nat) (q : Option Nat) : Prop := ∃ v, w.cell? ⟨r, 0, none⟩ = some v ∧ v.ownBlock = q
/-- All blocks stay but the net's own, and its row's; the row lies where it lay, or in a new block. -/
def KeepQ (r : Nat) (w w' : World) : Prop := ∀ q, QOf w r q → (∀ k, k < w.heap.size → k ≠ r → q ≠ some k → w'.heap[k]? = w.heap[k]?) ∧ ∃ q', QOf w' r q' ∧ (q' = q ∨ q' = none ∨ ∃ k, w.heap.size ≤ k ∧ q' = some k)
set_option maxHeartbeats 2000000 in
theorem refSend_any {w : World} {base r : Nat} {L : List Ml} (h : RefIn w base r L) (m : Ml) (hl : L.length ≤ 64) :
    Calls Try.prog 26 #[.pointer (some ⟨r, 0, none⟩), mlV m] w fun e w' => e = .returned (.bool (decide (L.length < 64))) ∧ RefIn w' base r (sendL L m) ∧ Away base r w w' ∧ KeepQ r w w' := by
  obtain ⟨i0, z0, hi, hz0, hz1, hz2, hz3⟩ := infoMl_parts
  have h1 := h.below ((Below.refl _ _).alloc (Nat.le_refl _) (.cells #[.int .i64 m.src, .int .i64 m.dst, .string (S m.dat)] 31))
  have hbase : base ≤ w.heap.size := by obtain ⟨_, _, _, _, _, h⟩ := h; exact h
  have hb1 := (Below.refl w.heap.size w).alloc (Nat.le_refl _) (.cells #[.int .i64 m.src, .int .i64 m.dst, .string (S m.dat)] 31)
  have hQ : BlkIn #[.int .i64 m.src, .int .i64 m.dst, .string (S m.dat)] 31 (w.alloc (.cells #[.int .i64 m.src, .int .i64 m.dst, .string (S m.dat)] 31)) w.heap.size := heap_alloc_new w _
  have H1 := Lib.hid h1
  obtain ⟨v, T, hb, ho, hr, hs⟩ := h1
  obtain ⟨ao, cap, rfl, hcap, -⟩ := own_parts ho
  unfold sendL
  by_cases hlt : L.length < 64
  · rw [if_pos hlt, decide_eq_true hlt]
    have d1 : decide ((L.length : Int) ≥ 64) = false := by simp; omega
    have c0 : (w.alloc (.cells #[.int .i64 m.src, .int .i64 m.dst, .string (S m.dat)] 31)).cell? ⟨r, 0, none⟩ = some (.slice ao L.length cap) := hb.cell 0
    have cc0 : ∀ o, ((w.alloc (.cells #[.int .i64 m.src, .int .i64 m.dst, .string (S m.dat)] 31)).alloc o).cell? ⟨r, 0, none⟩ = some (.slice ao L.length cap) := fun o => (hb.more o).cell 0
    have HO := Lib.hid ho
    have HBK := Lib.hid hb
    clear ho hb h
    go_enter Try.func26, Try.ntmps26
    go_wp2_with fail
    have x0 : (w.alloc (.cells #[.int .i64 m.src, .int .i64 m.dst, .string (S m.dat)] 31)).cell? ⟨w.heap.size, 0, none⟩ = some (.int .i64 m.src) := hQ.cell 0
    have x1 : (w.alloc (.cells #[.int .i64 m.src, .int .i64 m.dst, .string (S m.dat)] 31)).cell? ⟨w.heap.size, 1, none⟩ = some (.int .i64 m.dst) := hQ.cell 1
    have x2 : (w.alloc (.cells #[.int .i64 m.src, .int .i64 m.dst, .string (S m.dat)] 31)).cell? ⟨w.heap.size, 2, none⟩ = some (.string (S m.dat)) := hQ.cell 2
    have hnb : ∀ q, some q = (Value.slice ao L.length cap).ownBlock → q ≠ r := fun q hq => by
      have := (HO.out.lt q hq.symm).1
      omega
    have hAW : Away base r w _ := Away.ofBelow hb1 hbase
    generalize (w.alloc (.cells #[.int .i64 m.src, .int .i64 m.dst, .string (S m.dat)] 31)) = W1 at *
    have HB1 := Lib.hid hb1
    have HCW := Lib.hid (show ∀ q, QOf w r q → q = (Value.slice ao L.length cap).ownBlock from fun q ⟨v, h, e⟩ => by
      have h2 := (Below.cell HB1.out (p := ⟨r, 0, none⟩) (block_lt_of_cell h)).trans h
      rw [c0] at h2
      injection h2 with h2
      rw [h2]; exact e.symm)
    generalize hY : w.heap.size = Y at *
    have HY := Lib.hid hY
    clear hQ hb1 hY
    go_region_law (first
      | ((refine step_append_at7 (by rfl) _ _ 27 (by rfl) base 31 i0 z0 3 32 Try.underlying27 hi hz0 hz1 hz2 hz3 (by decide) (.slice ao L.length cap) L.length (mls L) (by rfl) ((show W1.drew.ownsRow base 31 3 (.slice ao L.length cap) L.length (mls L) from HO.out).alloc _) ⟨W1.heap.size, 0, none⟩ 1 1 (mlC m) (by rfl) rfl (ml_new W1.drew _ _) (fun x hx => by simp [mlC] at hx; rcases hx with rfl | rfl | rfl <;> rfl) (by unfold maxLen; omega) (by omega) (by show base ≤ (W1.drew.alloc _).heap.size; rw [sz_alloc]; exact Nat.le_succ_of_le hs) ?_; intro v' w3 hown' hgrow3 hnil3 hat3; obtain ⟨so, sc, rfl⟩ := own_shape hown'; have hb3 := ((show BlkIn _ _ W1.drew r from HBK.out).more _).grown hgrow3 (fun q hq => hnb q hq.symm); have c3 : w3.cell? ⟨r, 0, none⟩ = some (.slice ao L.length cap) := hb3.cell 0; have f3 : ∀ j, w3.frozen? ⟨r, j, none⟩ = false := fun j => hb3.free j)))
    all_goals
      go_wp2_with fail
      go_ret
      have hlast := fun q (hq : (Value.slice ao L.length cap).ownBlock = some q) => (HO.out.lt q hq).1
      refine ⟨rfl, ⟨_, T, hb3.set 0 _, ?_, hr, ?_⟩, ?_, fun q hq => ⟨fun k hk hkr hko => ?_, _, ⟨_, (hb3.set 0 _).cell 0, rfl⟩, ?_⟩⟩
      · have h := ownsRow_set (r := r) (i := 0) (u := .slice so (L.length + 1) sc) hown' hr
        rw [mls_append, mls_one, List.length_append]
        exact h
      · show base ≤ (w3.setCell _ _).heap.size
        simp only [World.setCell, Array.size_modify]
        exact Nat.le_trans (show base ≤ (W1.drew.alloc _).heap.size by rw [sz_alloc]; exact Nat.le_succ_of_le hs) hgrow3.size
      · have h2 : Away base r w W1.drew := hAW.drew
        exact (((h2.trans (Away.ofBelow ((Below.refl _ _).alloc (Nat.le_refl _) _) hs)).grown hgrow3 (by show base ≤ (W1.drew.alloc _).heap.size; rw [sz_alloc]; exact Nat.le_succ_of_le hs) hlast)).setCell 0 _
      · have hkW : k < W1.heap.size := Nat.lt_of_lt_of_le hk HB1.out.size
        rw [HCW.out q hq] at hko
        rw [Below.heap_setCell _ _ _ _ hkr, hgrow3.block k (show k < (W1.drew.alloc _).heap.size by rw [sz_alloc]; exact Nat.lt_succ_of_lt hkW) (fun e => hko e.symm)]
        exact (heap_alloc_old W1.drew _ hkW).trans (HB1.out.block k (by rw [← HY.out]; exact hk))
      · rw [HCW.out q hq]
        rcases hat3 with e | e
        · exact .inl e
        · refine .inr (.inr ⟨_, ?_, e⟩)
          show w.heap.size ≤ (W1.drew.alloc _).heap.size
          rw [sz_alloc]
          exact Nat.le_succ_of_le HB1.out.size
  · rw [if_neg hlt, decide_eq_false hlt]
    have d1 : decide ((L.length : Int) ≥ 64) = true := by simp; omega
    have c0 : (w.alloc (.cells #[.int .i64 m.src, .int .i64 m.dst, .string (S m.dat)] 31)).cell? ⟨r, 0, none⟩ = some (.slice ao L.length cap) := hb.cell 0
    go_enter Try.func26, Try.ntmps26
    go_wp2_with fail
    go_ret
    exact ⟨rfl, H1.out, Away.ofBelow hb1 hbase, fun q ⟨v, hv, e⟩ => ⟨fun k hk hkr hko => hb1.block k hk, q, ⟨v, (Below.cell hb1 (p := ⟨r, 0, none⟩) (block_lt_of_cell hv)).trans hv, e⟩, .inl rfl⟩⟩

end Go.Proofs.Ytggflkjdpibioaa
