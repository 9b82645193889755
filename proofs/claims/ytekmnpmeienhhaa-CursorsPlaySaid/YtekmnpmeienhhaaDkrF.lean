/- Layer 5: the document's disk: Start, Fail, last. -/
import Derived.Test.YtekmnpmeienhhaaDkrC
namespace Go.Proofs.Ytekmnpmeienhhaa
set_option linter.unusedVariables false
open Go Go.RowKit Go.Maps

/-- What an append of a row of numbers comes to. -/
theorem append_ns5 (w : World) (base : Nat) (t ty : TypeId) (i : TypeInfo) (ht : Try.prog.underlying t = some (.slice 3)) (hi : Try.prog.info? 3 = some i) (hz : i.zero = some (.int .i64 0)) (h1 : i.size = 1) (h2 : i.bytes = 8)
    (v : Value) (n : Nat) (xs : List Value) (ho : w.ownsRow base 3 1 v n xs) (ao : Option Addr) (c : Nat) (L : List Int) (hs : NsA5 w ao L) (h63 : n + L.length ≤ 2000000) (hbase : base ≤ w.heap.size) :
    ∃ v' w', (Builtin.append_ #[t, t] ty #[v, .slice ao L.length c]).run Try.prog w = .ok v' w' ∧ w'.ownsRow base 3 1 v' (n + L.length) (xs ++ ints5 L) ∧ w.grownBy w' v.ownBlock ∧ (v'.ownBlock = v.ownBlock ∨ v'.ownBlock = some w.heap.size) := by
  cases ao with
  | none =>
    have hL : L = [] := by
      rcases L with _ | ⟨y, L⟩
      · rfl
      · obtain ⟨g, off, e, _⟩ := hs (by simp)
        cases e
    subst hL
    exact ⟨v, w, append_none5 w base t ty _ i 1 ht hi ho c, by simpa [ints5] using ho, World.grownBy.refl w _, .inl rfl⟩
  | some ad =>
    obtain ⟨v', w', hrun, h5, h6, h7, h8⟩ := run_append_own_at (P := Try.prog) w base t ty _ i _ 1 8 ht hi hz h1 h2 rfl (by decide) v n xs ho ad L.length c (ints5 L) (by simp [ints5]) (fun j u hu => by
      have hn : L ≠ [] := fun e => by rw [e] at hu; simp [ints5] at hu
      obtain ⟨g, off, e, hc⟩ := hs hn
      cases e
      have hj : j < L.length := by
        rcases Nat.lt_or_ge j L.length with q | q
        · exact q
        · rw [List.getElem?_eq_none (by simpa [ints5] using q)] at hu; cases hu
      have := hc j hj
      rw [Addr.add_lit]
      rw [this, ← hu]
      simp [ints5, List.getD, hj]) (fun u hu => by
      unfold ints5 at hu
      obtain ⟨y, _, rfl⟩ := List.mem_map.1 hu
      rfl) (by unfold maxLen; omega) (by omega) hbase
    exact ⟨v', w', hrun, h5, h6, h8⟩
theorem wpList_append_ns5 {w : World} {ops : Array Oper} {rest : List Oper} {o : Oper} {a : Act} {Q : Exit → Act → World → Prop} (hgd : o.guard = none) (s x : Operand) (t : TypeId)
    (hop : o.op = .call { callee := .builtin .append, args := #[s, x], argTypes := #[t, t] })
    (base : Nat) (i : TypeInfo) (ht : Try.prog.underlying t = some (.slice 3)) (hi : Try.prog.info? 3 = some i) (hz : i.zero = some (.int .i64 0)) (h1 : i.size = 1) (h2 : i.bytes = 8)
    (v : Value) (n : Nat) (xs : List Value) (hv : a.eval s = v) (ho : w.ownsRow base 3 1 v n xs) (ao : Option Addr) (c : Nat) (L : List Int) (hx : a.eval x = .slice ao L.length c) (hs : NsA5 w ao L) (h63 : n + L.length ≤ 2000000) (hbase : base ≤ w.heap.size)
    (h : ∀ v' w', w'.ownsRow base 3 1 v' (n + L.length) (xs ++ ints5 L) → w.grownBy w' v.ownBlock → (v'.ownBlock = v.ownBlock ∨ v'.ownBlock = some w.heap.size) → wpList Try.prog ops Q rest (a.put o.dst v') w') :
    wpList Try.prog ops Q (o :: rest) a w := by
  refine wpList_plain hgd fun K hK => ?_
  obtain ⟨v', w', hrun, h5, h6, h7⟩ := append_ns5 w base t o.type i ht hi hz h1 h2 v n xs ho ao c L hs h63 hbase
  unfold Oper.wp execOp
  simp only [hop, resolve, invoke, builtin, Sem.run_bind, Sem.run_pure, Result.andThen_ok, List.map_toArray, List.map_cons, List.map_nil, hv, hx, hrun]
  exact hK _ _ (h v' w' h5 h6 h7)
/-- The document's disk, but that it may have counted once too far. -/
structure RfW (B r : Nat) (c : Rc) (sb : Bool) (D : Dk.St) (w : World) : Prop where
  box : Bk #[.int .i64 D.room, .int .i64 D.starts, .bool (!D.up), .bool sb, .slice c.a D.L.length c.c, .int .i64 c.n, .slice c.ka c.ks.length c.kc] 91 w r
  row : w.ownsRow B 95 3 (.slice c.a D.L.length c.c) D.L.length (flsV D.L)
  krow : w.ownsRow B 3 1 (.slice c.ka c.ks.length c.kc) c.ks.length (ints5 c.ks)
  ok : Dk.OkL D.L
  few : D.L.length ≤ 1024
  small : Dk.size D.L ≤ 1048576
section
variable {B r : Nat} {c : Rc} {D : Dk.St} {w w' : World}
theorem RfIn.weak (h : RfIn B r c D w) : RfW B r c D.set.isSome D w := ⟨h.box, h.row, h.krow, h.ok, h.few, h.small⟩
/-- Its box is written alone. -/
theorem RfW.rebox {sb : Bool} (h : RfW B r c sb D w) {w' : World} (n' : Int) (D' : Dk.St) (hL : D'.L = D.L) (v : Value) (hbx : Bk (rfC { c with n := n' } D') 91 w' r) (hw : Wr (fun k => k = r) w w') (hset : ∀ p, D'.set = some p → n' = (p.1 : Int) ∧ c.ks = p.2) : OpI B r c v D' w (.returned v) w' := by
  have e1 := row_wr h.row hw (fun q hq e => bk_row h.box h.row (by decide) q hq e)
  have e2 := row_wr h.krow hw (fun q hq e => bk_row h.box h.krow (by decide) q hq e)
  refine ⟨rfl, { c with n := n' }, ⟨hbx, by rw [hL]; exact e1, e2, hset, by rw [hL]; exact h.ok, by rw [hL]; exact h.few, by rw [hL]; exact h.small⟩, fun b hb => .inl hb, hw.mono (fun k hk => .inl (.inl hk))⟩
theorem OpI.same {v : Value} (h : RfIn B r c D w) : OpI B r c v D w (.returned v) w := ⟨rfl, c, h, fun b hb => .inl hb, Wr.refl _ _⟩
set_option maxRecDepth 100000 in
theorem rStart5 (h : RfIn B r c D w) (hs : D.starts ≤ 1000000000) : Calls Try.prog 54 #[.pointer (some ⟨r, 0, none⟩)] w (OpI B r c (.int .i64 (Dk.start D).1) (Dk.start D).2 w) := by
  obtain ⟨x0, x1, x2, x3, x4, x5, x6⟩ := h.s
  have f1 := h.box.free 1
  have f2 := h.box.free 2
  cases hu : D.up with
  | true =>
    have HQ := Lib.hid (show OpI B r c (.int .i64 (Dk.start D).1) (Dk.start D).2 w (.returned (.int .i64 2)) w from by
      rw [show Dk.start D = (2, D) from by unfold Dk.start; rw [hu]; rfl]; exact OpI.same h)
    rw [hu] at x2
    clear h
    go_enter Try.func54, Try.ntmps54
    go_wp2_with fail
    go_ret
    exact HQ.out
  | false =>
    have HQ := Lib.hid (show OpI B r c (.int .i64 (Dk.start D).1) (Dk.start D).2 w (.returned (.int .i64 0)) ((w.setCell ⟨r, 2, none⟩ (.bool false)).setCell ⟨r, 1, none⟩ (.int .i64 ((D.starts : Int) + 1))) from by
      rw [Dk.start_down hu]
      refine h.weak.rebox c.n (Dk.woke D) rfl _ ?_ ((wr_set (A := fun k => k = r) w ⟨r, 2, none⟩ _ rfl).trans (wr_set (A := fun k => k = r) _ ⟨r, 1, none⟩ _ rfl)) h.set
      have := (h.box.set 2 (.bool false)).set 1 (.int .i64 ((D.starts : Int) + 1))
      exact this)
    have HN := Lib.hid ((h.box.set 2 (.bool false)).cell 1)
    have hn1 : (w.setCell ⟨r, 2, none⟩ (.bool false)).cell? ⟨r, 1, none⟩ = some (.int .i64 D.starts) := HN.out
    have fn1 := (h.box.set 2 (.bool false)).free 1
    rw [hu] at x2
    clear h
    go_enter Try.func54, Try.ntmps54
    go_wp2_with fail
    go_ret
    exact HQ.out
/-- What last tells, and leaves. -/
def LastR5 (B r : Nat) (c : Rc) (D : Dk.St) (w : World) (e : Ending) (w' : World) : Prop :=
  (D.set = none ∧ e = .returned (.bool false) ∧ w = w') ∨
  (∃ n ks, D.set = some (n + 1, ks) ∧ e = .returned (.bool false) ∧ OpI B r c (.bool false) { D with set := some (n, ks) } w e w') ∨
  (∃ ks, D.set = some (0, ks) ∧ e = .returned (.bool true) ∧ c.ks = ks ∧ RfW B r { c with n := -1 } true D w' ∧ Wr (Fr r c) w w')
set_option maxRecDepth 100000 in
theorem rLast5 (h : RfIn B r c D w) (hn : ∀ p, D.set = some p → (p.1 : Int) ≤ 9223372036854775807) : Calls Try.prog 85 #[.pointer (some ⟨r, 0, none⟩)] w (LastR5 B r c D w) := by
  obtain ⟨x0, x1, x2, x3, x4, x5, x6⟩ := h.s
  have f5 := h.box.free 5
  cases hse : D.set with
  | none =>
    rw [hse] at x3
    have x3' : w.cell? ⟨r, 3, none⟩ = some (.bool false) := x3
    clear x3
    go_enter Try.func85, Try.ntmps85
    go_wp2_with fail
    go_ret
    exact .inl ⟨hse, rfl, rfl⟩
  | some p =>
    obtain ⟨n, ks⟩ := p
    obtain ⟨h1, h2⟩ := h.set _ hse
    have hnn := hn _ hse
    simp only at h1 hnn
    rw [hse] at x3
    have x3' : w.cell? ⟨r, 3, none⟩ = some (.bool true) := x3
    rw [h1] at x5
    clear x3
    obtain ⟨nv, hnv⟩ : ∃ x : Int, x = (n : Int) - 1 := ⟨_, rfl⟩
    have e1 : IntKind.i64.wrap ((n : Int) - 1) = nv := by rw [IntWalk.i64_in _ (by omega)]; exact hnv.symm
    have hb5 := h.box.set 5 (.int .i64 nv)
    have hc5 : (w.setCell ⟨r, 5, none⟩ (.int .i64 nv)).cell? ⟨r, 5, none⟩ = some (.int .i64 nv) := hb5.cell 5
    have HQ := Lib.hid (show ∀ m, n = m + 1 → OpI B r c (.bool false) { D with set := some (m, ks) } w (.returned (.bool false)) (w.setCell ⟨r, 5, none⟩ (.int .i64 nv)) from fun m hm => by
      refine h.weak.rebox nv { D with set := some (m, ks) } rfl _ ?_ (wr_set (A := fun k => k = r) w ⟨r, 5, none⟩ _ rfl) (fun p hp => by cases hp; exact ⟨by simp only; omega, h2⟩)
      have e9 : rfC { c with n := nv } { D with set := some (m, ks) } = (rfC c D).setIfInBounds 5 (.int .i64 nv) := by unfold rfC; rw [hse]; rfl
      rw [e9]
      exact hb5)
    have HQ0 := Lib.hid (show n = 0 → RfW B r { c with n := -1 } true D (w.setCell ⟨r, 5, none⟩ (.int .i64 nv)) from fun hm => by
      have hw := wr_set (A := fun k => k = r) w ⟨r, 5, none⟩ (.int .i64 nv) rfl
      refine ⟨?_, row_wr h.row hw (fun q hq e => bk_row h.box h.row (by decide) q hq e), row_wr h.krow hw (fun q hq e => bk_row h.box h.krow (by decide) q hq e), h.ok, h.few, h.small⟩
      have e9 : (#[.int .i64 D.room, .int .i64 D.starts, .bool (!D.up), .bool true, .slice c.a D.L.length c.c, .int .i64 (-1), .slice c.ka c.ks.length c.kc] : Array Value) = (rfC c D).setIfInBounds 5 (.int .i64 nv) := by unfold rfC; rw [hse, hnv, hm]; rfl
      rw [e9]
      exact hb5)
    have HW := Lib.hid (show Wr (Fr r c) w (w.setCell ⟨r, 5, none⟩ (.int .i64 nv)) from wr_set _ _ _ (.inl rfl))
    have HNV := Lib.hid hnv
    clear h hb5 hn h1 hnv
    go_enter Try.func85, Try.ntmps85
    by_cases hz : n = 0
    · have d1 : decide (nv < (0 : Int)) = true := decide_eq_true (by have := HNV.out; omega)
      have HZ := Lib.hid hz
      clear hz
      go_wp2_with fail
      go_ret
      exact .inr (.inr ⟨ks, by rw [hse, HZ.out], rfl, h2, HQ0.out HZ.out, HW.out⟩)
    · have d1 : decide (nv < (0 : Int)) = false := decide_eq_false (by have := HNV.out; omega)
      obtain ⟨m, hm⟩ : ∃ m, n = m + 1 := ⟨n - 1, by omega⟩
      have HM := Lib.hid hm
      clear hm
      go_wp2_with fail
      go_ret
      exact .inr (.inl ⟨m, ks, by rw [hse, HM.out], rfl, HQ.out m HM.out⟩)
set_option maxRecDepth 100000 in
theorem rFail5 (h : RfIn B r c D w) (hB : B ≤ w.heap.size) (n : Int) (hn : n ≤ 9223372036854775807) (ks : List Int) (ao : Option Addr) (cap : Nat) (hK : Dk.KsOk ks) (hk : NsA5 w ao ks) (hkr : ∀ x, ks ≠ [] → ao = some x → x.block ≠ r) : Calls Try.prog 52 #[.pointer (some ⟨r, 0, none⟩), .int .i64 n, .slice ao ks.length cap] w (OpI B r c (.int .i64 (Dk.fail n ks D).1) (Dk.fail n ks D).2 w) := by
  obtain ⟨j0, hj, hy0, hy1, hy2⟩ := info_parts infoInt5
  obtain ⟨x0, x1, x2, x3, x4, x5, x6⟩ := h.s
  have f3 := h.box.free 3
  cases hu : D.up with
  | false =>
    have HQ := Lib.hid (show OpI B r c (.int .i64 (Dk.fail n ks D).1) (Dk.fail n ks D).2 w (.returned (.int .i64 51)) w from by
      rw [show Dk.fail n ks D = (51, D) from by unfold Dk.fail; rw [if_pos hu]]; exact OpI.same h)
    rw [hu] at x2
    clear h hk
    go_enter Try.func52, Try.ntmps52
    go_wp2_with fail
    go_ret
    exact HQ.out
  | true =>
    by_cases hn0 : n < 0
    · have HQ := Lib.hid (show OpI B r c (.int .i64 (Dk.fail n ks D).1) (Dk.fail n ks D).2 w (.returned (.int .i64 2)) w from by
        rw [show Dk.fail n ks D = (2, D) from by unfold Dk.fail; rw [if_neg (by rw [hu]; decide), if_pos hn0]]; exact OpI.same h)
      rw [hu] at x2
      have d1 : decide (n < (0 : Int)) = true := decide_eq_true hn0
      clear h hk
      go_enter Try.func52, Try.ntmps52
      go_wp2_with fail
      go_ret
      exact HQ.out
    · have d1 : decide (n < (0 : Int)) = false := decide_eq_false hn0
      have hkl := hK.len
      have hbx := (h.box.set 3 (.bool true)).set 5 (.int .i64 n)
      have hf5 := (h.box.set 3 (.bool true)).free 5
      obtain ⟨w2, hw2⟩ : ∃ x, x = (w.setCell ⟨r, 3, none⟩ (.bool true)).setCell ⟨r, 5, none⟩ (.int .i64 n) := ⟨_, rfl⟩
      have hwr := (wr_set (A := fun k => k = r) w ⟨r, 3, none⟩ (.bool true) rfl).trans (wr_set (A := fun k => k = r) _ ⟨r, 5, none⟩ (.int .i64 n) rfl)
      rw [← hw2] at hbx hwr
      have ha := (Below.refl w2.heap.size w2).alloc (Nat.le_refl _) (.cells #[] 3)
      have HKS := Lib.hid ((hk.wr hwr (fun x hx hax e => hkr x hx hax e)).below ha)
      have HBX := Lib.hid (hbx.below ha)
      have HSZ := Lib.hid (show w.heap.size ≤ w2.heap.size from hwr.size)
      have HOo := Lib.hid (World.ownsRow_made (base := w2.heap.size) (e := 3) (size := 1) w2 #[] 0 (Nat.le_refl _) (by unfold maxLen; omega) rfl)
      have HQ := Lib.hid (show ∀ w5 a5 c5, Below w2.heap.size w2 w5 → w5.ownsRow w2.heap.size 3 1 (.slice a5 ks.length c5) ks.length (ints5 ks) → OpI B r c (.int .i64 (Dk.fail n ks D).1) (Dk.fail n ks D).2 w (.returned (.int .i64 0)) (w5.setCell ⟨r, 6, none⟩ (.slice a5 ks.length c5)) from fun w5 a5 c5 hb5 ho => by
        rw [show Dk.fail n ks D = (0, { D with set := some (n.toNat, ks) }) from by unfold Dk.fail; rw [if_neg (by rw [hu]; decide), if_neg hn0]]
        have hbx5 := (hbx.below hb5).set 6 (.slice a5 ks.length c5)
        have hw5 : Wr (fun k => k = r) w w5 := hwr.trans (wr_below hb5)
        refine ⟨rfl, ⟨c.a, c.c, n, a5, c5, ks⟩, ⟨?_, ?_, ?_, fun p hp => by cases hp; exact ⟨by simp only; omega, rfl⟩, h.ok, h.few, h.small⟩, fun b hb => ?_, (hw5.trans (wr_set (A := fun k => k = r) _ ⟨r, 6, none⟩ _ rfl)).mono (fun k hk => .inl (.inl hk))⟩
        · exact hbx5
        · exact row_set5 (row_wr h.row hw5 (fun q hq e => bk_row h.box h.row (by decide) q hq e)) (bk_row h.box h.row (by decide))
        · exact row_set5 (row_base5 ho (Nat.le_trans hB hwr.size)) (bk_row (hbx.below hb5) ho (by decide))
        · rcases hb with hb | hb | ⟨x, hx, rfl⟩
          · exact .inl (.inl hb)
          · exact .inl (.inr (.inl hb))
          · have := ho.lt x.block (by rw [show a5 = some x from hx]; rfl)
            exact .inr (Nat.le_trans hwr.size this.1))
      rw [hu] at x2
      clear h hk hbx hwr
      go_enter Try.func52, Try.ntmps52
      go_upto_region 7 with fail
      rw [← hw2]
      clear hw2
      go_wp2_with (at_builtin; refine wpList_append_ns5 rfl _ _ 32 rfl w2.heap.size j0 Try.underlying32 hj hy0 hy1 hy2 (.slice (some ⟨w2.heap.size, 0, none⟩) 0 0) 0 [] rfl HOo.out ao cap ks rfl HKS.out (by omega) (by simp) ?_; intro v5 w5 ho5 hg5 _; rw [Nat.zero_add, List.nil_append] at ho5; obtain ⟨a5, c5, rfl⟩ := row_shape5 ho5; have HB5 := Lib.hid (show Below w2.heap.size w2 w5 from ((Below.refl w2.heap.size w2).alloc (Nat.le_refl _) _).grown hg5 (by simp) (fun q hq => (HOo.out.lt q hq).1)); have HO5 := Lib.hid ho5; have y6 := (HBX.out.grown hg5 (fun e => by have h1 := HOo.out; have h2 := bk_row HBX.out h1 (by decide) r e.symm; exact h2 rfl)).cell 6; have g6 := (HBX.out.grown hg5 (fun e => by have h1 := HOo.out; have h2 := bk_row HBX.out h1 (by decide) r e.symm; exact h2 rfl)).free 6; clear ho5 hg5)
      go_ret
      exact HQ.out w5 a5 c5 HB5.out HO5.out
end

end Go.Proofs.Ytekmnpmeienhhaa
