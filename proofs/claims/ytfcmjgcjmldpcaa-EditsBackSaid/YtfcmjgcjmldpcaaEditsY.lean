/- Layer 16: edit, by a contract. -/
import Derived.Test.YtfcmjgcjmldpcaaEditsX
import Derived.Test.YtfcmjgcjmldpcaaEditsS
namespace Go.Proofs.Ytfcmjgcjmldpcaa
set_option linter.unusedVariables false
set_option linter.unusedSimpArgs false
open Go Go.RowKit
attribute [local go_sem ↓] run_index_S
attribute [local go_sem] S_append S_extract

theorem step_append_nums16 {w : World} {ops : Array Oper} {o : Oper} {a : Act} {K : Act → World → Prop} {Q : Exit → Act → World → Prop} {E : Prop} (hgd : o.guard = none) (s x : Operand) (t : TypeId)
    (hop : o.op = .call { callee := .builtin .append, args := #[s, x], argTypes := #[t, t] })
    (base : Nat) (i : TypeInfo) (z : Value) (ht : Try.prog.underlying t = some (.slice 3)) (hi : Try.prog.info? 3 = some i) (hz : i.zero = some z) (h1 : i.size = 1) (h2 : i.bytes = 8) (h3 : z.cells.size = 1)
    (v : Value) (n : Nat) (xs : List Value) (hv : a.eval s = v) (ho : w.ownsRow base 3 1 v n xs) (ao : Option Addr) (c m : Nat) (L : List Int) (hx : a.eval x = .slice ao m c) (hm : m = L.length) (hs : NsAt w ao L) (h63 : n + L.length ≤ 1000000) (hbase : base ≤ w.heap.size)
    (h : ∀ v' w', w'.ownsRow base 3 1 v' (n + L.length) (xs ++ nsL L) → w.grownBy w' v.ownBlock → K (a.put o.dst v') w') :
    if Region.wanted o (yielded ops a.tmps) = true then Oper.wp Try.prog o a w K Q else E := by
  have hw : Region.wanted o (yielded ops a.tmps) = true := by simp [Region.wanted, hgd]
  rw [if_pos hw]
  subst hm
  obtain ⟨v', w', hrun, h5, h6⟩ := append_nums w base t o.type i z ht hi hz h1 h2 h3 v n xs ho ao c L hs h63 hbase
  unfold Oper.wp execOp
  simp only [hop, resolve, invoke, builtin, Sem.run_bind, Sem.run_pure, Result.andThen_ok, List.map_toArray, List.map_cons, List.map_nil, hv, hx, hrun]
  exact h v' w' h5 h6
theorem BkIn.grown {C : Array Value} {T : TypeId} {w w' : World} {b : Nat} {row : Option Nat} (h : BkIn C T w b) (hg : w.grownBy w' row) (hne : row ≠ some b) : BkIn C T w' b := by
  have := hg.block b h.lt (fun e => hne e.symm)
  exact this.trans h
theorem nsAt_one {w : World} {q : Nat} {x : Int} (h : BkIn #[.int .i64 x] 3 w q) : NsAt w (some ⟨q, 0, none⟩) [x] := fun _ => ⟨q, 0, rfl, fun j hj => by
  have : j = 0 := by simp at hj; exact hj
  subst this
  exact h.cell 0⟩
section
variable {w0 wk w w' : World} {b g c n k : Nat} {Rs Rk : List Rt} {log next : Int}
/-- A number appended in place, and the row stored. -/
theorem Ahd.app (h : Ahd w0 b g c Rs Rk log next w) (hkp : Kp b wk w) (hk : k < Rs.length) {l' : List Int} {ao' : Option Addr} {cap' : Nat} (hg : w.grownBy w' (Rk.getD k rt0).blk) (ho : w'.ownsRow w0.heap.size 3 1 (.slice ao' l'.length cap') l'.length (nsL l')) :
    MgI w0 wk b g c Rs.length (Rk.set k ⟨(Rk.getD k rt0).f, l', ao', cap'⟩) log next (w'.setCell ⟨g, k * 2 + 1, none⟩ (.slice ao' l'.length cap')) := by
  have hlen := h.cl.len
  have hkk : k < Rk.length := by omega
  have hown := h.cl.own k hk
  have hbk : (Rk.getD k rt0).blk ≠ some g := fun e => own_apart16 hown h.cl.row (by decide) (x := g) e rfl
  have hbb : (Rk.getD k rt0).blk ≠ some b := own_of_blk h.bx hown (by decide)
  have hrow := h.cl.row.kept hg (.inr (fun e => hbk e.symm))
  have hbel : Below w0.heap.size w0 w' := h.cl.bel.grown hg h.cl.bel.size (fun q hq => (hown.lt q hq).1)
  have hgl := h.cl.row.lt g rfl
  refine ⟨⟨?_, fun r hr => ?_, hbel.setCell (by exact hgl.1) _⟩, (h.bx.grown hg hbb).other h.ne _ _, h.ne, h.b0, (hkp.grown hown hg).cellT hrow _ _⟩
  · rw [List.length_set, ← tbC_set Rk k hkk l' ao' cap', hlen]
    exact (hrow.stored (k * 2 + 1) _).1
  · obtain ⟨j, hj, rfl⟩ := List.getElem_of_mem hr
    simp only [List.length_set] at hj
    rw [List.getElem_set]
    split
    · refine ownsRow_setCell_other ho (fun hq => ?_) _
      exact own_apart16 hrow ho (by decide) (x := g) rfl hq
    · rename_i hne
      have hj2 := h.cl.own j (by omega)
      rw [show Rk.getD j rt0 = Rk[j] from by simp [List.getD, hj]] at hj2
      have hd : Rk[j].blk = none ∨ Rk[j].blk ≠ (Rk.getD k rt0).blk := by
        cases q : Rk[j].blk with
        | none => exact .inl rfl
        | some x =>
          refine .inr (fun e => ?_)
          rcases Nat.lt_or_gt_of_ne hne with hlt | hlt
          · exact h.cl.dis k j hlt (by omega) x e.symm (by rw [show Rk.getD j rt0 = Rk[j] from by simp [List.getD, hj]]; exact q)
          · exact h.cl.dis j k hlt hk x (by rw [show Rk.getD j rt0 = Rk[j] from by simp [List.getD, hj]]; exact q) e.symm
      exact ownsRow_setCell_other (World.ownsRow.kept hj2 hg hd) (fun hq => own_apart16 h.cl.row hj2 (by decide) (x := g) rfl hq) _
theorem Ahd.appRow (h : Ahd w0 b g c Rs Rk log next w) (hk : k < Rs.length) (hg : w.grownBy w' (Rk.getD k rt0).blk) :
    w'.cell? ⟨g, k * 2 + 1, none⟩ = some (.slice (Rk.getD k rt0).o (Rk.getD k rt0).l.length (Rk.getD k rt0).k) ∧ w'.frozen? ⟨g, k * 2 + 1, none⟩ = false ∧ ∀ (C : Array Value) (T : TypeId) (q : Nat), T ≠ 3 → BkIn C T w q → BkIn C T w' q := by
  have hown := h.cl.own k hk
  have hbk : (Rk.getD k rt0).blk ≠ some g := fun e => own_apart16 hown h.cl.row (by decide) (x := g) e rfl
  have hrow := h.cl.row.kept hg (.inr (fun e => hbk e.symm))
  refine ⟨?_, hrow.frozenAt _, fun C T q hT hC => hC.grown hg (own_of_blk hC hown hT)⟩
  have h1 := hrow.cellAt (k * 2 + 1) (by omega)
  rw [h1, tbC_get Rk k 1 (by rw [h.cl.len]; exact hk) (by omega)]; rfl
theorem setT_tbs (Rk : List Rt) (log next : Int) (k : Nat) (l : List Int) : Ed.setT ⟨tbs Rk, log, next⟩ k l = (tbs Rk).set k ⟨(Rk.getD k rt0).f, l⟩ := by simp only [Ed.setT, tbs_at, Rt.tb]
theorem MgI.setNext (h : MgI w0 wk b g c n Rk log next w) (m : Int) : MgI w0 wk b g c n Rk log m (w.setCell ⟨b, 2, none⟩ (.int .i64 m)) :=
  ⟨h.own.box h.bx h.b0 2 _, by have := h.bx.set 2 (.int .i64 m); simpa using this, h.ne, h.b0, h.kp.box _ _⟩
theorem MgI.setLog (h : MgI w0 wk b g c n Rk log next w) (m : Int) : MgI w0 wk b g c n Rk m next (w.setCell ⟨b, 1, none⟩ (.int .i64 m)) :=
  ⟨h.own.box h.bx h.b0 1 _, by have := h.bx.set 1 (.int .i64 m); simpa using this, h.ne, h.b0, h.kp.box _ _⟩
theorem MgI.ed (h : MgI w0 wk b g c n Rk log next w) (hn : n = Rk.length) : EdOut w0 b (tbs Rk) log next w ∧ Kp b wk w := by
  subst hn
  exact ⟨h.own.out h.bx, h.kp⟩
theorem Ahd.mg (h : Ahd w0 b g c Rs Rk log next w) (hkp : Kp b wk w) : MgI w0 wk b g c Rk.length Rk log next w := ⟨h.own, by rw [h.cl.len]; exact h.bx, h.ne, h.b0, hkp⟩
end
def edA (y : Re) : Array Value := #[.int .i64 y.kind, .int .i64 y.at_, .int .i64 y.file, .slice y.o y.fs.length y.k, .string (S y.key)]
def EditR (w0 wk : World) (b : Nat) (s : Ed.St) (y : Re) (e : Ending) (w' : World) : Prop :=
  (Ed.edit s y.ed = none ∧ e = .returned (.bool false) ∧ Below w0.heap.size w0 w' ∧ Kp b wk w') ∨
  (∃ t n', Ed.edit s y.ed = some t ∧ e = .returned (.bool true) ∧ (EdOut w0 b t.T t.log n' w' ∧ Kp b wk w') ∧ (n' = t.next ∨ ¬ Ed.Ok t ∧ ¬ Ed.Ok ⟨t.T, t.log, n'⟩))

theorem edit_five {s : Ed.St} {e : Ed.Ed} (h : e.kind = 5) : Ed.edit s e = if s.next ≤ e.file then some ⟨s.T, e.file, e.file + 1⟩ else none := by unfold Ed.edit; rw [if_pos h]
theorem edit_out {s : Ed.St} {e : Ed.Ed} (h5 : ¬ e.kind = 5) (h : e.at_ < 0 ∨ (s.T.length : Int) ≤ e.at_) : Ed.edit s e = none := by unfold Ed.edit; rw [if_neg h5, if_pos h]
theorem edit_in {s : Ed.St} {e : Ed.Ed} {k : Nat} (h5 : ¬ e.kind = 5) (ha : e.at_ = (k : Int)) (hk : k < s.T.length) : Ed.edit s e =
  (if e.kind = 1 then (if s.next ≤ e.file then some ⟨Ed.setT s k ((s.T.getD k Ed.tb0).l ++ [e.file]), s.log, e.file + 1⟩ else none)
  else if e.kind = 2 then (if ∀ n ∈ e.fs, s.next ≤ n ∨ n ∈ (s.T.getD k Ed.tb0).l then some ⟨Ed.setT s k e.fs, s.log, Ed.swapNext s.next e.fs⟩ else none)
  else if e.kind = 3 then some ⟨s.T.take (k + 1) ++ ⟨e.key, (s.T.getD k Ed.tb0).l⟩ :: s.T.drop (k + 1), s.log, s.next⟩
  else if e.kind = 4 then (if k + 1 < s.T.length then some ⟨s.T.take k ++ ⟨(s.T.getD k Ed.tb0).f, Ed.uni ((s.T.getD k Ed.tb0).l ++ (s.T.getD (k + 1) Ed.tb0).l)⟩ :: s.T.drop (k + 2), s.log, s.next⟩ else none)
  else none) := by
  unfold Ed.edit
  have e1 : e.at_.toNat = k := by omega
  rw [if_neg h5, if_neg (by omega), e1]
/-- A last number that is the greatest of all: neither state may be. -/
theorem swap_wrap {T : List Ed.Tb} {k : Nat} (hk : k < T.length) {f : List UInt8} {fs : List Int} {log next : Int} (hi : ∀ n ∈ fs, n ≤ 9223372036854775807) (hm : ∀ n ∈ fs, -9223372036854775808 ≤ n) :
    (if fs = [] then next else max next (IntKind.i64.wrap (Ed.lastOf 0 fs + 1))) = Ed.swapNext next fs ∨ ¬ Ed.Ok ⟨T.set k ⟨f, fs⟩, log, Ed.swapNext next fs⟩ ∧ ¬ Ed.Ok ⟨T.set k ⟨f, fs⟩, log, if fs = [] then next else max next (IntKind.i64.wrap (Ed.lastOf 0 fs + 1))⟩ := by
  by_cases he : fs = []
  · left; simp [he, Ed.swapNext]
  · have hlm : Ed.lastOf 0 fs ∈ fs := by
      unfold Ed.lastOf
      rw [List.getLast?_eq_some_getLast he]
      exact List.getLast_mem he
    unfold Ed.swapNext
    simp only [if_neg he]
    by_cases hq : Ed.lastOf 0 fs = 9223372036854775807
    · right
      have hno : ∀ next', Ed.Ok ⟨T.set k ⟨f, fs⟩, log, next'⟩ → next' ≤ 2147483647 → False := fun next' h h2 => by
        have h3 := (h.each k (by simpa using hk)).2.2.1
        have e : (T.set k ⟨f, fs⟩).getD k Ed.tb0 = ⟨f, fs⟩ := by simp [List.getD, List.getElem?_set, hk]
        rw [e] at h3
        have := (Ed.up_take h3 _ hlm).2
        simp only at this
        omega
      exact ⟨fun h => hno _ h h.nextM, fun h => hno _ h h.nextM⟩
    · left
      have h1 := hi _ hlm
      have h2 := hm _ hlm
      rw [IntWalk.i64_in _ (by omega)]
set_option maxHeartbeats 4000000 in
set_option maxRecDepth 100000 in
theorem edit16_any (w0 : World) (b g c : Nat) (Rs Rk : List Rt) (log next : Int) (hn : Rs.length ≤ 16) (hl : ∀ r, r ∈ Rk → r.l.length ≤ 10000) (y : Re) (hf : 0 ≤ y.file ∧ y.file < 2147483647) (hfl : y.fs.length ≤ 100000) (hfi : ∀ n ∈ y.fs, -9223372036854775808 ≤ n ∧ n ≤ 9223372036854775807) (hN : NsAt w0 y.o y.fs) (w : World) (h : Ahd w0 b g c Rs Rk log next w) :
    Calls Try.prog 31 #[.pointer (some ⟨b, 0, none⟩), .agg (edA y)] w (EditR w0 w b ⟨tbs Rk, log, next⟩ y) := by
  have hlen : Rk.length = Rs.length := h.cl.len
  have hnk : Rk.length ≤ 16 := by omega
  obtain ⟨kind, at_, file, fs, fo, fk, key⟩ := y
  simp only at hf hfl hfi hN
  unfold edA
  simp only
  obtain ⟨w1, hw1⟩ : ∃ x, x = w.alloc (.cells #[.int .i64 kind, .int .i64 at_, .int .i64 file, .slice fo fs.length fk, .string (S key)] 27) := ⟨_, rfl⟩
  have hb1 : Below w.heap.size w w1 := by rw [hw1]; exact (Below.refl _ _).alloc (Nat.le_refl _) _
  have HY := Lib.hid (show BkIn #[.int .i64 kind, .int .i64 at_, .int .i64 file, .slice fo fs.length fk, .string (S key)] 27 w1 w.heap.size from by rw [hw1]; exact bkIn_new _ _ w)
  have HH := Lib.hid (h.below hb1)
  have HKP := Lib.hid ((Kp.refl b w).below hb1)
  have HBG := Lib.hid (show b < w.heap.size ∧ g < w.heap.size from ⟨h.bx.lt, (h.cl.row.lt g rfl).2⟩)
  have y0 : w1.cell? ⟨w.heap.size, 0, none⟩ = some (.int .i64 kind) := HY.out.cell 0
  have y1 : w1.cell? ⟨w.heap.size, 1, none⟩ = some (.int .i64 at_) := HY.out.cell 1
  have y2 : w1.cell? ⟨w.heap.size, 2, none⟩ = some (.int .i64 file) := HY.out.cell 2
  have y3 : w1.cell? ⟨w.heap.size, 3, none⟩ = some (.slice fo fs.length fk) := HY.out.cell 3
  have y4 : w1.cell? ⟨w.heap.size, 4, none⟩ = some (.string (S key)) := HY.out.cell 4
  have z0 : w1.cell? ⟨b, 0, none⟩ = some (.slice (some ⟨g, 0, none⟩) Rk.length c) := by rw [hlen]; exact HH.out.bx.cell 0
  have HN := Lib.hid hN
  have HL := Lib.hid hl
  have HLEN := Lib.hid hlen
  have HFI := Lib.hid hfi
  go_enter Try.func31, Try.ntmps31
  clear hb1 h hN hl hlen hfi
  subst hw1
  by_cases h5 : kind = 5
  · subst h5
    clear y1 y3 y4 z0
    have z1 : (w.alloc (.cells #[.int .i64 5, .int .i64 at_, .int .i64 file, .slice fo fs.length fk, .string (S key)] 27)).cell? ⟨b, 1, none⟩ = some (.int .i64 log) := HH.out.bx.cell 1
    have f1 := HH.out.bx.free 1
    have HM := Lib.hid ((HH.out.mg HKP.out).setLog file)
    have y2s : (World.setCell (w.alloc (.cells #[.int .i64 5, .int .i64 at_, .int .i64 file, .slice fo fs.length fk, .string (S key)] 27)) ⟨b, 1, none⟩ (.int .i64 file)).cell? ⟨w.heap.size, 2, none⟩ = some (.int .i64 file) := (HY.out.other (by have := HBG.out; omega) 1 (.int .i64 file)).cell 2
    have CG := Lib.hid (give16_any _ _ _ file hf b _ HM.out.bx)
    have HE := Lib.hid (edit_five (s := ⟨tbs Rk, log, next⟩) (e := (⟨5, at_, file, fs, fo, fk, key⟩ : Re).ed) rfl)
    go_wp2_with fail
    with_reducible refine (CG.out).mono ?_
    rintro e w3 ⟨rfl, rfl⟩
    go_wp2_with fail
    go_ret
    by_cases q : next ≤ file
    · exact .inr ⟨_, _, HE.out.trans (if_pos q), by rw [decide_eq_true q]; rfl, (HM.out.setNext (file + 1)).ed rfl, .inl rfl⟩
    · exact .inl ⟨HE.out.trans (if_neg q), by rw [decide_eq_false q]; rfl, (HM.out.setNext (file + 1)).own.bel, (HM.out.setNext (file + 1)).kp⟩
  have d5 : (kind == 5) = false := by simpa using h5
  by_cases a1 : at_ < 0
  · have d1 : decide (at_ < 0) = true := decide_eq_true a1
    have HE := Lib.hid (edit_out (s := ⟨tbs Rk, log, next⟩) (e := (⟨kind, at_, file, fs, fo, fk, key⟩ : Re).ed) h5 (.inl a1))
    go_wp2_with fail
    go_quiet (fail)
    have HBE := Lib.hid (HH.out.cl.bel.trans ((below_drewN (Below.refl _ _) nq).mono HH.out.cl.bel.size))
    replace HKP := Lib.hid (HKP.out.below (below_drewN (Below.refl _ _) nq))
    go_wp2_with fail
    go_ret
    exact .inl ⟨HE.out, rfl, HBE.out, HKP.out⟩
  have d1 : decide (at_ < 0) = false := decide_eq_false a1
  by_cases a2 : (Rk.length : Int) ≤ at_
  · have d2 : decide ((Rk.length : Int) ≤ at_) = true := decide_eq_true a2
    have HE := Lib.hid (edit_out (s := ⟨tbs Rk, log, next⟩) (e := (⟨kind, at_, file, fs, fo, fk, key⟩ : Re).ed) h5 (.inr (by simp only [tbs_length]; exact a2)))
    go_wp2_with fail
    go_quiet (fail)
    have HBE := Lib.hid (HH.out.cl.bel.trans ((below_drewN (Below.refl _ _) nq).mono HH.out.cl.bel.size))
    replace HKP := Lib.hid (HKP.out.below (below_drewN (Below.refl _ _) nq))
    go_wp2_with fail
    go_ret
    exact .inl ⟨HE.out, rfl, HBE.out, HKP.out⟩
  have d2 : decide ((Rk.length : Int) ≤ at_) = false := decide_eq_false a2
  obtain ⟨k, rfl⟩ : ∃ k : Nat, at_ = k := ⟨at_.toNat, by omega⟩
  have hk : k < Rk.length := by omega
  have hki : (k : Int) < (Rk.length : Int) := by omega
  have HK := Lib.hid hk
  have HE := Lib.hid (edit_in (s := ⟨tbs Rk, log, next⟩) (e := (⟨kind, k, file, fs, fo, fk, key⟩ : Re).ed) h5 rfl (by simp only [tbs_length]; exact hk))
  simp only [Re.ed, setT_tbs, tbs_at, tbs_length, Rt.tb] at HE
  clear a1 a2
  go_wp2_with fail
  go_quiet (fail)
  have HB2 := Lib.hid (below_drewN (Below.refl (w.alloc (.cells #[.int .i64 kind, .int .i64 (k : Int), .int .i64 file, .slice fo fs.length fk, .string (S key)] 27)).heap.size (w.alloc (.cells #[.int .i64 kind, .int .i64 (k : Int), .int .i64 file, .slice fo fs.length fk, .string (S key)] 27))) nq)
  replace HY := Lib.hid (HY.out.below HB2.out)
  replace HH := Lib.hid (HH.out.below HB2.out)
  replace HKP := Lib.hid (HKP.out.below HB2.out)
  clear y0 y1 y2 y3 y4 z0 HB2
  generalize ((w.alloc (.cells #[.int .i64 kind, .int .i64 (k : Int), .int .i64 file, .slice fo fs.length fk, .string (S key)] 27))).drewN nq = w2 at *
  have y0 : w2.cell? ⟨w.heap.size, 0, none⟩ = some (.int .i64 kind) := HY.out.cell 0
  have y1 : w2.cell? ⟨w.heap.size, 1, none⟩ = some (.int .i64 k) := HY.out.cell 1
  have y2 : w2.cell? ⟨w.heap.size, 2, none⟩ = some (.int .i64 file) := HY.out.cell 2
  have y3 : w2.cell? ⟨w.heap.size, 3, none⟩ = some (.slice fo fs.length fk) := HY.out.cell 3
  have y4 : w2.cell? ⟨w.heap.size, 4, none⟩ = some (.string (S key)) := HY.out.cell 4
  have z0 : w2.cell? ⟨b, 0, none⟩ = some (.slice (some ⟨g, 0, none⟩) Rk.length c) := by rw [HLEN.out]; exact HH.out.bx.cell 0
  go_wp2_with fail
  go_quiet (fail)
  have HB3 := Lib.hid (below_drewN (Below.refl w2.heap.size w2) nq)
  replace HY := Lib.hid (HY.out.below HB3.out)
  replace HH := Lib.hid (HH.out.below HB3.out)
  replace HKP := Lib.hid (HKP.out.below HB3.out)
  clear y0 y1 y2 y3 y4 z0 HB3
  generalize (w2).drewN nq = w3 at *
  have y0 : w3.cell? ⟨w.heap.size, 0, none⟩ = some (.int .i64 kind) := HY.out.cell 0
  have y1 : w3.cell? ⟨w.heap.size, 1, none⟩ = some (.int .i64 k) := HY.out.cell 1
  have y2 : w3.cell? ⟨w.heap.size, 2, none⟩ = some (.int .i64 file) := HY.out.cell 2
  have y3 : w3.cell? ⟨w.heap.size, 3, none⟩ = some (.slice fo fs.length fk) := HY.out.cell 3
  have y4 : w3.cell? ⟨w.heap.size, 4, none⟩ = some (.string (S key)) := HY.out.cell 4
  have z0 : w3.cell? ⟨b, 0, none⟩ = some (.slice (some ⟨g, 0, none⟩) Rk.length c) := by rw [HLEN.out]; exact HH.out.bx.cell 0
  generalize w.heap.size = G at *
  by_cases h2 : kind = 2
  · subst h2
    have CS := Lib.hid (swap16_any w0 b g c k Rs Rk log next (by rw [← HLEN.out]; exact hk) (Nat.le_trans (HL.out _ (Ed.gD_mem hk)) (by omega)) fs hfl fo fk HN.out _ HH.out)
    have HW := Lib.hid (swap_wrap (T := tbs Rk) (k := k) (by simp only [tbs_length]; exact hk) (f := (Rk.getD k rt0).f) (fs := fs) (log := log) (next := next) (fun n hn => (HFI.out n hn).2) (fun n hn => (HFI.out n hn).1))
    go_wp2_with fail
    with_reducible refine (CS.out).mono ?_
    rintro e w3 (⟨h3, rfl, h4⟩ | ⟨h3, rfl, h4⟩)
    · have HE2 := Lib.hid (HE.out.trans (by exact (if_neg (by decide)).trans ((if_pos (by trivial)).trans (if_neg h3))))
      have H4 := Lib.hid h4
      clear h3 h4
      go_wp2_with fail
      go_ret
      exact .inl ⟨HE2.out, rfl, H4.out.1, HKP.out.trans H4.out.2⟩
    · have HE2 := Lib.hid (HE.out.trans (by exact (if_neg (by decide)).trans ((if_pos (by trivial)).trans (if_pos h3))))
      have H4 := Lib.hid h4
      clear h3 h4
      go_wp2_with fail
      go_ret
      exact .inr ⟨_, _, HE2.out, rfl, ⟨H4.out.1, HKP.out.trans H4.out.2⟩, HW.out⟩
  by_cases h3 : kind = 3
  · subst h3
    have CS := Lib.hid (split16_any w0 b g c k Rs Rk log next (by rw [← HLEN.out]; exact hk) hn (Nat.le_trans (HL.out _ (Ed.gD_mem hk)) (by omega)) key _ HH.out)
    go_wp2_with fail
    with_reducible refine (CS.out).mono ?_
    rintro e w3 ⟨rfl, h4⟩
    have H4 := Lib.hid h4
    clear h4
    go_wp2_with fail
    go_ret
    exact .inr ⟨_, _, HE.out.trans (by exact (if_neg (by decide)).trans ((if_neg (by decide)).trans (if_pos (by trivial)))), rfl, ⟨H4.out.1, HKP.out.trans H4.out.2⟩, .inl rfl⟩
  by_cases h4 : kind = 4
  · subst h4
    have CS := Lib.hid (merge16_any w0 b g c k Rs Rk log next (by rw [← HLEN.out]; exact hk) hn HL.out _ HH.out)
    go_wp2_with fail
    with_reducible refine (CS.out).mono ?_
    rintro e w3 (⟨h3, rfl, h4⟩ | ⟨h3, rfl, h4⟩)
    · have HE2 := Lib.hid (HE.out.trans (by exact (if_neg (by decide)).trans ((if_neg (by decide)).trans ((if_neg (by decide)).trans ((if_pos (by trivial)).trans (if_neg (by omega)))))))
      have H4 := Lib.hid h4
      clear h3 h4
      go_wp2_with fail
      go_ret
      exact .inl ⟨HE2.out, rfl, H4.out.1, HKP.out.trans H4.out.2⟩
    · have HE2 := Lib.hid (HE.out.trans (by exact (if_neg (by decide)).trans ((if_neg (by decide)).trans ((if_neg (by decide)).trans ((if_pos (by trivial)).trans (if_pos h3))))))
      have H4 := Lib.hid h4
      clear h3 h4
      go_wp2_with fail
      go_ret
      exact .inr ⟨_, _, HE2.out, rfl, ⟨H4.out.1, HKP.out.trans H4.out.2⟩, .inl rfl⟩
  by_cases h1 : kind = 1
  · subst h1
    have HA0 := Lib.hid True.intro
    go_wp2_with fail
    have HKs := Lib.hid (show k < Rs.length from by rw [← HLEN.out]; exact hk)
    have HLk := Lib.hid (show (Rk.getD k rt0).l.length + [file].length ≤ 1000000 from by have := HL.out _ (Ed.gD_mem (d := rt0) hk); simp only [List.length_cons, List.length_nil]; omega)
    obtain ⟨i0, zz, hi0, hz0, h01, h02, h03⟩ := infoN_parts
    obtain ⟨ro, hro⟩ : ∃ x, x = (Rk.getD k rt0).o := ⟨_, rfl⟩
    have HRo := Lib.hid hro
    obtain ⟨rl, hrl⟩ : ∃ x, x = (Rk.getD k rt0).l := ⟨_, rfl⟩
    have HRl := Lib.hid hrl
    obtain ⟨rk, hrk⟩ : ∃ x, x = (Rk.getD k rt0).k := ⟨_, rfl⟩
    have HRk := Lib.hid hrk
    clear hro hrl hrk
    clear y0 y1 y2 y3 y4 z0
    refine wp_region_Z (S := fun V => V.cell? ⟨g, k * 2 + 1, none⟩ = some (.slice ro rl.length rk) ∧ V.cell? ⟨G, 2, none⟩ = some (.int .i64 file)) 11 (by kernel_rfl) ?_ (fun hHeld => ?_)
    · exact ⟨by rw [HRo.out, HRl.out, HRk.out]; exact (HH.out.below ((Below.refl _ w3).drew)).cells HKs.out, (HY.out.below ((Below.refl _ w3).drew)).cell 2⟩
    replace HH := Lib.hid (HH.out.below ((Below.refl _ w3).drew))
    replace HKP := Lib.hid (HKP.out.below ((Below.refl _ w3).drew))
    replace HY := Lib.hid (HY.out.below ((Below.refl _ w3).drew))
    obtain ⟨wd, hwd⟩ : ∃ x, x = World.drew w3 := ⟨_, rfl⟩
    rw [← hwd] at HH HY HKP hHeld ⊢
    clear hwd
    refine wpAnyZ_takeY (i := 0) (oi := { dst := some 42, op := Op.move (Operand.tmp 5), type := 83, pos := "edits.go:75", after := #[], guard := none }) (v := ?_) rfl (by kernel_rfl) (by kernel_rfl) (by kernel_rfl) (by rfl) (fun _ _ _ h => h) (Or.inl ⟨by rfl, ?_⟩) (by assumption) ?_
    rotate_left
    · (intro w; go_simp); (first | done | with_reducible rfl)
    try simp only [Act.put, List.setIfInBounds_toArray, List.set_cons_zero, List.set_cons_succ]
    refine wpAnyZ_takeY (i := 1) (oi := { dst := some 43, op := Op.move (Operand.tmp 5), type := 83, pos := "edits.go:75", after := #[], guard := none }) (v := ?_) rfl (by kernel_rfl) (by kernel_rfl) (by kernel_rfl) (by rfl) (fun _ _ _ h => h) (Or.inl ⟨by rfl, ?_⟩) (by assumption) ?_
    rotate_left
    · (intro w; go_simp); (first | done | with_reducible rfl)
    try simp only [Act.put, List.setIfInBounds_toArray, List.set_cons_zero, List.set_cons_succ]
    refine wpAnyZ_takeY (i := 2) (oi := { dst := some 44, op := Op.nilCheck (Operand.tmp 43), type := 0, pos := "edits.go:75", after := #[{ on := 1, ground := Ground.data }], guard := none }) (v := ?_) rfl (by kernel_rfl) (by kernel_rfl) (by kernel_rfl) (by rfl) (fun _ _ _ h => h) (Or.inl ⟨by rfl, ?_⟩) (by assumption) ?_
    rotate_left
    · (intro w; go_simp); (first | done | with_reducible rfl)
    try simp only [Act.put, List.setIfInBounds_toArray, List.set_cons_zero, List.set_cons_succ]
    refine wpAnyZ_takeY (i := 3) (oi := { dst := some 45, op := Op.fieldAddr 41 (Operand.tmp 44) 1, type := 0, pos := "edits.go:75", after := #[{ on := 2, ground := Ground.data }], guard := none }) (v := ?_) rfl (by kernel_rfl) (by kernel_rfl) (by kernel_rfl) (by rfl) (fun _ _ _ h => h) (Or.inl ⟨by rfl, ?_⟩) (by assumption) ?_
    rotate_left
    · (intro w; go_simp); (first | done | with_reducible rfl)
    try simp only [Act.put, List.setIfInBounds_toArray, List.set_cons_zero, List.set_cons_succ]
    refine wpAnyZ_take (i := 4) (oi := { dst := some 46, op := Op.load 25 (Operand.tmp 45), type := 25, pos := "edits.go:75", after := #[{ on := 3, ground := Ground.data }], guard := none }) (v := ?_) [8, 9, 10, 11] rfl (by kernel_rfl) (by kernel_rfl) (by kernel_rfl) (by kernel_rfl) (fun _ _ _ h => h) (Or.inl ⟨by rfl, ?_⟩) (by assumption) ?_
    rotate_left
    · (intro w hSw; (try dsimp only at hSw); go_simp); (first | done | with_reducible rfl)
    try simp only [Act.put, List.setIfInBounds_toArray, List.set_cons_zero, List.set_cons_succ]
    refine wpAnyZ_takeY (i := 5) (oi := { dst := some 47, op := Op.fieldAddr 27 (Operand.tmp 3) 2, type := 0, pos := "edits.go:75", after := #[], guard := none }) (v := ?_) rfl (by kernel_rfl) (by kernel_rfl) (by kernel_rfl) (by rfl) (fun _ _ _ h => h) (Or.inl ⟨by rfl, ?_⟩) (by assumption) ?_
    rotate_left
    · (intro w; go_simp); (first | done | with_reducible rfl)
    try simp only [Act.put, List.setIfInBounds_toArray, List.set_cons_zero, List.set_cons_succ]
    refine wpAnyZ_take (i := 6) (oi := { dst := some 48, op := Op.load 3 (Operand.tmp 47), type := 3, pos := "edits.go:75", after := #[{ on := 5, ground := Ground.data }], guard := none }) (v := ?_) [7, 8, 9, 10, 11] rfl (by kernel_rfl) (by kernel_rfl) (by kernel_rfl) (by kernel_rfl) (fun _ _ _ h => h) (Or.inl ⟨by rfl, ?_⟩) (by assumption) ?_
    rotate_left
    · (intro w hSw; (try dsimp only at hSw); go_simp); (first | done | with_reducible rfl)
    try simp only [Act.put, List.setIfInBounds_toArray, List.set_cons_zero, List.set_cons_succ]
    refine wpAnyZ_ready (rs := [7]) (by kernel_rfl) (by simp) ?_
    refine AllReadyZ.cons (o := { dst := some 49, op := Op.buildSlice 25 1 #[(0, Operand.tmp 48)], type := 25, pos := "edits.go:75", after := #[{ on := 6, ground := Ground.data }], guard := none }) rfl (by rfl) (fun K hK => ?_) (AllReadyZ.nil)
    go_simp
    have hb5 := (Below.refl wd.heap.size wd).alloc (Nat.le_refl _) (.cells #[.int .i64 file] 3)
    have HX5 := Lib.hid (bkIn_new #[.int .i64 file] 3 wd)
    replace HH := Lib.hid (HH.out.below hb5)
    replace HKP := Lib.hid (HKP.out.below hb5)
    replace HY := Lib.hid (HY.out.below hb5)
    have HSS := Lib.hid (show (World.alloc wd (.cells #[.int .i64 file] 3)).cell? ⟨g, k * 2 + 1, none⟩ = some (.slice ro rl.length rk) ∧ (World.alloc wd (.cells #[.int .i64 file] 3)).cell? ⟨G, 2, none⟩ = some (.int .i64 file) from ⟨by rw [HRo.out, HRl.out, HRk.out]; exact HH.out.cells HKs.out, HY.out.cell 2⟩)
    have HS5 := Lib.hid (show (World.alloc wd (.cells #[.int .i64 file] 3)).heap.size = wd.heap.size + 1 from by simp)
    generalize (World.alloc wd (.cells #[.int .i64 file] 3)) = w5 at *
    clear hb5
    refine hK.out _ _ ?_ (fun hHeld => ?_)
    · exact HSS.out
    clear hK K
    try simp only [Act.put, List.setIfInBounds_toArray, List.set_cons_zero, List.set_cons_succ]
    refine wpAnyZ_ready (rs := [8]) (by kernel_rfl) (by simp) ?_
    refine AllReadyZ.cons (o := { dst := some 50, op := Op.call { callee := Callee.builtin Builtin.append, args := #[Operand.tmp 46, Operand.tmp 49], argTypes := #[25, 25] }, type := 25, pos := "edits.go:75", after := #[{ on := 4, ground := Ground.data }, { on := 7, ground := Ground.data }], guard := none }) rfl (by rfl) (fun K hK => ?_) (AllReadyZ.nil)
    refine step_append_nums16 (by rfl) _ _ 25 (by rfl) w0.heap.size i0 zz Try.underlying25 hi0 hz0 h01 h02 h03 (.slice ro rl.length rk) rl.length (nsL rl) (by rfl) (by rw [HRo.out, HRl.out, HRk.out]; exact HH.out.cl.own k HKs.out) (some ⟨wd.heap.size, 0, none⟩) 1 1 [file] (by rfl) rfl (nsAt_one HX5.out) (by rw [HRl.out]; exact HLk.out) HH.out.cl.bel.size ?_
    intro v6 w6 ho6 hg6
    obtain ⟨a6, c6, rfl⟩ := own_shape16 ho6
    have hg6' : w5.grownBy w6 (Rk.getD k rt0).blk := by rw [HRo.out, HRl.out, HRk.out] at hg6; exact hg6
    have HP6 := Lib.hid (HH.out.appRow HKs.out hg6')
    replace HY := Lib.hid (HP6.out.2.2 _ _ _ (by decide) HY.out)
    have HM6 := Lib.hid (HH.out.app HKP.out (l' := rl ++ [file]) (ao' := a6) (cap' := c6) HKs.out hg6' (by rw [List.length_append, nsL_append]; exact ho6))
    replace HSS := Lib.hid (show w6.cell? ⟨g, k * 2 + 1, none⟩ = some (.slice ro rl.length rk) ∧ w6.cell? ⟨G, 2, none⟩ = some (.int .i64 file) from ⟨by rw [HRo.out, HRl.out, HRk.out]; exact HP6.out.1, HY.out.cell 2⟩)
    clear ho6 hg6 hg6' HH
    refine hK.out _ _ ?_ (fun hHeld => ?_)
    · exact HSS.out
    clear hK K
    try simp only [Act.put, List.setIfInBounds_toArray, List.set_cons_zero, List.set_cons_succ]
    refine wpAnyZ_takeY (i := 9) (oi := { dst := some 51, op := Op.nilCheck (Operand.tmp 42), type := 0, pos := "edits.go:75", after := #[{ on := 0, ground := Ground.data }, { on := 0, ground := Ground.phase }, { on := 1, ground := Ground.phase }, { on := 2, ground := Ground.phase }, { on := 3, ground := Ground.phase }, { on := 4, ground := Ground.phase }, { on := 5, ground := Ground.phase }, { on := 6, ground := Ground.phase }, { on := 7, ground := Ground.phase }, { on := 8, ground := Ground.phase }], guard := none }) (v := ?_) rfl (by kernel_rfl) (by kernel_rfl) (by kernel_rfl) (by rfl) (fun _ _ _ h => h) (Or.inl ⟨by rfl, ?_⟩) (by assumption) ?_
    rotate_left
    · (intro w; go_simp); (first | done | with_reducible rfl)
    try simp only [Act.put, List.setIfInBounds_toArray, List.set_cons_zero, List.set_cons_succ]
    refine wpAnyZ_takeY (i := 10) (oi := { dst := some 52, op := Op.fieldAddr 41 (Operand.tmp 51) 1, type := 0, pos := "edits.go:75", after := #[{ on := 9, ground := Ground.data }, { on := 0, ground := Ground.phase }, { on := 1, ground := Ground.phase }, { on := 2, ground := Ground.phase }, { on := 3, ground := Ground.phase }, { on := 4, ground := Ground.phase }, { on := 5, ground := Ground.phase }, { on := 6, ground := Ground.phase }, { on := 7, ground := Ground.phase }, { on := 8, ground := Ground.phase }], guard := none }) (v := ?_) rfl (by kernel_rfl) (by kernel_rfl) (by kernel_rfl) (by rfl) (fun _ _ _ h => h) (Or.inl ⟨by rfl, ?_⟩) (by assumption) ?_
    rotate_left
    · (intro w; go_simp); (first | done | with_reducible rfl)
    try simp only [Act.put, List.setIfInBounds_toArray, List.set_cons_zero, List.set_cons_succ]
    refine wpAnyZ_ready (rs := [11]) (by kernel_rfl) (by simp) ?_
    refine AllReadyZ.last (o := { dst := none, op := Op.store 25 (Operand.tmp 52) (Operand.tmp 50), type := 0, pos := "edits.go:75", after := #[{ on := 10, ground := Ground.data }, { on := 8, ground := Ground.data }, { on := 8, ground := Ground.chain }, { on := 0, ground := Ground.phase }, { on := 1, ground := Ground.phase }, { on := 2, ground := Ground.phase }, { on := 3, ground := Ground.phase }, { on := 4, ground := Ground.phase }, { on := 5, ground := Ground.phase }, { on := 6, ground := Ground.phase }, { on := 7, ground := Ground.phase }, { on := 8, ground := Ground.phase }], guard := none }) rfl (fun K hK => ?_) AllReadyZ.nil
    have f9 := HP6.out.2.1
    have m9 := HSS.out.1
    go_simp
    refine hK.out _ _ ?_
    clear hK K
    refine wpAny_done (by kernel_rfl) ?_ _
    have y2 : (w6.setCell ⟨g, k * 2 + 1, none⟩ (.slice a6 (rl.length + 1) c6)).cell? ⟨G, 2, none⟩ = some (.int .i64 file) := (HY.out.other (by have := HBG.out; omega) _ _).cell 2
    rw [List.length_append] at HM6
    have HM7 := Lib.hid (show MgI w0 w b g c Rs.length (Rk.set k ⟨(Rk.getD k rt0).f, rl ++ [file], a6, c6⟩) log next (w6.setCell ⟨g, k * 2 + 1, none⟩ (.slice a6 (rl.length + 1) c6)) from HM6.out)
    generalize w6.setCell ⟨g, k * 2 + 1, none⟩ (.slice a6 (rl.length + 1) c6) = w7 at *
    clear HM6 HP6 HSS hHeld
    have CG := Lib.hid (give16_any _ _ _ file hf b _ HM7.out.bx)
    go_wp2_with fail
    with_reducible refine (CG.out).mono ?_
    rintro e w8 ⟨rfl, rfl⟩
    have HM8 := Lib.hid (HM7.out.setNext (file + 1))
    go_wp2_with fail
    go_ret
    have HE2 := Lib.hid (HE.out.trans (if_pos (by trivial)))
    by_cases q : next ≤ file
    · refine .inr ⟨_, _, HE2.out.trans (if_pos q), by rw [decide_eq_true q]; rfl, ?_, .inl rfl⟩
      have := HM8.out.ed (by rw [List.length_set, HLEN.out])
      rw [tbs_set] at this
      rw [← HRl.out]
      exact this
    · exact .inl ⟨HE2.out.trans (if_neg q), by rw [decide_eq_false q]; rfl, HM8.out.own.bel, HM8.out.kp⟩
  · have d6 : (kind == 1) = false := by simpa using h1
    have d7 : (kind == 2) = false := by simpa using h2
    have d8 : (kind == 3) = false := by simpa using h3
    have d9 : (kind == 4) = false := by simpa using h4
    have HE2 := Lib.hid (HE.out.trans (by rw [if_neg h1, if_neg h2, if_neg h3, if_neg h4]))
    clear HE
    go_wp2_with fail
    go_ret
    exact .inl ⟨HE2.out, rfl, HH.out.cl.bel, HKP.out⟩

end Go.Proofs.Ytfcmjgcjmldpcaa
