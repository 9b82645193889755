/- Layer 5: a file of a disk: find, Synced, Read. -/
import Derived.Test.YtekmnpmeienhhaaDiskJ
namespace Go.Proofs.Ytekmnpmeienhhaa
set_option linter.unusedVariables false
open Go Go.RowKit Go.Maps

/-- The row of a file, or none. -/
def vOf (V : List UInt8 → Value) (nm : List UInt8) (L : List Dk.Fl) : Value := if Dk.has nm L then V nm else .slice none 0 0
section
variable {mb n : Nat} {V : List UInt8 → Value} {L : List Dk.Fl} {nm : List UInt8}
theorem run_look5 {w : World} (h : w.ownsMap Try.prog 9 heldR mb n (datM V L)) (hl : nm.length ≤ 140737488351232) :
    (Instr.lookup 41 (.map (some mb)) (.string (S nm)) false).run Try.prog w = .ok (.agg #[vOf V nm L, .int .i64 (Dk.get nm L).safe]) w := by
  obtain ⟨v, ps, hr, hv⟩ := h.lookup law5 Try.underlying41 (zeroFl5 w) (zd := .held (.agg #[.slice none 0 0, .int .i64 0])) (zp := []) rfl (key5 hl)
  rw [hr]
  have e : v = .agg #[vOf V nm L, .int .i64 (Dk.get nm L).safe] := by
    unfold vOf
    simp only [heldR, Option.some.injEq, Prod.mk.injEq] at hv
    have h1 := hv.1
    cases hh : Dk.has nm L with
    | true =>
      rw [datM_at V _ hh] at h1
      injection h1
    | false =>
      rw [datM_at_no V _ hh] at h1
      rw [Dk.get_none hh]
      injection h1
  rw [e]
theorem run_look_ok5 {w : World} (h : w.ownsMap Try.prog 9 heldR mb n (datM V L)) (hl : nm.length ≤ 140737488351232) :
    (Instr.lookup 41 (.map (some mb)) (.string (S nm)) true).run Try.prog w = .ok (.tuple #[.agg #[vOf V nm L, .int .i64 (Dk.get nm L).safe], .bool (Dk.has nm L)]) w := by
  obtain ⟨v, ps, hr, hv⟩ := h.look_ok law5 Try.underlying41 (zeroFl5 w) (zd := .held (.agg #[.slice none 0 0, .int .i64 0])) (zp := []) rfl (key5 hl)
  rw [hr, datM_has]
  have e : v = .agg #[vOf V nm L, .int .i64 (Dk.get nm L).safe] := by
    unfold vOf
    simp only [heldR, Option.some.injEq, Prod.mk.injEq] at hv
    have h1 := hv.1
    cases hh : Dk.has nm L with
    | true =>
      rw [datM_at V _ hh] at h1
      injection h1
    | false =>
      rw [datM_at_no V _ hh] at h1
      rw [Dk.get_none hh]
      injection h1
  rw [e]
section
variable (w : World) {ops : Array Oper} {rest : List Oper} {o : Oper} {a : Act} {Q : Exit → Act → World → Prop}
theorem wpList_look5 (hg : o.guard = none) (m x : Operand) (hop : o.op = Op.lookup 41 m x false) (hm : a.eval m = .map (some mb)) (hx : a.eval x = .string (S nm))
    (hown : w.ownsMap Try.prog 9 heldR mb n (datM V L)) (hl : nm.length ≤ 140737488351232) (v : Value) (he : vOf V nm L = v) (hK : wpList Try.prog ops Q rest (a.put o.dst (.agg #[v, .int .i64 (Dk.get nm L).safe])) w) : wpList Try.prog ops Q (o :: rest) a w   := by
  subst he
  refine wpList_plain hg fun K' hK' => ?_
  have hrun := run_look5 hown hl
  unfold Oper.wp
  simp [execOp, hop, hm, hx, hrun, Result.andThen]
  exact hK' _ _ hK
theorem wpList_look_ok5 (hg : o.guard = none) (m x : Operand) (hop : o.op = Op.lookup 41 m x true) (hm : a.eval m = .map (some mb)) (hx : a.eval x = .string (S nm))
    (hown : w.ownsMap Try.prog 9 heldR mb n (datM V L)) (hl : nm.length ≤ 140737488351232) (v : Value) (he : vOf V nm L = v) (hK : wpList Try.prog ops Q rest (a.put o.dst (.tuple #[.agg #[v, .int .i64 (Dk.get nm L).safe], .bool (Dk.has nm L)])) w) : wpList Try.prog ops Q (o :: rest) a w   := by
  subst he
  refine wpList_plain hg fun K' hK' => ?_
  have hrun := run_look_ok5 hown hl
  unfold Oper.wp
  simp [execOp, hop, hm, hx, hrun, Result.andThen]
  exact hK' _ _ hK
end
end
theorem below_two5 (w : World) (o o' : Obj) : Below w.heap.size w ((w.alloc o).alloc o') := ((Below.refl _ _).alloc (Nat.le_refl _) o).alloc ((Below.refl w.heap.size w).alloc (Nat.le_refl _) o).size o'
theorem run_fieldS5 (w : World) (v : Value) (n : Int) : (Instr.field 93 (.agg #[v, .int .i64 n]) 1).run Try.prog w = .ok (.int .i64 n) w := by kernel_rfl
section
variable {B d mb : Nat} {V : List UInt8 → Value} {sv : Value} {c : Cs} {D : Dk.St} {w : World} {F : Nat → Prop}
theorem DkIn.vrow (h : DkIn B d mb V sv c D w) (nm : List UInt8) : w.ownsRow B 5 1 (vOf V nm D.L) (Dk.get nm D.L).dat.length (bts (Dk.get nm D.L).dat) := by
  unfold vOf
  cases hh : Dk.has nm D.L with
  | true =>
    obtain ⟨h1, h2⟩ := Dk.get_mem hh
    have := h.row _ h1
    rw [h2] at this
    exact this
  | false =>
    rw [Dk.get_none hh]
    exact World.ownsRow_nil _ _ _ _
theorem DkAt.in (h : DkAt B F d D w) : ∃ mb V sv c, DkIn B d mb V sv c D w := by
  obtain ⟨h0, mb, V, sv, c, h1, h2, h3⟩ := h
  exact ⟨mb, V, sv, c, h1⟩
theorem synced5 (h : DkAt B F d D w) (nm : List UInt8) (hl : nm.length ≤ 140737488351232) : Calls Try.prog 23 #[.pointer (some ⟨d, 0, none⟩), .string (S nm)] w fun e w' => e = .returned (.int .i64 (Dk.get nm D.L).safe) ∧ w = w' := by
  have C := Lib.hid (none5 h)
  obtain ⟨mb, V, sv, c, h1⟩ := h.in
  have c2 : w.cell? ⟨d, 2, none⟩ = some (.map (some mb)) := h1.box.cell 2
  have HM := Lib.hid h1.map
  have HL := Lib.hid hl
  obtain ⟨ao, ac, hv⟩ := row_shape5 (h1.vrow nm)
  have HV := Lib.hid hv
  have hfs := run_fieldS5
  clear h1 hl hv
  go_enter Try.func23, Try.ntmps23
  go_wp2_with fail
  with_reducible refine C.out.mono ?_
  rintro e w' ⟨rfl, rfl⟩
  go_wp2_with (at_lookup; refine wpList_look5 _ rfl _ _ rfl rfl rfl HM.out HL.out _ HV.out ?_)
  go_ret
  exact ⟨rfl, rfl⟩
/-- What 'find' tells. -/
def fndE (nm : List UInt8) (D : Dk.St) : Int := if D.up = false then 51 else if Dk.has nm D.L = false then 4 else 0
def fndV (V : List UInt8 → Value) (nm : List UInt8) (D : Dk.St) : Value := if fndE nm D = 0 then V nm else .slice none 0 0
def fndS (nm : List UInt8) (D : Dk.St) : Int := if fndE nm D = 0 then (Dk.get nm D.L).safe else 0
theorem ret_cell2 {fn : Func} {p q : Tmp} {T : TypeId} {fs : Array Field} {C : Array Value} (hu : Try.prog.underlying T = some (.struct fs)) (hi : (Try.prog.info? T).map (·.size) = some C.size)
    (hr : fn.results = #[.cell p T, .tmp q]) (tmps : Array Value) (w : World) (g : Nat) (hp : tmps.getD p undef = .pointer (some ⟨g, 0, none⟩)) (hg : Bk C T w g) :
    (results fn tmps).run Try.prog w = .ok (.tuple #[.agg C, tmps.getD q undef]) w := by
  have hp' : tmps[p]?.getD undef = .pointer (some ⟨g, 0, none⟩) := by simpa using hp
  have hl : (loadVar T ⟨g, 0, none⟩).run Try.prog w = .ok (.agg C) w := run_loadVar_row w g _ _ C (0, 0) _ hg hu rfl hi
  simp [results, hr, hp', asAddr, hl]
set_option maxRecDepth 100000 in
set_option maxHeartbeats 1000000 in
theorem find5 (h : DkAt B F d D w) (hI : DkIn B d mb V sv c D w) (nm : List UInt8) (hl : nm.length ≤ 140737488351232) : Calls Try.prog 67 #[.pointer (some ⟨d, 0, none⟩), .string (S nm)] w fun e w' =>
    e = .returned (.tuple #[.agg #[fndV V nm D, .int .i64 (fndS nm D)], .int .i64 (fndE nm D)]) ∧ Below w.heap.size w w' := by
  have C := Lib.hid (fun o => state5 (h.below ((Below.refl _ _).alloc (Nat.le_refl _) o)))
  have c2 : ∀ o, (w.alloc o).cell? ⟨d, 2, none⟩ = some (.map (some mb)) := fun o => (hI.box.more o).cell 2
  have HM := Lib.hid (fun o => hI.map.alloc o)
  have HL := Lib.hid hl
  have hb := Lib.hid (fun o => (Below.refl w.heap.size w).alloc (Nat.le_refl _) o)
  have hi93 : (Try.prog.info? 93).map (·.size) = some 2 := by kernel_rfl
  have HI := Lib.hid hi93
  obtain ⟨ao, ac, hv⟩ := row_shape5 (hI.vrow nm)
  have HV0 := Lib.hid hv
  have HV := Lib.hid (show Dk.has nm D.L = true → V nm = .slice ao (Dk.get nm D.L).dat.length ac from fun hh => (if_pos hh).symm.trans hv)
  clear hI h hi93 hl hv
  unfold fndV fndS fndE stE at *
  cases hu : D.up with
  | false =>
    rw [hu] at C
    simp only [Bool.false_eq_true, if_false] at C
    simp only [if_true, if_false, show ¬ ((51 : Int) = 0) from by decide]
    have HB1 := Lib.hid (hb.out (.cells #[.slice none 0 0, .int .i64 0] 93))
    go_enter Try.func67, Try.ntmps67
    go_wp2_with fail
    with_reducible refine (C.out _).mono ?_
    rintro e w' ⟨rfl, rfl⟩
    go_wp2_with fail
    exact bodyPost_ret (v := .tuple #[.agg #[.slice none 0 0, .int .i64 0], .int .i64 51]) (ret_cell2 (p := 4) (q := 5) (C := #[.slice none 0 0, .int .i64 0]) Try.underlying93 HI.out rfl _ _ w.heap.size rfl (bk_new _ _ _)) rfl ⟨rfl, HB1.out⟩
  | true =>
    rw [hu] at C
    simp only [if_true] at C
    have HB1 := Lib.hid (hb.out (.cells #[.slice none 0 0, .int .i64 0] 93))
    cases hh : Dk.has nm D.L with
    | false =>
      have HH := Lib.hid hh
      clear hh
      simp only [Bool.true_eq_false, if_false, if_true, show ¬ ((4 : Int) = 0) from by decide]
      go_enter Try.func67, Try.ntmps67
      go_wp2_with fail
      with_reducible refine (C.out _).mono ?_
      rintro e w' ⟨rfl, rfl⟩
      go_wp2_with (at_lookup; refine wpList_look_ok5 _ rfl _ _ rfl rfl rfl (HM.out _) HL.out _ HV0.out ?_; rw [HH.out])
      exact bodyPost_ret (v := .tuple #[.agg #[.slice none 0 0, .int .i64 0], .int .i64 4]) (ret_cell2 (p := 4) (q := 5) (C := #[.slice none 0 0, .int .i64 0]) Try.underlying93 HI.out rfl _ _ w.heap.size rfl ((bk_new _ _ _).more _)) rfl ⟨rfl, (below_two5 _ _ _)⟩
    | true =>
      have HH := Lib.hid hh
      clear hh
      simp only [Bool.true_eq_false, if_false, if_true]
      have HVN := Lib.hid (HV.out HH.out)
      rw [HVN.out]
      go_enter Try.func67, Try.ntmps67
      go_wp2_with fail
      with_reducible refine (C.out _).mono ?_
      rintro e w' ⟨rfl, rfl⟩
      go_wp2_with (first | (at_lookup; refine wpList_look_ok5 _ rfl _ _ rfl rfl rfl (HM.out _) HL.out _ HV0.out ?_; rw [HH.out]))
      exact bodyPost_ret (v := .tuple #[.agg #[.slice ao (Dk.get nm D.L).dat.length ac, .int .i64 ((Dk.get nm D.L).safe : Nat)], .int .i64 0]) (ret_cell2 (p := 4) (q := 5) (C := #[.slice ao (Dk.get nm D.L).dat.length ac, .int .i64 (Dk.get nm D.L).safe]) Try.underlying93 HI.out rfl _ _ w.heap.size rfl ((bk_new _ _ _).more _)) rfl ⟨rfl, (below_two5 _ _ _)⟩
theorem DkIn.below (h : DkIn B d mb V sv c D w) {w' : World} (hb : Below w.heap.size w w') : DkIn B d mb V sv c D w' := h.wr (A := fun _ => False) (wr_below hb) (fun _ _ q => q)
/-- The row that 'find' tells. -/
theorem DkIn.fnd (h : DkIn B d mb V sv c D w) (nm : List UInt8) : w.ownsRow B 5 1 (fndV V nm D) (if fndE nm D = 0 then (Dk.get nm D.L).dat.length else 0) (if fndE nm D = 0 then bts (Dk.get nm D.L).dat else []) := by
  unfold fndV
  by_cases he : fndE nm D = 0
  · simp only [if_pos he]
    have hh : Dk.has nm D.L = true := by
      unfold fndE at he
      split at he
      · cases he
      · split at he
        · cases he
        · rename_i h1; simpa using h1
    have := h.vrow nm
    unfold vOf at this
    rw [if_pos hh] at this
    exact this
  · simp only [if_neg he]
    exact World.ownsRow_nil _ _ _ _
def rdL (nm : List UInt8) (D : Dk.St) : List UInt8 := if fndE nm D = 0 then (Dk.get nm D.L).dat else []
theorem rd_eq (nm : List UInt8) (D : Dk.St) : Dk.read nm D = (fndE nm D, rdL nm D) := by
  unfold Dk.read rdL fndE
  cases D.up with
  | false => rfl
  | true =>
    cases Dk.has nm D.L <;> rfl
set_option maxRecDepth 100000 in
theorem read5 (h : DkAt B F d D w) (nm : List UInt8) (hl : nm.length ≤ 140737488351232) : Calls Try.prog 26 #[.pointer (some ⟨d, 0, none⟩), .string (S nm)] w fun e w' =>
    e = .returned (.tuple #[.string (S (Dk.read nm D).2), .int .i64 (Dk.read nm D).1]) ∧ Below w.heap.size w w' := by
  obtain ⟨mb, V, sv, c, hI⟩ := h.in
  have C := Lib.hid (find5 h hI nm hl)
  have hr := hI.fnd nm
  have hr2 : w.ownsRow B 5 1 (fndV V nm D) (rdL nm D).length (bts (rdL nm D)) := by
    unfold rdL
    by_cases he : fndE nm D = 0
    · simp only [if_pos he] at hr ⊢; exact hr
    · simp only [if_neg he] at hr ⊢; exact hr
  rw [rd_eq]
  simp only
  generalize rdL nm D = l at *
  obtain ⟨ao, ac, hv⟩ := row_shape5 hr2
  rw [hv] at C hr2
  have hs := Lib.hid hr2
  generalize fndS nm D = n at *
  generalize fndE nm D = er at *
  clear hr hr2 hv hI h hl
  go_enter Try.func26, Try.ntmps26
  go_wp2_with fail
  with_reducible refine C.out.mono ?_
  rintro e w1 ⟨rfl, hb⟩
  have hc := fun o => row_string5 l (row_below5 (row_below5 hs.out hb) ((Below.refl w1.heap.size w1).alloc (Nat.le_refl _) o)) 68 9 Try.underlying68 Try.underlying5 Try.underlying9
  have HB := Lib.hid (fun o => below_step hb ((Below.refl w1.heap.size w1).alloc (Nat.le_refl _) o))
  clear hb
  go_wp2_with fail
  go_ret2
  exact ⟨rfl, HB.out _⟩
end

end Go.Proofs.Ytekmnpmeienhhaa
