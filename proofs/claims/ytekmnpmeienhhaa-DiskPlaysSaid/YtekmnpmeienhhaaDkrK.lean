/- Layer 5: the document's disk: Append. -/
import Derived.Test.YtekmnpmeienhhaaDkrJ
namespace Go.Proofs.Ytekmnpmeienhhaa
set_option linter.unusedVariables false
open Go Go.RowKit Go.Maps
attribute [local go_sem] S_append

namespace Dk
theorem del_ins5 (f : Fl) : ∀ L : List Fl, del f.name (ins f L) = del f.name L
  | [] => by unfold ins del; rw [List.filter_cons_of_neg (by simp)]
  | g :: r => by
    unfold ins
    split
    · unfold del; rw [List.filter_cons_of_neg (by simp)]
    · have := del_ins5 f r
      unfold del at *
      rw [List.filter_cons, List.filter_cons, this]
/-- Bytes behind a file's, which is laid, if it is not there. -/
structure AppAt (nm s : List UInt8) (L L1 : List Fl) (k : Nat) (nmk dt : List UInt8) (sf : Nat) : Prop where
  lt : k < L1.length
  at_ : L1.getD k fl0 = ⟨nm, dt, sf⟩
  put : put ⟨nm, (get nm L).dat ++ s, (get nm L).safe⟩ L = L1.set k ⟨nm, dt ++ s, sf⟩
  ok : OkL (L1.set k ⟨nm, dt ++ s, sf⟩)
  size : size (L1.set k ⟨nm, dt ++ s, sf⟩) = size L + s.length
theorem appAt_has {nm s : List UInt8} {L : List Fl} (h : OkL L) (hnm : named nm = true) {k : Nat} (hk : k < L.length) (he : L[k].name = nm) : AppAt nm s L L k nm L[k].dat L[k].safe := by
  obtain ⟨q1, q2⟩ := get_at5 h hk he
  have e1 : put ⟨nm, (get nm L).dat ++ s, (get nm L).safe⟩ L = L.set k ⟨nm, L[k].dat ++ s, L[k].safe⟩ := by rw [q1]; exact put_at h.up hk (by exact he.symm)
  refine ⟨hk, ?_, e1, ?_, ?_⟩
  · rw [show L.getD k fl0 = L[k] from by simp [List.getD, hk]]
    obtain ⟨x, y, z⟩ : True ∧ True ∧ True := ⟨trivial, trivial, trivial⟩
    exact (show ∀ G : Fl, G.name = nm → G = ⟨nm, G.dat, G.safe⟩ from fun G h => by cases G; simp only at h; subst h; rfl) _ he
  · rw [← e1, q1]
    refine h.put (by exact hnm) ?_
    have := h.safe _ (List.getElem_mem hk)
    simp only [List.length_append]; omega
  · rw [← e1]
    have h1 := size_put h ⟨nm, (get nm L).dat ++ s, (get nm L).safe⟩
    simp only [List.length_append] at h1
    omega
theorem appAt_new {nm s : List UInt8} {L : List Fl} (h : OkL L) (hnm : named nm = true) (hno : has nm L = false) {k : Nat} (hk : k < (ins ⟨nm, [], 0⟩ L).length) (he : (ins ⟨nm, [], 0⟩ L)[k].name = nm) : AppAt nm s L (ins ⟨nm, [], 0⟩ L) k nm (ins ⟨nm, [], 0⟩ L)[k].dat (ins ⟨nm, [], 0⟩ L)[k].safe ∧ OkL (ins ⟨nm, [], 0⟩ L) := by
  have hok : OkL (ins ⟨nm, [], 0⟩ L) := by
    have := h.put (f := ⟨nm, [], 0⟩) (by exact hnm) (Nat.le_refl _)
    unfold put at this
    rw [del_none (by exact hno)] at this
    exact this
  have hA := appAt_has (s := s) hok hnm hk he
  obtain ⟨q1, q2⟩ := get_at5 hok hk he
  have hmem : (⟨nm, [], 0⟩ : Fl) ∈ ins ⟨nm, [], 0⟩ L := mem_ins.2 (.inl rfl)
  have hg : get nm (ins ⟨nm, [], 0⟩ L) = ⟨nm, [], 0⟩ := get_of (f := ⟨nm, [], 0⟩) hok.ne hmem
  have hg0 : get nm L = fl0 := get_none hno
  have e2 : put ⟨nm, (get nm L).dat ++ s, (get nm L).safe⟩ L = put ⟨nm, (get nm (ins ⟨nm, [], 0⟩ L)).dat ++ s, (get nm (ins ⟨nm, [], 0⟩ L)).safe⟩ (ins ⟨nm, [], 0⟩ L) := by
    rw [hg, hg0]
    unfold put
    simp only
    have := del_ins5 ⟨nm, [], 0⟩ L
    simp only at this
    rw [this]
    rfl
  refine ⟨⟨hA.lt, hA.at_, by rw [e2]; exact hA.put, hA.ok, ?_⟩, hok⟩
  rw [hA.size, size_ins]
  simp
end Dk
section
variable {B r : Nat} {c : Rc} {D : Dk.St} {w w' : World}
theorem OpI.below {v : Value} {D' : Dk.St} {e : Ending} {w'' : World} (h : OpI B r c v D' w e w') (hb : Below w'.heap.size w' w'') : OpI B r c v D' w e w'' := by
  obtain ⟨h1, c1, h2, h3, h4⟩ := h
  exact ⟨h1, c1, h2.below hb, h3, h4.trans (wr_below hb)⟩
set_option maxRecDepth 100000 in
set_option maxHeartbeats 8000000 in
theorem rAppend5 (h : RfIn B r c D w) (hB : B ≤ w.heap.size) (nm s : List UInt8) (hln : nm.length ≤ 140737488351232) (hls : s.length ≤ 140737488351232) (hroom : D.room ≤ 1048576) (hn : ∀ p, D.set = some p → (p.1 : Int) ≤ 9223372036854775807) (hks : ∀ p, D.set = some p → Dk.KsOk p.2) :
    Calls Try.prog 55 #[.pointer (some ⟨r, 0, none⟩), .string (S nm), .string (S s)] w (OpI B r c (.int .i64 (Dk.append nm s D).1) (Dk.append nm s D).2 w) := by
  have CA := Lib.hid (rAt5 h nm)
  have CB := Lib.hid (rBad5 nm hln w)
  have HI := Lib.hid h
  have HN := Lib.hid hn
  have HK := Lib.hid hks
  have CZ := Lib.hid (show ∀ q, Calls Try.prog 65 #[.pointer (some ⟨r, 0, none⟩)] (w.drewN q) fun e w' => e = .returned (.int .i64 (Dk.size D.L)) ∧ ∃ j, w' = w.drewN j from fun q => (rSize5 (h.below (below_drewN (Below.refl _ _) q))).mono fun e w' h => ⟨h.1, q, h.2.symm⟩)
  obtain ⟨x0, x1, x2, x3, x4, x5, x6⟩ := h.s
  have hfew := h.few
  have hsm := h.small
  clear h hn hks x1 x3 x5 x6
  cases hu : D.up with
  | false =>
    have HQ := Lib.hid (show OpI B r c (.int .i64 (Dk.append nm s D).1) (Dk.append nm s D).2 w (.returned (.int .i64 51)) w from by
      rw [show Dk.append nm s D = (51, D) from by unfold Dk.append; rw [if_pos hu]]; exact OpI.same HI.out)
    rw [hu] at x2
    go_enter Try.func55, Try.ntmps55
    go_wp2_with fail
    go_ret
    exact HQ.out
  | true =>
  rw [hu] at x2
  cases hnb : Dk.named nm with
  | false =>
    have HQ := Lib.hid (show OpI B r c (.int .i64 (Dk.append nm s D).1) (Dk.append nm s D).2 w (.returned (.int .i64 2)) w from by
      rw [show Dk.append nm s D = (2, D) from by unfold Dk.append; rw [if_neg (by rw [hu]; decide), if_pos hnb]]; exact OpI.same HI.out)
    rw [hnb] at CB
    replace CB := Lib.hid (show Calls Try.prog 83 #[.string (S nm)] w fun e w' => e = .returned (.bool true) ∧ w = w' from CB.out)
    go_enter Try.func55, Try.ntmps55
    go_wp2_with fail
    with_reducible refine CB.out.mono ?_
    rintro e w2 ⟨rfl, rfl⟩
    go_wp2_with fail
    go_ret
    exact HQ.out
  | true =>
  rw [hnb] at CB
  replace CB := Lib.hid (show Calls Try.prog 83 #[.string (S nm)] w fun e w' => e = .returned (.bool false) ∧ w = w' from CB.out)
  have HFULL := Lib.hid (show (Dk.has nm D.L = false ∧ D.L.length = 1024) ∨ D.room < Dk.size D.L + s.length → OpI B r c (.int .i64 (Dk.append nm s D).1) (Dk.append nm s D).2 w (.returned (.int .i64 50)) w from fun hf => by
    rw [show Dk.append nm s D = (50, D) from by unfold Dk.append; rw [if_neg (by rw [hu]; decide), if_neg (by rw [hnb]; decide), if_pos hf]]; exact OpI.same HI.out)
  have HD := Lib.hid (show ¬ ((Dk.has nm D.L = false ∧ D.L.length = 1024) ∨ D.room < Dk.size D.L + s.length) → Dk.append nm s D = (Dk.chg { D with L := Dk.put ⟨nm, (Dk.get nm D.L).dat ++ s, (Dk.get nm D.L).safe⟩ D.L }, (Dk.struck { D with L := Dk.put ⟨nm, (Dk.get nm D.L).dat ++ s, (Dk.get nm D.L).safe⟩ D.L }).2) from fun hf => by
    unfold Dk.append; rw [if_neg (by rw [hu]; decide), if_neg (by rw [hnb]; decide), if_neg hf]; rfl)
  obtain ⟨tt, htt⟩ : ∃ x, x = Dk.size D.L + s.length := ⟨_, rfl⟩
  have e1 : IntKind.i64.wrap ((Dk.size D.L : Int) + (s.length : Int)) = (tt : Int) := by rw [IntWalk.i64_in _ (by omega)]; omega
  have HTT := Lib.hid htt
  clear htt
  go_enter Try.func55, Try.ntmps55
  go_wp2_with fail
  with_reducible refine CB.out.mono ?_
  rintro e w2 ⟨rfl, rfl⟩
  go_wp2_with fail
  with_reducible refine CA.out.mono ?_
  rintro e w2 ⟨⟨hh, rfl⟩ | ⟨k, hk, he, rfl⟩, rfl⟩
  · by_cases h24 : D.L.length = 1024
    · have HQ := Lib.hid (HFULL.out (.inl ⟨hh, h24⟩))
      have d4 : ((D.L.length : Int) == 1024) = true := by simp; omega
      have d4' : (D.L.length == 1024) = true := by simp [h24]
      go_wp2_with fail
      go_quiet (fail)
      replace HQ := Lib.hid (HQ.out.below (below_drewN (Below.refl _ _) nq))
      go_wp2_with fail
      go_ret
      exact HQ.out
    have d4 : ((D.L.length : Int) == 1024) = false := by simp; omega
    have d4' : (D.L.length == 1024) = false := by simp [h24]
    by_cases hrm : D.room < tt
    · have d5 : decide (D.room < tt) = true := decide_eq_true hrm
      have HQ := Lib.hid (HFULL.out (.inr (by have := HTT.out; omega)))
      go_wp2_with fail
      go_quiet ((go_at_call 65; exact CZ.out _))
      replace HQ := Lib.hid (HQ.out.below (below_drewN (Below.refl _ _) nq))
      go_wp2_with fail
      go_ret
      exact HQ.out
    · have d5 : decide (D.room < tt) = false := decide_eq_false hrm
      replace HD := Lib.hid (HD.out (by rintro (⟨-, h1⟩ | h1); exact h24 h1; (have := HTT.out; omega)))
      go_wp2_with fail
      go_quiet ((go_at_call 65; exact CZ.out _))
      obtain ⟨w1, hw1⟩ : ∃ x, x = w.drewN nq := ⟨_, rfl⟩
      have hb1 : Below w.heap.size w w1 := by rw [hw1]; exact below_drewN (Below.refl _ _) nq
      have HI1 := Lib.hid (HI.out.below hb1)
      have HS1 := Lib.hid ((St5.refl r c w).below hb1)
      rw [← hw1]
      clear hw1 hb1 x0 x2 x4
      have CLY := Lib.hid (show Calls Try.prog 84 #[.pointer (some ⟨r, 0, none⟩), .agg #[.string (S nm), .string ⟨#[]⟩, .int .i64 0]] w1 (OpI B r c (.tuple #[]) { D with L := Dk.ins ⟨nm, [], 0⟩ D.L } w1) from rLay5 HI1.out (Nat.le_trans hB HS1.out.2.size) ⟨nm, [], 0⟩ (by exact hh) hnb (Nat.le_refl _) (by have := hfew; omega) (by exact hsm))
      have HH := Lib.hid hh
      clear hh
      go_wp2_with fail
      with_reducible refine CLY.out.mono ?_
      rintro e w2 ⟨rfl, c2, hI2, hf2, hw2⟩
      have HI2 := Lib.hid hI2
      have HS2 := Lib.hid (HS1.out.trans ⟨hf2, hw2⟩)
      have CA2 := Lib.hid (rAt5 hI2 nm)
      clear hI2 hf2 hw2 CLY
      go_wp2_with fail
      with_reducible refine CA2.out.mono ?_
      rintro e w3 ⟨⟨hh2, rfl⟩ | ⟨k, hk, he, rfl⟩, rfl⟩
      · exfalso
        have h8 : Dk.has nm (Dk.ins ⟨nm, [], 0⟩ D.L) = true := Dk.has_iff.2 ⟨⟨nm, [], 0⟩, Dk.mem_ins.2 (.inl rfl), rfl⟩
        rw [show Dk.has nm (Dk.ins ⟨nm, [], 0⟩ D.L) = false from hh2] at h8
        cases h8
      have HA0 := Lib.hid (Dk.appAt_new (s := s) HI.out.ok hnb HH.out hk he).1
      obtain ⟨dt, hdt⟩ : ∃ x, x = ((Dk.ins ⟨nm, [], 0⟩ D.L)[k]'hk).dat := ⟨_, rfl⟩
      obtain ⟨sf, hsf⟩ : ∃ x, x = ((Dk.ins ⟨nm, [], 0⟩ D.L)[k]'hk).safe := ⟨_, rfl⟩
      have HA := Lib.hid (show Dk.AppAt nm s D.L (Dk.ins ⟨nm, [], 0⟩ D.L) k nm dt sf from by rw [hdt, hsf]; exact HA0.out)
      clear he hdt hsf HA0
      have x4 := HI2.out.box.cell 4
      have hlt2 : k < ((Dk.ins ⟨nm, [], 0⟩ D.L)).length := HA.out.lt
      have hat : ((Dk.ins ⟨nm, [], 0⟩ D.L))[k] = ⟨nm, dt, sf⟩ := by have := HA.out.at_; rw [show ((Dk.ins ⟨nm, [], 0⟩ D.L)).getD k Dk.fl0 = ((Dk.ins ⟨nm, [], 0⟩ D.L))[k] from by simp [List.getD, hlt2]] at this; exact this
      obtain ⟨g, hg, -, y1, -⟩ := row_file5 HI2.out.row rfl (by exact hlt2)
      have y1' : w2.cell? ⟨g, k * 3 + 1, none⟩ = some (.string (S dt)) := by rw [show S dt = S (((Dk.ins ⟨nm, [], 0⟩ D.L))[k]).dat from by rw [hat]]; exact y1
      obtain ⟨n1, hn1⟩ : ∃ x, x = ((Dk.ins ⟨nm, [], 0⟩ D.L)).length := ⟨_, rfl⟩
      have x4n : w2.cell? ⟨r, 4, none⟩ = some (.slice (some ⟨g, 0, none⟩) n1 c2.c) := by have : w2.cell? ⟨r, 4, none⟩ = some (.slice c2.a ((Dk.ins ⟨nm, [], 0⟩ D.L)).length c2.c) := HI2.out.box.cell 4; rw [hg, ← hn1] at this; exact this
      have HSH := Lib.hid (fun wx (hb : Below w2.heap.size w2 wx) => (show wx.cell? ⟨r, 4, none⟩ = some (.slice (some ⟨g, 0, none⟩) n1 c2.c) ∧ wx.cell? ⟨g, k * 3 + 1, none⟩ = some (.string (S dt)) from ⟨(hb.cell (p := ⟨r, 4, none⟩) (cell_lt5 x4n)).trans x4n, (hb.cell (p := ⟨g, k * 3 + 1, none⟩) (cell_lt5 y1')).trans y1'⟩))
      have hsz1 : Dk.size (((Dk.ins ⟨nm, [], 0⟩ D.L)).set k ⟨nm, dt ++ s, sf⟩) ≤ 1048576 := by rw [HA.out.size]; have := HTT.out; omega
      have HST := Lib.hid (fun wx (hb : Below w2.heap.size w2 wx) => (HI2.out.below hb).setFile (v := .int .i64 0) (by exact hlt2) hg 1 (by decide) (.string (S (dt ++ s))) ⟨nm, dt ++ s, sf⟩ (by show (fl3 ((Dk.ins ⟨nm, [], 0⟩ D.L))[k]).set 1 _ = _; rw [hat]; rfl) (by exact HA.out.ok) (by exact hsz1))
      have hi1 : (0 : Int) ≤ (k : Int) := by omega
      have hi2 : (k : Int) < (n1 : Int) := by omega
      have hdl : (dt ++ s).length ≤ 1048576 := Nat.le_trans (by have := Dk.mem_size HA.out.ok (List.mem_iff_getElem.2 ⟨k, by rw [List.length_set]; exact hlt2, by rw [List.getElem_set_self]⟩); exact this) hsz1
      have hdl2 : dt.length + s.length ≤ 1048576 := by rw [List.length_append] at hdl; exact hdl
      clear x4 y1 hat hn1 hg hlt2 hsz1 y1'
      go_upto_region 11 with fail
      have HB := Lib.hid (Below.refl w2.heap.size w2).drew
      refine wp_region_Z (S := fun V => V.cell? ⟨r, 4, none⟩ = some (.slice (some ⟨g, 0, none⟩) n1 c2.c) ∧ V.cell? ⟨g, k * 3 + 1, none⟩ = some (.string (S dt))) 17 (by kernel_rfl) ?_ (fun hHeld => ?_)
      · exact HSH.out _ HB.out
      obtain ⟨wd, hwd⟩ : ∃ x, x = World.drew w2 := ⟨_, rfl⟩
      rw [← hwd] at HB hHeld ⊢
      clear hwd x4n
      refine wpAnyZ_takeY (i := 0) (oi := { dst := some 48, op := Op.move (Operand.tmp 0), type := 28, pos := "ref.go:90", after := #[], guard := none }) (v := ?_) rfl (by kernel_rfl) (by kernel_rfl) (by kernel_rfl) (by rfl) (fun _ _ _ h => h) (Or.inl ⟨by rfl, ?_⟩) (by assumption) ?_
      rotate_left
      · (intro w; go_simp); (first | done | with_reducible rfl)
      try simp only [Act.put, List.setIfInBounds_toArray, List.set_cons_zero, List.set_cons_succ]
      refine wpAnyZ_takeY (i := 1) (oi := { dst := some 49, op := Op.nilCheck (Operand.tmp 48), type := 0, pos := "ref.go:90", after := #[{ on := 0, ground := Ground.data }], guard := none }) (v := ?_) rfl (by kernel_rfl) (by kernel_rfl) (by kernel_rfl) (by rfl) (fun _ _ _ h => h) (Or.inl ⟨by rfl, ?_⟩) (by assumption) ?_
      rotate_left
      · (intro w; go_simp); (first | done | with_reducible rfl)
      try simp only [Act.put, List.setIfInBounds_toArray, List.set_cons_zero, List.set_cons_succ]
      refine wpAnyZ_takeY (i := 2) (oi := { dst := some 50, op := Op.fieldAddr 91 (Operand.tmp 49) 4, type := 0, pos := "ref.go:90", after := #[{ on := 1, ground := Ground.data }], guard := none }) (v := ?_) rfl (by kernel_rfl) (by kernel_rfl) (by kernel_rfl) (by rfl) (fun _ _ _ h => h) (Or.inl ⟨by rfl, ?_⟩) (by assumption) ?_
      rotate_left
      · (intro w; go_simp); (first | done | with_reducible rfl)
      try simp only [Act.put, List.setIfInBounds_toArray, List.set_cons_zero, List.set_cons_succ]
      refine wpAnyZ_take (i := 3) (oi := { dst := some 51, op := Op.load 89 (Operand.tmp 50), type := 89, pos := "ref.go:90", after := #[{ on := 2, ground := Ground.data }], guard := none }) (v := ?_) [15, 16, 17] rfl (by kernel_rfl) (by kernel_rfl) (by kernel_rfl) (by kernel_rfl) (fun _ _ _ h => h) (Or.inl ⟨by rfl, ?_⟩) (by assumption) ?_
      rotate_left
      · (intro w hSw; (try dsimp only at hSw); go_simp); (first | done | with_reducible rfl)
      try simp only [Act.put, List.setIfInBounds_toArray, List.set_cons_zero, List.set_cons_succ]
      refine wpAnyZ_takeY (i := 4) (oi := { dst := some 52, op := Op.move (Operand.tmp 7), type := 3, pos := "ref.go:90", after := #[], guard := none }) (v := ?_) rfl (by kernel_rfl) (by kernel_rfl) (by kernel_rfl) (by rfl) (fun _ _ _ h => h) (Or.inl ⟨by rfl, ?_⟩) (by assumption) ?_
      rotate_left
      · (intro w; go_simp); (first | done | with_reducible rfl)
      try simp only [Act.put, List.setIfInBounds_toArray, List.set_cons_zero, List.set_cons_succ]
      refine wpAnyZ_takeY (i := 5) (oi := { dst := some 53, op := Op.move (Operand.tmp 0), type := 28, pos := "ref.go:90", after := #[], guard := none }) (v := ?_) rfl (by kernel_rfl) (by kernel_rfl) (by kernel_rfl) (by rfl) (fun _ _ _ h => h) (Or.inl ⟨by rfl, ?_⟩) (by assumption) ?_
      rotate_left
      · (intro w; go_simp); (first | done | with_reducible rfl)
      try simp only [Act.put, List.setIfInBounds_toArray, List.set_cons_zero, List.set_cons_succ]
      refine wpAnyZ_takeY (i := 6) (oi := { dst := some 54, op := Op.nilCheck (Operand.tmp 53), type := 0, pos := "ref.go:90", after := #[{ on := 5, ground := Ground.data }], guard := none }) (v := ?_) rfl (by kernel_rfl) (by kernel_rfl) (by kernel_rfl) (by rfl) (fun _ _ _ h => h) (Or.inl ⟨by rfl, ?_⟩) (by assumption) ?_
      rotate_left
      · (intro w; go_simp); (first | done | with_reducible rfl)
      try simp only [Act.put, List.setIfInBounds_toArray, List.set_cons_zero, List.set_cons_succ]
      refine wpAnyZ_takeY (i := 7) (oi := { dst := some 55, op := Op.fieldAddr 91 (Operand.tmp 54) 4, type := 0, pos := "ref.go:90", after := #[{ on := 6, ground := Ground.data }], guard := none }) (v := ?_) rfl (by kernel_rfl) (by kernel_rfl) (by kernel_rfl) (by rfl) (fun _ _ _ h => h) (Or.inl ⟨by rfl, ?_⟩) (by assumption) ?_
      rotate_left
      · (intro w; go_simp); (first | done | with_reducible rfl)
      try simp only [Act.put, List.setIfInBounds_toArray, List.set_cons_zero, List.set_cons_succ]
      refine wpAnyZ_take (i := 8) (oi := { dst := some 56, op := Op.load 89 (Operand.tmp 55), type := 89, pos := "ref.go:90", after := #[{ on := 7, ground := Ground.data }], guard := none }) (v := ?_) [10, 11, 12, 14, 15, 16, 17] rfl (by kernel_rfl) (by kernel_rfl) (by kernel_rfl) (by kernel_rfl) (fun _ _ _ h => h) (Or.inl ⟨by rfl, ?_⟩) (by assumption) ?_
      rotate_left
      · (intro w hSw; (try dsimp only at hSw); go_simp); (first | done | with_reducible rfl)
      try simp only [Act.put, List.setIfInBounds_toArray, List.set_cons_zero, List.set_cons_succ]
      refine wpAnyZ_takeY (i := 9) (oi := { dst := some 57, op := Op.move (Operand.tmp 7), type := 3, pos := "ref.go:90", after := #[], guard := none }) (v := ?_) rfl (by kernel_rfl) (by kernel_rfl) (by kernel_rfl) (by rfl) (fun _ _ _ h => h) (Or.inl ⟨by rfl, ?_⟩) (by assumption) ?_
      rotate_left
      · (intro w; go_simp); (first | done | with_reducible rfl)
      try simp only [Act.put, List.setIfInBounds_toArray, List.set_cons_zero, List.set_cons_succ]
      refine wpAnyZ_takeY (i := 10) (oi := { dst := some 58, op := Op.indexAddr 89 (Operand.tmp 56) (Operand.tmp 57), type := 0, pos := "ref.go:90", after := #[{ on := 8, ground := Ground.data }, { on := 9, ground := Ground.data }], guard := none }) (v := ?_) rfl (by kernel_rfl) (by kernel_rfl) (by kernel_rfl) (by rfl) (fun _ _ _ h => h) (Or.inl ⟨by rfl, ?_⟩) (by assumption) ?_
      rotate_left
      · (intro w; go_simp); (first | done | with_reducible rfl)
      try simp only [Act.put, List.setIfInBounds_toArray, List.set_cons_zero, List.set_cons_succ]
      refine wpAnyZ_takeY (i := 11) (oi := { dst := some 59, op := Op.fieldAddr 95 (Operand.tmp 58) 1, type := 0, pos := "ref.go:90", after := #[{ on := 10, ground := Ground.data }], guard := none }) (v := ?_) rfl (by kernel_rfl) (by kernel_rfl) (by kernel_rfl) (by rfl) (fun _ _ _ h => h) (Or.inl ⟨by rfl, ?_⟩) (by assumption) ?_
      rotate_left
      · (intro w; go_simp); (first | done | with_reducible rfl)
      try simp only [Act.put, List.setIfInBounds_toArray, List.set_cons_zero, List.set_cons_succ]
      refine wpAnyZ_take (i := 12) (oi := { dst := some 60, op := Op.load 9 (Operand.tmp 59), type := 9, pos := "ref.go:90", after := #[{ on := 11, ground := Ground.data }], guard := none }) (v := ?_) [14, 15, 16, 17] rfl (by kernel_rfl) (by kernel_rfl) (by kernel_rfl) (by kernel_rfl) (fun _ _ _ h => h) (Or.inl ⟨by rfl, ?_⟩) (by assumption) ?_
      rotate_left
      · (intro w hSw; (try dsimp only at hSw); go_simp); (first | done | with_reducible rfl)
      try simp only [Act.put, List.setIfInBounds_toArray, List.set_cons_zero, List.set_cons_succ]
      refine wpAnyZ_takeY (i := 13) (oi := { dst := some 61, op := Op.move (Operand.tmp 2), type := 9, pos := "ref.go:90", after := #[], guard := none }) (v := ?_) rfl (by kernel_rfl) (by kernel_rfl) (by kernel_rfl) (by rfl) (fun _ _ _ h => h) (Or.inl ⟨by rfl, ?_⟩) (by assumption) ?_
      rotate_left
      · (intro w; go_simp); (first | done | with_reducible rfl)
      try simp only [Act.put, List.setIfInBounds_toArray, List.set_cons_zero, List.set_cons_succ]
      refine wpAnyZ_takeY (i := 14) (oi := { dst := some 62, op := Op.binOp BinOp.add 9 (Operand.tmp 60) (Operand.tmp 61) 9, type := 9, pos := "ref.go:90", after := #[{ on := 12, ground := Ground.data }, { on := 13, ground := Ground.data }], guard := none }) (v := ?_) rfl (by kernel_rfl) (by kernel_rfl) (by kernel_rfl) (by rfl) (fun _ _ _ h => h) (Or.inl ⟨by rfl, ?_⟩) (by assumption) ?_
      rotate_left
      · (intro w; go_simp; rw [if_neg (by omega)])
      try simp only [Act.put, List.setIfInBounds_toArray, List.set_cons_zero, List.set_cons_succ]
      refine wpAnyZ_takeY (i := 15) (oi := { dst := some 63, op := Op.indexAddr 89 (Operand.tmp 51) (Operand.tmp 52), type := 0, pos := "ref.go:90", after := #[{ on := 3, ground := Ground.data }, { on := 4, ground := Ground.data }, { on := 0, ground := Ground.phase }, { on := 1, ground := Ground.phase }, { on := 2, ground := Ground.phase }, { on := 3, ground := Ground.phase }, { on := 4, ground := Ground.phase }, { on := 5, ground := Ground.phase }, { on := 6, ground := Ground.phase }, { on := 7, ground := Ground.phase }, { on := 8, ground := Ground.phase }, { on := 9, ground := Ground.phase }, { on := 10, ground := Ground.phase }, { on := 11, ground := Ground.phase }, { on := 12, ground := Ground.phase }, { on := 13, ground := Ground.phase }, { on := 14, ground := Ground.phase }], guard := none }) (v := ?_) rfl (by kernel_rfl) (by kernel_rfl) (by kernel_rfl) (by rfl) (fun _ _ _ h => h) (Or.inl ⟨by rfl, ?_⟩) (by assumption) ?_
      rotate_left
      · (intro w; go_simp); (first | done | with_reducible rfl)
      try simp only [Act.put, List.setIfInBounds_toArray, List.set_cons_zero, List.set_cons_succ]
      refine wpAnyZ_takeY (i := 16) (oi := { dst := some 64, op := Op.fieldAddr 95 (Operand.tmp 63) 1, type := 0, pos := "ref.go:90", after := #[{ on := 15, ground := Ground.data }, { on := 0, ground := Ground.phase }, { on := 1, ground := Ground.phase }, { on := 2, ground := Ground.phase }, { on := 3, ground := Ground.phase }, { on := 4, ground := Ground.phase }, { on := 5, ground := Ground.phase }, { on := 6, ground := Ground.phase }, { on := 7, ground := Ground.phase }, { on := 8, ground := Ground.phase }, { on := 9, ground := Ground.phase }, { on := 10, ground := Ground.phase }, { on := 11, ground := Ground.phase }, { on := 12, ground := Ground.phase }, { on := 13, ground := Ground.phase }, { on := 14, ground := Ground.phase }], guard := none }) (v := ?_) rfl (by kernel_rfl) (by kernel_rfl) (by kernel_rfl) (by rfl) (fun _ _ _ h => h) (Or.inl ⟨by rfl, ?_⟩) (by assumption) ?_
      rotate_left
      · (intro w; go_simp); (first | done | with_reducible rfl)
      try simp only [Act.put, List.setIfInBounds_toArray, List.set_cons_zero, List.set_cons_succ]
      refine wpAnyZ_ready (rs := [17]) (by kernel_rfl) (by simp) ?_
      refine AllReadyZ.last (o := { dst := none, op := Op.store 9 (Operand.tmp 64) (Operand.tmp 62), type := 0, pos := "ref.go:90", after := #[{ on := 16, ground := Ground.data }, { on := 14, ground := Ground.data }, { on := 0, ground := Ground.phase }, { on := 1, ground := Ground.phase }, { on := 2, ground := Ground.phase }, { on := 3, ground := Ground.phase }, { on := 4, ground := Ground.phase }, { on := 5, ground := Ground.phase }, { on := 6, ground := Ground.phase }, { on := 7, ground := Ground.phase }, { on := 8, ground := Ground.phase }, { on := 9, ground := Ground.phase }, { on := 10, ground := Ground.phase }, { on := 11, ground := Ground.phase }, { on := 12, ground := Ground.phase }, { on := 13, ground := Ground.phase }, { on := 14, ground := Ground.phase }], guard := none }) rfl (fun K hK => ?_) AllReadyZ.nil
      have f0 := (HST.out _ HB.out).2
      have m0 := (HSH.out _ HB.out).2
      go_simp
      refine hK.out _ _ ?_
      clear hK K
      refine wpAny_done (by kernel_rfl) ?_ _
      obtain ⟨_, c3, hI3, hf3, hw3⟩ := (HST.out _ HB.out).1
      obtain ⟨D2, hD2⟩ : ∃ x, x = ({ D with L := Dk.put ⟨nm, (Dk.get nm D.L).dat ++ s, (Dk.get nm D.L).safe⟩ D.L } : Dk.St) := ⟨_, rfl⟩
      have hI3' : RfIn B r c3 D2 (wd.setCell ⟨g, k * 3 + 1, none⟩ (.string (S (dt ++ s)))) := by rw [hD2, HA.out.put]; exact hI3
      have HS3 := Lib.hid ((HS2.out.below HB.out).trans ⟨hf3, hw3⟩)
      rw [← hD2] at HD
      have hsd : D2.set = D.set := by rw [hD2]
      have hud : D2.up = true := by rw [hD2]; exact hu
      have HI3 := Lib.hid hI3'
      clear hI3 hf3 hw3 hD2 hI3' f0 m0 hHeld HST HSH
      generalize wd.setCell ⟨g, k * 3 + 1, none⟩ (.string (S (dt ++ s))) = w3 at *
      have CLA := Lib.hid (rLast5 HI3.out (by rw [hsd]; exact HN.out))
      go_wp2_with fail
      with_reducible refine CLA.out.mono ?_
      rintro e w4 (⟨hs, rfl, rfl⟩ | ⟨n, ks, hs, rfl, ho⟩ | ⟨ks, hs, rfl, hck, hW, hwr⟩)
      · have HQ := Lib.hid (show OpI B r c (.int .i64 (Dk.append nm s D).1) (Dk.append nm s D).2 w (.returned (.int .i64 0)) w3 from by
          rw [HD.out]; unfold Dk.chg; rw [Dk.struck_no hs]; exact ⟨rfl, c3, HI3.out, HS3.out.1, HS3.out.2⟩)
        go_wp2_with fail
        go_ret
        exact HQ.out
      · have HQ := Lib.hid (show OpI B r c (.int .i64 (Dk.append nm s D).1) (Dk.append nm s D).2 w (.returned (.int .i64 0)) w4 from by
          rw [HD.out]
          have e1 : Dk.struck D2 = (false, { D2 with set := some (n, ks) }) := by unfold Dk.struck; rw [hs]
          unfold Dk.chg; rw [e1]
          obtain ⟨_, c5, p1, p2, p3⟩ := ho
          have hS := HS3.out.trans ⟨p2, p3⟩
          exact ⟨rfl, c5, p1, hS.1, hS.2⟩)
        clear ho
        go_wp2_with fail
        go_ret
        exact HQ.out
      · obtain ⟨hk1, hk2⟩ := hW.keepAt
        simp only at hk1 hk2
        rw [hck] at hk1 hk2
        have x6 : w4.cell? ⟨r, 6, none⟩ = some (.slice c3.ka c3.ks.length c3.kc) := hW.box.cell 6
        rw [hck] at x6
        have CC := Lib.hid (rCrashW5 hW hud ks c3.ka c3.kc (HK.out _ (by rw [← hsd]; exact hs)) hk1 hk2)
        have HQ := Lib.hid (show ∀ e w5, OpI B r { c3 with n := -1 } (.int .i64 0) (Dk.fall ks D2) w4 e w5 → OpI B r c (.int .i64 (Dk.append nm s D).1) (Dk.append nm s D).2 w (.returned (.int .i64 51)) w5 from fun e w5 ⟨_, c5, p1, p2, p3⟩ => by
          rw [HD.out]
          have e1 : Dk.struck D2 = (true, Dk.fall ks D2) := by unfold Dk.struck; rw [hs]
          unfold Dk.chg; rw [e1]
          have hS := HS3.out.trans (show St5 r c3 w3 c5 w5 from ⟨fun b hb => by
            rcases p2 b hb with h | h
            · exact .inl h
            · exact .inr (Nat.le_trans hwr.size h), hwr.step p3 (fun x hx => .inl hx)⟩)
          exact ⟨rfl, c5, p1, hS.1, hS.2⟩)
        clear hW hwr hk1 hk2
        go_wp2_with fail
        with_reducible refine CC.out.mono ?_
        rintro e w5 ho
        have HQ2 := Lib.hid (HQ.out _ _ ho)
        obtain ⟨rfl, -⟩ := ho
        go_wp2_with fail
        go_ret
        exact HQ2.out
  · have d3 : decide ((k : Int) < (0 : Int)) = false := decide_eq_false (by omega)
    by_cases hrm : D.room < tt
    · have d5 : decide (D.room < tt) = true := decide_eq_true hrm
      have HQ := Lib.hid (HFULL.out (.inr (by have := HTT.out; omega)))
      go_wp2_with fail
      go_quiet ((go_at_call 65; exact CZ.out _))
      replace HQ := Lib.hid (HQ.out.below (below_drewN (Below.refl _ _) nq))
      go_wp2_with fail
      go_ret
      exact HQ.out
    · have d5 : decide (D.room < tt) = false := decide_eq_false hrm
      replace HD := Lib.hid (HD.out (by rintro (⟨h1, -⟩ | h1); (rw [(get_at5 HI.out.ok hk he).2] at h1; cases h1); (have := HTT.out; omega)))
      have HA0 := Lib.hid (Dk.appAt_has (s := s) HI.out.ok hnb hk he)
      obtain ⟨dt, hdt⟩ : ∃ x, x = (D.L[k]).dat := ⟨_, rfl⟩
      obtain ⟨sf, hsf⟩ : ∃ x, x = (D.L[k]).safe := ⟨_, rfl⟩
      have HA := Lib.hid (show Dk.AppAt nm s D.L D.L k nm dt sf from by rw [hdt, hsf]; exact HA0.out)
      clear he hdt hsf HA0
      go_wp2_with fail
      go_quiet ((go_at_call 65; exact CZ.out _))
      obtain ⟨w2, hw2⟩ : ∃ x, x = w.drewN nq := ⟨_, rfl⟩
      have hb2 : Below w.heap.size w w2 := by rw [hw2]; exact below_drewN (Below.refl _ _) nq
      obtain ⟨c2, hc2⟩ : ∃ x, x = c := ⟨_, rfl⟩
      have HI2 := Lib.hid (show RfIn B r c2 { D with L := D.L } w2 from by rw [hc2]; exact HI.out.below hb2)
      have HS2 := Lib.hid (show St5 r c w c2 w2 from by rw [hc2]; exact (St5.refl r c w).below hb2)
      rw [← hw2]
      clear hw2 hb2 hc2 x0 x2
      have hlt2 : k < (D.L).length := HA.out.lt
      have hat : (D.L)[k] = ⟨nm, dt, sf⟩ := by have := HA.out.at_; rw [show (D.L).getD k Dk.fl0 = (D.L)[k] from by simp [List.getD, hlt2]] at this; exact this
      obtain ⟨g, hg, -, y1, -⟩ := row_file5 HI2.out.row rfl (by exact hlt2)
      have y1' : w2.cell? ⟨g, k * 3 + 1, none⟩ = some (.string (S dt)) := by rw [show S dt = S ((D.L)[k]).dat from by rw [hat]]; exact y1
      obtain ⟨n1, hn1⟩ : ∃ x, x = (D.L).length := ⟨_, rfl⟩
      have x4n : w2.cell? ⟨r, 4, none⟩ = some (.slice (some ⟨g, 0, none⟩) n1 c2.c) := by have : w2.cell? ⟨r, 4, none⟩ = some (.slice c2.a (D.L).length c2.c) := HI2.out.box.cell 4; rw [hg, ← hn1] at this; exact this
      have HSH := Lib.hid (fun wx (hb : Below w2.heap.size w2 wx) => (show wx.cell? ⟨r, 4, none⟩ = some (.slice (some ⟨g, 0, none⟩) n1 c2.c) ∧ wx.cell? ⟨g, k * 3 + 1, none⟩ = some (.string (S dt)) from ⟨(hb.cell (p := ⟨r, 4, none⟩) (cell_lt5 x4n)).trans x4n, (hb.cell (p := ⟨g, k * 3 + 1, none⟩) (cell_lt5 y1')).trans y1'⟩))
      have hsz1 : Dk.size ((D.L).set k ⟨nm, dt ++ s, sf⟩) ≤ 1048576 := by rw [HA.out.size]; have := HTT.out; omega
      have HST := Lib.hid (fun wx (hb : Below w2.heap.size w2 wx) => (HI2.out.below hb).setFile (v := .int .i64 0) (by exact hlt2) hg 1 (by decide) (.string (S (dt ++ s))) ⟨nm, dt ++ s, sf⟩ (by show (fl3 (D.L)[k]).set 1 _ = _; rw [hat]; rfl) (by exact HA.out.ok) (by exact hsz1))
      have hi1 : (0 : Int) ≤ (k : Int) := by omega
      have hi2 : (k : Int) < (n1 : Int) := by omega
      have hdl : (dt ++ s).length ≤ 1048576 := Nat.le_trans (by have := Dk.mem_size HA.out.ok (List.mem_iff_getElem.2 ⟨k, by rw [List.length_set]; exact hlt2, by rw [List.getElem_set_self]⟩); exact this) hsz1
      have hdl2 : dt.length + s.length ≤ 1048576 := by rw [List.length_append] at hdl; exact hdl
      clear x4 y1 hat hn1 hg hlt2 hsz1 y1'
      go_upto_region 11 with fail
      have HB := Lib.hid (Below.refl w2.heap.size w2).drew
      refine wp_region_Z (S := fun V => V.cell? ⟨r, 4, none⟩ = some (.slice (some ⟨g, 0, none⟩) n1 c2.c) ∧ V.cell? ⟨g, k * 3 + 1, none⟩ = some (.string (S dt))) 17 (by kernel_rfl) ?_ (fun hHeld => ?_)
      · exact HSH.out _ HB.out
      obtain ⟨wd, hwd⟩ : ∃ x, x = World.drew w2 := ⟨_, rfl⟩
      rw [← hwd] at HB hHeld ⊢
      clear hwd x4n
      refine wpAnyZ_takeY (i := 0) (oi := { dst := some 48, op := Op.move (Operand.tmp 0), type := 28, pos := "ref.go:90", after := #[], guard := none }) (v := ?_) rfl (by kernel_rfl) (by kernel_rfl) (by kernel_rfl) (by rfl) (fun _ _ _ h => h) (Or.inl ⟨by rfl, ?_⟩) (by assumption) ?_
      rotate_left
      · (intro w; go_simp); (first | done | with_reducible rfl)
      try simp only [Act.put, List.setIfInBounds_toArray, List.set_cons_zero, List.set_cons_succ]
      refine wpAnyZ_takeY (i := 1) (oi := { dst := some 49, op := Op.nilCheck (Operand.tmp 48), type := 0, pos := "ref.go:90", after := #[{ on := 0, ground := Ground.data }], guard := none }) (v := ?_) rfl (by kernel_rfl) (by kernel_rfl) (by kernel_rfl) (by rfl) (fun _ _ _ h => h) (Or.inl ⟨by rfl, ?_⟩) (by assumption) ?_
      rotate_left
      · (intro w; go_simp); (first | done | with_reducible rfl)
      try simp only [Act.put, List.setIfInBounds_toArray, List.set_cons_zero, List.set_cons_succ]
      refine wpAnyZ_takeY (i := 2) (oi := { dst := some 50, op := Op.fieldAddr 91 (Operand.tmp 49) 4, type := 0, pos := "ref.go:90", after := #[{ on := 1, ground := Ground.data }], guard := none }) (v := ?_) rfl (by kernel_rfl) (by kernel_rfl) (by kernel_rfl) (by rfl) (fun _ _ _ h => h) (Or.inl ⟨by rfl, ?_⟩) (by assumption) ?_
      rotate_left
      · (intro w; go_simp); (first | done | with_reducible rfl)
      try simp only [Act.put, List.setIfInBounds_toArray, List.set_cons_zero, List.set_cons_succ]
      refine wpAnyZ_take (i := 3) (oi := { dst := some 51, op := Op.load 89 (Operand.tmp 50), type := 89, pos := "ref.go:90", after := #[{ on := 2, ground := Ground.data }], guard := none }) (v := ?_) [15, 16, 17] rfl (by kernel_rfl) (by kernel_rfl) (by kernel_rfl) (by kernel_rfl) (fun _ _ _ h => h) (Or.inl ⟨by rfl, ?_⟩) (by assumption) ?_
      rotate_left
      · (intro w hSw; (try dsimp only at hSw); go_simp); (first | done | with_reducible rfl)
      try simp only [Act.put, List.setIfInBounds_toArray, List.set_cons_zero, List.set_cons_succ]
      refine wpAnyZ_takeY (i := 4) (oi := { dst := some 52, op := Op.move (Operand.tmp 7), type := 3, pos := "ref.go:90", after := #[], guard := none }) (v := ?_) rfl (by kernel_rfl) (by kernel_rfl) (by kernel_rfl) (by rfl) (fun _ _ _ h => h) (Or.inl ⟨by rfl, ?_⟩) (by assumption) ?_
      rotate_left
      · (intro w; go_simp); (first | done | with_reducible rfl)
      try simp only [Act.put, List.setIfInBounds_toArray, List.set_cons_zero, List.set_cons_succ]
      refine wpAnyZ_takeY (i := 5) (oi := { dst := some 53, op := Op.move (Operand.tmp 0), type := 28, pos := "ref.go:90", after := #[], guard := none }) (v := ?_) rfl (by kernel_rfl) (by kernel_rfl) (by kernel_rfl) (by rfl) (fun _ _ _ h => h) (Or.inl ⟨by rfl, ?_⟩) (by assumption) ?_
      rotate_left
      · (intro w; go_simp); (first | done | with_reducible rfl)
      try simp only [Act.put, List.setIfInBounds_toArray, List.set_cons_zero, List.set_cons_succ]
      refine wpAnyZ_takeY (i := 6) (oi := { dst := some 54, op := Op.nilCheck (Operand.tmp 53), type := 0, pos := "ref.go:90", after := #[{ on := 5, ground := Ground.data }], guard := none }) (v := ?_) rfl (by kernel_rfl) (by kernel_rfl) (by kernel_rfl) (by rfl) (fun _ _ _ h => h) (Or.inl ⟨by rfl, ?_⟩) (by assumption) ?_
      rotate_left
      · (intro w; go_simp); (first | done | with_reducible rfl)
      try simp only [Act.put, List.setIfInBounds_toArray, List.set_cons_zero, List.set_cons_succ]
      refine wpAnyZ_takeY (i := 7) (oi := { dst := some 55, op := Op.fieldAddr 91 (Operand.tmp 54) 4, type := 0, pos := "ref.go:90", after := #[{ on := 6, ground := Ground.data }], guard := none }) (v := ?_) rfl (by kernel_rfl) (by kernel_rfl) (by kernel_rfl) (by rfl) (fun _ _ _ h => h) (Or.inl ⟨by rfl, ?_⟩) (by assumption) ?_
      rotate_left
      · (intro w; go_simp); (first | done | with_reducible rfl)
      try simp only [Act.put, List.setIfInBounds_toArray, List.set_cons_zero, List.set_cons_succ]
      refine wpAnyZ_take (i := 8) (oi := { dst := some 56, op := Op.load 89 (Operand.tmp 55), type := 89, pos := "ref.go:90", after := #[{ on := 7, ground := Ground.data }], guard := none }) (v := ?_) [10, 11, 12, 14, 15, 16, 17] rfl (by kernel_rfl) (by kernel_rfl) (by kernel_rfl) (by kernel_rfl) (fun _ _ _ h => h) (Or.inl ⟨by rfl, ?_⟩) (by assumption) ?_
      rotate_left
      · (intro w hSw; (try dsimp only at hSw); go_simp); (first | done | with_reducible rfl)
      try simp only [Act.put, List.setIfInBounds_toArray, List.set_cons_zero, List.set_cons_succ]
      refine wpAnyZ_takeY (i := 9) (oi := { dst := some 57, op := Op.move (Operand.tmp 7), type := 3, pos := "ref.go:90", after := #[], guard := none }) (v := ?_) rfl (by kernel_rfl) (by kernel_rfl) (by kernel_rfl) (by rfl) (fun _ _ _ h => h) (Or.inl ⟨by rfl, ?_⟩) (by assumption) ?_
      rotate_left
      · (intro w; go_simp); (first | done | with_reducible rfl)
      try simp only [Act.put, List.setIfInBounds_toArray, List.set_cons_zero, List.set_cons_succ]
      refine wpAnyZ_takeY (i := 10) (oi := { dst := some 58, op := Op.indexAddr 89 (Operand.tmp 56) (Operand.tmp 57), type := 0, pos := "ref.go:90", after := #[{ on := 8, ground := Ground.data }, { on := 9, ground := Ground.data }], guard := none }) (v := ?_) rfl (by kernel_rfl) (by kernel_rfl) (by kernel_rfl) (by rfl) (fun _ _ _ h => h) (Or.inl ⟨by rfl, ?_⟩) (by assumption) ?_
      rotate_left
      · (intro w; go_simp); (first | done | with_reducible rfl)
      try simp only [Act.put, List.setIfInBounds_toArray, List.set_cons_zero, List.set_cons_succ]
      refine wpAnyZ_takeY (i := 11) (oi := { dst := some 59, op := Op.fieldAddr 95 (Operand.tmp 58) 1, type := 0, pos := "ref.go:90", after := #[{ on := 10, ground := Ground.data }], guard := none }) (v := ?_) rfl (by kernel_rfl) (by kernel_rfl) (by kernel_rfl) (by rfl) (fun _ _ _ h => h) (Or.inl ⟨by rfl, ?_⟩) (by assumption) ?_
      rotate_left
      · (intro w; go_simp); (first | done | with_reducible rfl)
      try simp only [Act.put, List.setIfInBounds_toArray, List.set_cons_zero, List.set_cons_succ]
      refine wpAnyZ_take (i := 12) (oi := { dst := some 60, op := Op.load 9 (Operand.tmp 59), type := 9, pos := "ref.go:90", after := #[{ on := 11, ground := Ground.data }], guard := none }) (v := ?_) [14, 15, 16, 17] rfl (by kernel_rfl) (by kernel_rfl) (by kernel_rfl) (by kernel_rfl) (fun _ _ _ h => h) (Or.inl ⟨by rfl, ?_⟩) (by assumption) ?_
      rotate_left
      · (intro w hSw; (try dsimp only at hSw); go_simp); (first | done | with_reducible rfl)
      try simp only [Act.put, List.setIfInBounds_toArray, List.set_cons_zero, List.set_cons_succ]
      refine wpAnyZ_takeY (i := 13) (oi := { dst := some 61, op := Op.move (Operand.tmp 2), type := 9, pos := "ref.go:90", after := #[], guard := none }) (v := ?_) rfl (by kernel_rfl) (by kernel_rfl) (by kernel_rfl) (by rfl) (fun _ _ _ h => h) (Or.inl ⟨by rfl, ?_⟩) (by assumption) ?_
      rotate_left
      · (intro w; go_simp); (first | done | with_reducible rfl)
      try simp only [Act.put, List.setIfInBounds_toArray, List.set_cons_zero, List.set_cons_succ]
      refine wpAnyZ_takeY (i := 14) (oi := { dst := some 62, op := Op.binOp BinOp.add 9 (Operand.tmp 60) (Operand.tmp 61) 9, type := 9, pos := "ref.go:90", after := #[{ on := 12, ground := Ground.data }, { on := 13, ground := Ground.data }], guard := none }) (v := ?_) rfl (by kernel_rfl) (by kernel_rfl) (by kernel_rfl) (by rfl) (fun _ _ _ h => h) (Or.inl ⟨by rfl, ?_⟩) (by assumption) ?_
      rotate_left
      · (intro w; go_simp; rw [if_neg (by omega)])
      try simp only [Act.put, List.setIfInBounds_toArray, List.set_cons_zero, List.set_cons_succ]
      refine wpAnyZ_takeY (i := 15) (oi := { dst := some 63, op := Op.indexAddr 89 (Operand.tmp 51) (Operand.tmp 52), type := 0, pos := "ref.go:90", after := #[{ on := 3, ground := Ground.data }, { on := 4, ground := Ground.data }, { on := 0, ground := Ground.phase }, { on := 1, ground := Ground.phase }, { on := 2, ground := Ground.phase }, { on := 3, ground := Ground.phase }, { on := 4, ground := Ground.phase }, { on := 5, ground := Ground.phase }, { on := 6, ground := Ground.phase }, { on := 7, ground := Ground.phase }, { on := 8, ground := Ground.phase }, { on := 9, ground := Ground.phase }, { on := 10, ground := Ground.phase }, { on := 11, ground := Ground.phase }, { on := 12, ground := Ground.phase }, { on := 13, ground := Ground.phase }, { on := 14, ground := Ground.phase }], guard := none }) (v := ?_) rfl (by kernel_rfl) (by kernel_rfl) (by kernel_rfl) (by rfl) (fun _ _ _ h => h) (Or.inl ⟨by rfl, ?_⟩) (by assumption) ?_
      rotate_left
      · (intro w; go_simp); (first | done | with_reducible rfl)
      try simp only [Act.put, List.setIfInBounds_toArray, List.set_cons_zero, List.set_cons_succ]
      refine wpAnyZ_takeY (i := 16) (oi := { dst := some 64, op := Op.fieldAddr 95 (Operand.tmp 63) 1, type := 0, pos := "ref.go:90", after := #[{ on := 15, ground := Ground.data }, { on := 0, ground := Ground.phase }, { on := 1, ground := Ground.phase }, { on := 2, ground := Ground.phase }, { on := 3, ground := Ground.phase }, { on := 4, ground := Ground.phase }, { on := 5, ground := Ground.phase }, { on := 6, ground := Ground.phase }, { on := 7, ground := Ground.phase }, { on := 8, ground := Ground.phase }, { on := 9, ground := Ground.phase }, { on := 10, ground := Ground.phase }, { on := 11, ground := Ground.phase }, { on := 12, ground := Ground.phase }, { on := 13, ground := Ground.phase }, { on := 14, ground := Ground.phase }], guard := none }) (v := ?_) rfl (by kernel_rfl) (by kernel_rfl) (by kernel_rfl) (by rfl) (fun _ _ _ h => h) (Or.inl ⟨by rfl, ?_⟩) (by assumption) ?_
      rotate_left
      · (intro w; go_simp); (first | done | with_reducible rfl)
      try simp only [Act.put, List.setIfInBounds_toArray, List.set_cons_zero, List.set_cons_succ]
      refine wpAnyZ_ready (rs := [17]) (by kernel_rfl) (by simp) ?_
      refine AllReadyZ.last (o := { dst := none, op := Op.store 9 (Operand.tmp 64) (Operand.tmp 62), type := 0, pos := "ref.go:90", after := #[{ on := 16, ground := Ground.data }, { on := 14, ground := Ground.data }, { on := 0, ground := Ground.phase }, { on := 1, ground := Ground.phase }, { on := 2, ground := Ground.phase }, { on := 3, ground := Ground.phase }, { on := 4, ground := Ground.phase }, { on := 5, ground := Ground.phase }, { on := 6, ground := Ground.phase }, { on := 7, ground := Ground.phase }, { on := 8, ground := Ground.phase }, { on := 9, ground := Ground.phase }, { on := 10, ground := Ground.phase }, { on := 11, ground := Ground.phase }, { on := 12, ground := Ground.phase }, { on := 13, ground := Ground.phase }, { on := 14, ground := Ground.phase }], guard := none }) rfl (fun K hK => ?_) AllReadyZ.nil
      have f0 := (HST.out _ HB.out).2
      have m0 := (HSH.out _ HB.out).2
      go_simp
      refine hK.out _ _ ?_
      clear hK K
      refine wpAny_done (by kernel_rfl) ?_ _
      obtain ⟨_, c3, hI3, hf3, hw3⟩ := (HST.out _ HB.out).1
      obtain ⟨D2, hD2⟩ : ∃ x, x = ({ D with L := Dk.put ⟨nm, (Dk.get nm D.L).dat ++ s, (Dk.get nm D.L).safe⟩ D.L } : Dk.St) := ⟨_, rfl⟩
      have hI3' : RfIn B r c3 D2 (wd.setCell ⟨g, k * 3 + 1, none⟩ (.string (S (dt ++ s)))) := by rw [hD2, HA.out.put]; exact hI3
      have HS3 := Lib.hid ((HS2.out.below HB.out).trans ⟨hf3, hw3⟩)
      rw [← hD2] at HD
      have hsd : D2.set = D.set := by rw [hD2]
      have hud : D2.up = true := by rw [hD2]; exact hu
      have HI3 := Lib.hid hI3'
      clear hI3 hf3 hw3 hD2 hI3' f0 m0 hHeld HST HSH
      generalize wd.setCell ⟨g, k * 3 + 1, none⟩ (.string (S (dt ++ s))) = w3 at *
      have CLA := Lib.hid (rLast5 HI3.out (by rw [hsd]; exact HN.out))
      go_wp2_with fail
      with_reducible refine CLA.out.mono ?_
      rintro e w4 (⟨hs, rfl, rfl⟩ | ⟨n, ks, hs, rfl, ho⟩ | ⟨ks, hs, rfl, hck, hW, hwr⟩)
      · have HQ := Lib.hid (show OpI B r c (.int .i64 (Dk.append nm s D).1) (Dk.append nm s D).2 w (.returned (.int .i64 0)) w3 from by
          rw [HD.out]; unfold Dk.chg; rw [Dk.struck_no hs]; exact ⟨rfl, c3, HI3.out, HS3.out.1, HS3.out.2⟩)
        go_wp2_with fail
        go_ret
        exact HQ.out
      · have HQ := Lib.hid (show OpI B r c (.int .i64 (Dk.append nm s D).1) (Dk.append nm s D).2 w (.returned (.int .i64 0)) w4 from by
          rw [HD.out]
          have e1 : Dk.struck D2 = (false, { D2 with set := some (n, ks) }) := by unfold Dk.struck; rw [hs]
          unfold Dk.chg; rw [e1]
          obtain ⟨_, c5, p1, p2, p3⟩ := ho
          have hS := HS3.out.trans ⟨p2, p3⟩
          exact ⟨rfl, c5, p1, hS.1, hS.2⟩)
        clear ho
        go_wp2_with fail
        go_ret
        exact HQ.out
      · obtain ⟨hk1, hk2⟩ := hW.keepAt
        simp only at hk1 hk2
        rw [hck] at hk1 hk2
        have x6 : w4.cell? ⟨r, 6, none⟩ = some (.slice c3.ka c3.ks.length c3.kc) := hW.box.cell 6
        rw [hck] at x6
        have CC := Lib.hid (rCrashW5 hW hud ks c3.ka c3.kc (HK.out _ (by rw [← hsd]; exact hs)) hk1 hk2)
        have HQ := Lib.hid (show ∀ e w5, OpI B r { c3 with n := -1 } (.int .i64 0) (Dk.fall ks D2) w4 e w5 → OpI B r c (.int .i64 (Dk.append nm s D).1) (Dk.append nm s D).2 w (.returned (.int .i64 51)) w5 from fun e w5 ⟨_, c5, p1, p2, p3⟩ => by
          rw [HD.out]
          have e1 : Dk.struck D2 = (true, Dk.fall ks D2) := by unfold Dk.struck; rw [hs]
          unfold Dk.chg; rw [e1]
          have hS := HS3.out.trans (show St5 r c3 w3 c5 w5 from ⟨fun b hb => by
            rcases p2 b hb with h | h
            · exact .inl h
            · exact .inr (Nat.le_trans hwr.size h), hwr.step p3 (fun x hx => .inl hx)⟩)
          exact ⟨rfl, c5, p1, hS.1, hS.2⟩)
        clear hW hwr hk1 hk2
        go_wp2_with fail
        with_reducible refine CC.out.mono ?_
        rintro e w5 ho
        have HQ2 := Lib.hid (HQ.out _ _ ho)
        obtain ⟨rfl, -⟩ := ho
        go_wp2_with fail
        go_ret
        exact HQ2.out
end

end Go.Proofs.Ytekmnpmeienhhaa
