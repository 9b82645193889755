/- Layer 5: the document's disk: changes, Sync, Remove. -/
import Derived.Test.YtekmnpmeienhhaaDkrG
import Derived.Test.YtekmnpmeienhhaaDkrD
namespace Go.Proofs.Ytekmnpmeienhhaa
set_option linter.unusedVariables false
open Go Go.RowKit Go.Maps

def Dk.chg (D : Dk.St) : Int := if (Dk.struck D).1 then 51 else 0
/-- Rows of numbers, and of files, lie in blocks of their own. -/
theorem rows_apart5 {w : World} {B B' n cap m cap' : Nat} {ao bo : Option Addr} {xs ys : List Value} (h : w.ownsRow B 95 3 (.slice ao n cap) n xs) (k : w.ownsRow B' 3 1 (.slice bo m cap') m ys) :
    ∀ x y, ao = some x → bo = some y → y.block ≠ x.block := fun x y hx hy e => by
  subst hx hy
  rcases h.2 with ⟨e', _⟩ | ⟨g', cp, cur, e', hB, hgg, _⟩
  · cases e'
  · injection e' with e1 _ _
    injection e1 with e1
    have hbk : Bk cur 95 w x.block := by rw [e1]; exact hgg
    exact bk_row hbk k (by decide) y.block rfl e
section
variable {B r : Nat} {c : Rc} {D : Dk.St} {w w' : World}
theorem RfW.keepAt {sb : Bool} (h : RfW B r c sb D w) : NsA5 w c.ka c.ks ∧ ∀ x, c.ks ≠ [] → c.ka = some x → x.block ≠ r ∧ ∀ y, c.a = some y → x.block ≠ y.block :=
  ⟨(nsK_row h.krow).1, fun x _ hx => ⟨fun e => bk_row h.box h.krow (by decide) x.block (by rw [hx]; rfl) e, fun y hy => rows_apart5 h.row h.krow y x hy hx⟩⟩
set_option maxRecDepth 100000 in
theorem rChanges5 (h : RfIn B r c D w) (hu : D.up = true) (hn : ∀ p, D.set = some p → (p.1 : Int) ≤ 9223372036854775807) (hks : ∀ p, D.set = some p → Dk.KsOk p.2) :
    Calls Try.prog 89 #[.pointer (some ⟨r, 0, none⟩)] w (OpI B r c (.int .i64 (Dk.chg D)) (Dk.struck D).2 w) := by
  have CL := Lib.hid (rLast5 h hn)
  have HI := Lib.hid h
  have HK := Lib.hid hks
  clear h hn hks
  go_enter Try.func89, Try.ntmps89
  go_wp2_with fail
  with_reducible refine CL.out.mono ?_
  rintro e w1 (⟨hs, rfl, rfl⟩ | ⟨n, ks, hs, rfl, ho⟩ | ⟨ks, hs, rfl, hck, hW, hwr⟩)
  · have HQ := Lib.hid (show OpI B r c (.int .i64 (Dk.chg D)) (Dk.struck D).2 w (.returned (.int .i64 0)) w from by unfold Dk.chg; rw [Dk.struck_no hs]; exact OpI.same HI.out)
    go_wp2_with fail
    go_ret
    exact HQ.out
  · have HQ := Lib.hid (show OpI B r c (.int .i64 (Dk.chg D)) (Dk.struck D).2 w (.returned (.int .i64 0)) w1 from by
      have e1 : Dk.struck D = (false, { D with set := some (n, ks) }) := by unfold Dk.struck; rw [hs]
      unfold Dk.chg; rw [e1]; exact ⟨rfl, ho.2⟩)
    clear ho
    go_wp2_with fail
    go_ret
    exact HQ.out
  · obtain ⟨hk1, hk2⟩ := hW.keepAt
    simp only at hk1 hk2
    rw [hck] at hk1 hk2
    have x6 : w1.cell? ⟨r, 6, none⟩ = some (.slice c.ka c.ks.length c.kc) := hW.box.cell 6
    rw [hck] at x6
    have CC := Lib.hid (rCrashW5 hW hu ks c.ka c.kc (HK.out _ hs) hk1 hk2)
    have HQ := Lib.hid (show ∀ e w2, OpI B r { c with n := -1 } (.int .i64 0) (Dk.fall ks D) w1 e w2 → OpI B r c (.int .i64 (Dk.chg D)) (Dk.struck D).2 w (.returned (.int .i64 51)) w2 from fun e w2 ⟨_, c2, q1, q2, q3⟩ => by
      have e1 : Dk.struck D = (true, Dk.fall ks D) := by unfold Dk.struck; rw [hs]
      unfold Dk.chg; rw [e1]
      refine ⟨rfl, c2, q1, fun b hb => ?_, hwr.step q3 (fun x hx => .inl hx)⟩
      rcases q2 b hb with h | h
      · exact .inl h
      · exact .inr (Nat.le_trans hwr.size h))
    clear hW hwr hk1 hk2
    go_wp2_with fail
    with_reducible refine CC.out.mono ?_
    rintro e w2 ho
    have HQ2 := Lib.hid (HQ.out _ _ ho)
    obtain ⟨rfl, -⟩ := ho
    go_wp2_with fail
    go_ret
    exact HQ2.out
/-- A part of a file is written. -/
theorem RfIn.setFile (h : RfIn B r c D w) {k : Nat} (hk : k < D.L.length) {g : Nat} (hg : c.a = some ⟨g, 0, none⟩) (j : Nat) (hj : j < 3) (u : Value) (f' : Dk.Fl) (hf : (fl3 D.L[k]).set j u = fl3 f') (v : Value) (hok : Dk.OkL (D.L.set k f')) (hz : Dk.size (D.L.set k f') ≤ 1048576) :
    OpI B r c v { D with L := D.L.set k f' } w (.returned v) (w.setCell ⟨g, k * 3 + j, none⟩ u) ∧ w.frozen? ⟨g, k * 3 + j, none⟩ = false := by
  have hr := h.row
  rw [hg] at hr
  obtain ⟨s1, s2⟩ := row_storeN5 hr (k * 3 + j) u
  rw [flsV_set D.L k hk j hj u f' hf] at s1
  have hw := wr_set (A := fun x => x = g) w ⟨g, k * 3 + j, none⟩ u rfl
  have hgr : r ≠ g := fun e => bk_row h.box hr (by decide) g rfl e.symm
  refine ⟨⟨rfl, c, ⟨?_, ?_, row_wr h.krow hw (fun q hq e => ?_), h.set, hok, by show (D.L.set k f').length ≤ _; rw [List.length_set]; exact h.few, hz⟩, fun b hb => .inl hb, hw.mono (fun x hx => .inl (.inr (.inl ⟨_, hg, hx⟩)))⟩, s2⟩
  · have e9 : rfC c { D with L := D.L.set k f' } = rfC c D := by unfold rfC; simp only [List.length_set]
    rw [e9]; exact h.box.other hgr _ _
  · show (w.setCell _ _).ownsRow B _ 3 (.slice c.a (D.L.set k f').length c.c) (D.L.set k f').length (flsV (D.L.set k f'))
    rw [List.length_set, hg]; exact s1
  · cases hka : c.ka with
    | none => rw [hka] at hq; cases hq
    | some x =>
      rw [hka] at hq
      simp only [Value.ownBlock, Option.some.injEq] at hq
      exact rows_apart5 h.row h.krow _ x hg hka (by rw [hq]; exact e)
theorem struck_L5 {D : Dk.St} (h : (Dk.struck D).1 = false) : (Dk.struck D).2.L = D.L := by
  rcases Dk.struck_cases D with ⟨_, e⟩ | ⟨_, _, e⟩ | ⟨_, _, _, e⟩
  · rw [e]
  · rw [e] at h; cases h
  · rw [e]
set_option maxRecDepth 100000 in
set_option maxHeartbeats 4000000 in
theorem rSync5 (h : RfIn B r c D w) (nm : List UInt8) (hn : ∀ p, D.set = some p → (p.1 : Int) ≤ 9223372036854775807) (hks : ∀ p, D.set = some p → Dk.KsOk p.2) :
    Calls Try.prog 58 #[.pointer (some ⟨r, 0, none⟩), .string (S nm)] w (OpI B r c (.int .i64 (Dk.sync nm D).1) (Dk.sync nm D).2 w) := by
  have CA := Lib.hid (rAsks5 h nm)
  have CC := Lib.hid (fun hu => rChanges5 h hu hn hks)
  have HI := Lib.hid h
  have hfew := h.few
  clear h hn hks
  go_enter Try.func58, Try.ntmps58
  go_wp2_with fail
  with_reducible refine CA.out.mono ?_
  rintro e w1 ⟨⟨hu, rfl⟩ | ⟨hu, hh, rfl⟩ | ⟨k, hk, hu, he, rfl⟩, rfl⟩
  · have HQ := Lib.hid (show OpI B r c (.int .i64 (Dk.sync nm D).1) (Dk.sync nm D).2 w (.returned (.int .i64 51)) w from by
      rw [show Dk.sync nm D = (51, D) from by unfold Dk.sync; rw [if_pos hu]]; exact OpI.same HI.out)
    go_wp2_with fail
    go_ret
    exact HQ.out
  · have HQ := Lib.hid (show OpI B r c (.int .i64 (Dk.sync nm D).1) (Dk.sync nm D).2 w (.returned (.int .i64 4)) w from by
      rw [show Dk.sync nm D = (4, D) from by unfold Dk.sync; rw [if_neg (by rw [hu]; decide), if_pos hh]]; exact OpI.same HI.out)
    go_wp2_with fail
    go_ret
    exact HQ.out
  · obtain ⟨q1, q2⟩ := get_at5 HI.out.ok hk he
    have HD := Lib.hid (show Dk.sync nm D = if (Dk.struck D).1 = true then (51, (Dk.struck D).2) else (0, { (Dk.struck D).2 with L := Dk.put ⟨nm, (D.L[k]).dat, (D.L[k]).dat.length⟩ D.L }) from by
      unfold Dk.sync; rw [if_neg (by rw [hu]; decide), if_neg (by rw [q2]; decide), q1])
    replace CC := Lib.hid (CC.out hu)
    have HHE := Lib.hid he
    clear he q1 q2
    go_wp2_with fail
    with_reducible refine CC.out.mono ?_
    rintro e w2 ho
    have HO := Lib.hid ho
    obtain ⟨rfl, c2, hI2, hF2, hW2⟩ := ho
    cases hst : (Dk.struck D).1 with
    | true =>
      have hch : Dk.chg D = 51 := by unfold Dk.chg; rw [hst]; rfl
      rw [hch]
      have HQ := Lib.hid (show OpI B r c (.int .i64 (Dk.sync nm D).1) (Dk.sync nm D).2 w (.returned (.int .i64 51)) w2 from by
        rw [HD.out, if_pos hst]; have := HO.out; exact ⟨rfl, this.2⟩)
      clear hI2 hF2 hW2
      go_wp2_with fail
      go_ret
      exact HQ.out
    | false =>
      have hch : Dk.chg D = 0 := by unfold Dk.chg; rw [hst]; rfl
      rw [hch]
      have hL := struck_L5 hst
      obtain ⟨D1, hD1⟩ : ∃ x, x = (Dk.struck D).2 := ⟨_, rfl⟩
      rw [← hD1] at hI2 hL
      have hk1 : k < D1.L.length := by rw [hL]; exact hk
      have hget : D1.L[k] = D.L[k] := by simp only [hL]
      obtain ⟨g, hg, -, y1, y2⟩ := row_file5 hI2.row rfl hk1
      rw [hget] at y1 y2
      have x4 : w2.cell? ⟨r, 4, none⟩ = some (.slice c2.a D1.L.length c2.c) := hI2.box.cell 4
      rw [hg] at x4
      have hput : Dk.put ⟨nm, (D.L[k]).dat, (D.L[k]).dat.length⟩ D.L = D.L.set k ⟨nm, (D.L[k]).dat, (D.L[k]).dat.length⟩ := Dk.put_at HI.out.ok.up hk (by exact HHE.out.symm)
      have HFIN := Lib.hid (fun wx (hb : Below w2.heap.size w2 wx) => (show OpI B r c (.int .i64 (Dk.sync nm D).1) (Dk.sync nm D).2 w (.returned (.int .i64 0)) (wx.setCell ⟨g, k * 3 + 2, none⟩ (.int .i64 ((D.L[k]).dat.length : Int))) ∧ wx.frozen? ⟨g, k * 3 + 2, none⟩ = false from by
        have hIx := hI2.below hb
        have hnmd := HI.out.ok.named _ (List.getElem_mem hk)
        rw [HHE.out] at hnmd
        have hs := hIx.setFile hk1 hg 2 (by decide) (.int .i64 ((D.L[k]).dat.length : Int)) ⟨nm, (D.L[k]).dat, (D.L[k]).dat.length⟩ (by rw [hget]; simp [fl3, HHE.out]) (.int .i64 0) (by rw [hL, ← hput]; exact HI.out.ok.put (by exact hnmd) (Nat.le_refl _)) (by
          rw [hL, ← hput]
          have h1 := Dk.size_put HI.out.ok ⟨nm, (D.L[k]).dat, (D.L[k]).dat.length⟩
          simp only at h1
          rw [(get_at5 HI.out.ok hk HHE.out).1] at h1
          have := HI.out.small
          omega)
        refine ⟨?_, hs.2⟩
        obtain ⟨_, c3, p1, p2, p3⟩ := hs.1
        rw [HD.out, if_neg (by rw [hst]; decide), hput, ← hD1]
        rw [hL] at p1
        refine ⟨rfl, c3, p1, fun b hb' => ?_, (hW2.trans (wr_below hb)).step p3 (fun x hx => hF2 x hx)⟩
        rcases p2 b hb' with h | h
        · exact hF2 b h
        · exact .inr (Nat.le_trans hW2.size (Nat.le_trans hb.size h))))
      have HSH := Lib.hid (fun wx (hb : Below w2.heap.size w2 wx) => (show wx.cell? ⟨r, 4, none⟩ = some (.slice (some ⟨g, 0, none⟩) D1.L.length c2.c) ∧ wx.cell? ⟨g, k * 3 + 1, none⟩ = some (.string (S (D.L[k]).dat)) ∧ wx.cell? ⟨g, k * 3 + 2, none⟩ = some (.int .i64 (D.L[k]).safe) from ⟨(hb.cell (p := ⟨r, 4, none⟩) (cell_lt5 x4)).trans x4, (hb.cell (p := ⟨g, k * 3 + 1, none⟩) (cell_lt5 y1)).trans y1, (hb.cell (p := ⟨g, k * 3 + 2, none⟩) (cell_lt5 y2)).trans y2⟩))
      have hdl := Nat.le_trans (Dk.mem_size HI.out.ok (List.getElem_mem hk)) HI.out.small
      have hi1 : (0 : Int) ≤ (k : Int) := by omega
      have hi2 : (k : Int) < (D1.L.length : Int) := by omega
      clear hI2 hF2 hW2 hL hget hput hg x4 y1 y2 HD hD1 hch
      generalize D.L[k] = fl at *
      obtain ⟨fnm, dt, sf⟩ := fl
      simp only at HFIN HSH hdl
      go_upto_region 5 with fail
      have HB := Lib.hid (Below.refl w2.heap.size w2).drew
      refine wp_region_Z (S := fun V => V.cell? ⟨r, 4, none⟩ = some (.slice (some ⟨g, 0, none⟩) D1.L.length c2.c) ∧ V.cell? ⟨g, k * 3 + 1, none⟩ = some (.string (S dt))) 16 (by kernel_rfl) ?_ (fun hHeld => ?_)
      · exact ⟨(HSH.out _ HB.out).1, (HSH.out _ HB.out).2.1⟩
      obtain ⟨wd, hwd⟩ : ∃ x, x = World.drew w2 := ⟨_, rfl⟩
      rw [← hwd] at HB hHeld ⊢
      clear hwd
      refine wpAnyZ_takeY (i := 0) (oi := { dst := some 19, op := Op.move (Operand.tmp 0), type := 28, pos := "ref.go:126", after := #[], guard := none }) (v := ?_) rfl (by kernel_rfl) (by kernel_rfl) (by kernel_rfl) (by rfl) (fun _ _ _ h => h) (Or.inl ⟨by rfl, ?_⟩) (by assumption) ?_
      rotate_left
      · (intro w; go_simp); (first | done | with_reducible rfl)
      try simp only [Act.put, List.setIfInBounds_toArray, List.set_cons_zero, List.set_cons_succ]
      refine wpAnyZ_takeY (i := 1) (oi := { dst := some 20, op := Op.nilCheck (Operand.tmp 19), type := 0, pos := "ref.go:126", after := #[{ on := 0, ground := Ground.data }], guard := none }) (v := ?_) rfl (by kernel_rfl) (by kernel_rfl) (by kernel_rfl) (by rfl) (fun _ _ _ h => h) (Or.inl ⟨by rfl, ?_⟩) (by assumption) ?_
      rotate_left
      · (intro w; go_simp); (first | done | with_reducible rfl)
      try simp only [Act.put, List.setIfInBounds_toArray, List.set_cons_zero, List.set_cons_succ]
      refine wpAnyZ_takeY (i := 2) (oi := { dst := some 21, op := Op.fieldAddr 91 (Operand.tmp 20) 4, type := 0, pos := "ref.go:126", after := #[{ on := 1, ground := Ground.data }], guard := none }) (v := ?_) rfl (by kernel_rfl) (by kernel_rfl) (by kernel_rfl) (by rfl) (fun _ _ _ h => h) (Or.inl ⟨by rfl, ?_⟩) (by assumption) ?_
      rotate_left
      · (intro w; go_simp); (first | done | with_reducible rfl)
      try simp only [Act.put, List.setIfInBounds_toArray, List.set_cons_zero, List.set_cons_succ]
      refine wpAnyZ_take (i := 3) (oi := { dst := some 22, op := Op.load 89 (Operand.tmp 21), type := 89, pos := "ref.go:126", after := #[{ on := 2, ground := Ground.data }], guard := none }) (v := ?_) [14, 15, 16] rfl (by kernel_rfl) (by kernel_rfl) (by kernel_rfl) (by kernel_rfl) (fun _ _ _ h => h) (Or.inl ⟨by rfl, ?_⟩) (by assumption) ?_
      rotate_left
      · (intro w hSw; (try dsimp only at hSw); go_simp); (first | done | with_reducible rfl)
      try simp only [Act.put, List.setIfInBounds_toArray, List.set_cons_zero, List.set_cons_succ]
      refine wpAnyZ_takeY (i := 4) (oi := { dst := some 23, op := Op.move (Operand.tmp 5), type := 3, pos := "ref.go:126", after := #[], guard := none }) (v := ?_) rfl (by kernel_rfl) (by kernel_rfl) (by kernel_rfl) (by rfl) (fun _ _ _ h => h) (Or.inl ⟨by rfl, ?_⟩) (by assumption) ?_
      rotate_left
      · (intro w; go_simp); (first | done | with_reducible rfl)
      try simp only [Act.put, List.setIfInBounds_toArray, List.set_cons_zero, List.set_cons_succ]
      refine wpAnyZ_takeY (i := 5) (oi := { dst := some 24, op := Op.move (Operand.tmp 0), type := 28, pos := "ref.go:126", after := #[], guard := none }) (v := ?_) rfl (by kernel_rfl) (by kernel_rfl) (by kernel_rfl) (by rfl) (fun _ _ _ h => h) (Or.inl ⟨by rfl, ?_⟩) (by assumption) ?_
      rotate_left
      · (intro w; go_simp); (first | done | with_reducible rfl)
      try simp only [Act.put, List.setIfInBounds_toArray, List.set_cons_zero, List.set_cons_succ]
      refine wpAnyZ_takeY (i := 6) (oi := { dst := some 25, op := Op.nilCheck (Operand.tmp 24), type := 0, pos := "ref.go:126", after := #[{ on := 5, ground := Ground.data }], guard := none }) (v := ?_) rfl (by kernel_rfl) (by kernel_rfl) (by kernel_rfl) (by rfl) (fun _ _ _ h => h) (Or.inl ⟨by rfl, ?_⟩) (by assumption) ?_
      rotate_left
      · (intro w; go_simp); (first | done | with_reducible rfl)
      try simp only [Act.put, List.setIfInBounds_toArray, List.set_cons_zero, List.set_cons_succ]
      refine wpAnyZ_takeY (i := 7) (oi := { dst := some 26, op := Op.fieldAddr 91 (Operand.tmp 25) 4, type := 0, pos := "ref.go:126", after := #[{ on := 6, ground := Ground.data }], guard := none }) (v := ?_) rfl (by kernel_rfl) (by kernel_rfl) (by kernel_rfl) (by rfl) (fun _ _ _ h => h) (Or.inl ⟨by rfl, ?_⟩) (by assumption) ?_
      rotate_left
      · (intro w; go_simp); (first | done | with_reducible rfl)
      try simp only [Act.put, List.setIfInBounds_toArray, List.set_cons_zero, List.set_cons_succ]
      refine wpAnyZ_take (i := 8) (oi := { dst := some 27, op := Op.load 89 (Operand.tmp 26), type := 89, pos := "ref.go:126", after := #[{ on := 7, ground := Ground.data }], guard := none }) (v := ?_) [10, 11, 12, 13, 14, 15, 16] rfl (by kernel_rfl) (by kernel_rfl) (by kernel_rfl) (by kernel_rfl) (fun _ _ _ h => h) (Or.inl ⟨by rfl, ?_⟩) (by assumption) ?_
      rotate_left
      · (intro w hSw; (try dsimp only at hSw); go_simp); (first | done | with_reducible rfl)
      try simp only [Act.put, List.setIfInBounds_toArray, List.set_cons_zero, List.set_cons_succ]
      refine wpAnyZ_takeY (i := 9) (oi := { dst := some 28, op := Op.move (Operand.tmp 5), type := 3, pos := "ref.go:126", after := #[], guard := none }) (v := ?_) rfl (by kernel_rfl) (by kernel_rfl) (by kernel_rfl) (by rfl) (fun _ _ _ h => h) (Or.inl ⟨by rfl, ?_⟩) (by assumption) ?_
      rotate_left
      · (intro w; go_simp); (first | done | with_reducible rfl)
      try simp only [Act.put, List.setIfInBounds_toArray, List.set_cons_zero, List.set_cons_succ]
      refine wpAnyZ_takeY (i := 10) (oi := { dst := some 29, op := Op.indexAddr 89 (Operand.tmp 27) (Operand.tmp 28), type := 0, pos := "ref.go:126", after := #[{ on := 8, ground := Ground.data }, { on := 9, ground := Ground.data }], guard := none }) (v := ?_) rfl (by kernel_rfl) (by kernel_rfl) (by kernel_rfl) (by rfl) (fun _ _ _ h => h) (Or.inl ⟨by rfl, ?_⟩) (by assumption) ?_
      rotate_left
      · (intro w; go_simp); (first | done | with_reducible rfl)
      try simp only [Act.put, List.setIfInBounds_toArray, List.set_cons_zero, List.set_cons_succ]
      refine wpAnyZ_takeY (i := 11) (oi := { dst := some 30, op := Op.fieldAddr 95 (Operand.tmp 29) 1, type := 0, pos := "ref.go:126", after := #[{ on := 10, ground := Ground.data }], guard := none }) (v := ?_) rfl (by kernel_rfl) (by kernel_rfl) (by kernel_rfl) (by rfl) (fun _ _ _ h => h) (Or.inl ⟨by rfl, ?_⟩) (by assumption) ?_
      rotate_left
      · (intro w; go_simp); (first | done | with_reducible rfl)
      try simp only [Act.put, List.setIfInBounds_toArray, List.set_cons_zero, List.set_cons_succ]
      refine wpAnyZ_take (i := 12) (oi := { dst := some 31, op := Op.load 9 (Operand.tmp 30), type := 9, pos := "ref.go:126", after := #[{ on := 11, ground := Ground.data }], guard := none }) (v := ?_) [13, 14, 15, 16] rfl (by kernel_rfl) (by kernel_rfl) (by kernel_rfl) (by kernel_rfl) (fun _ _ _ h => h) (Or.inl ⟨by rfl, ?_⟩) (by assumption) ?_
      rotate_left
      · (intro w hSw; (try dsimp only at hSw); go_simp); (first | done | with_reducible rfl)
      try simp only [Act.put, List.setIfInBounds_toArray, List.set_cons_zero, List.set_cons_succ]
      refine wpAnyZ_takeY (i := 13) (oi := { dst := some 32, op := Op.call { callee := Callee.builtin Builtin.len, args := #[Operand.tmp 31], argTypes := #[9] }, type := 3, pos := "ref.go:126", after := #[{ on := 12, ground := Ground.data }], guard := none }) (v := ?_) rfl (by kernel_rfl) (by kernel_rfl) (by kernel_rfl) (by rfl) (fun _ _ _ h => h) (Or.inl ⟨by rfl, ?_⟩) (by assumption) ?_
      rotate_left
      · (intro w; go_simp); (first | done | with_reducible rfl)
      try simp only [Act.put, List.setIfInBounds_toArray, List.set_cons_zero, List.set_cons_succ]
      refine wpAnyZ_takeY (i := 14) (oi := { dst := some 33, op := Op.indexAddr 89 (Operand.tmp 22) (Operand.tmp 23), type := 0, pos := "ref.go:126", after := #[{ on := 3, ground := Ground.data }, { on := 4, ground := Ground.data }, { on := 0, ground := Ground.phase }, { on := 1, ground := Ground.phase }, { on := 2, ground := Ground.phase }, { on := 3, ground := Ground.phase }, { on := 4, ground := Ground.phase }, { on := 5, ground := Ground.phase }, { on := 6, ground := Ground.phase }, { on := 7, ground := Ground.phase }, { on := 8, ground := Ground.phase }, { on := 9, ground := Ground.phase }, { on := 10, ground := Ground.phase }, { on := 11, ground := Ground.phase }, { on := 12, ground := Ground.phase }, { on := 13, ground := Ground.phase }], guard := none }) (v := ?_) rfl (by kernel_rfl) (by kernel_rfl) (by kernel_rfl) (by rfl) (fun _ _ _ h => h) (Or.inl ⟨by rfl, ?_⟩) (by assumption) ?_
      rotate_left
      · (intro w; go_simp); (first | done | with_reducible rfl)
      try simp only [Act.put, List.setIfInBounds_toArray, List.set_cons_zero, List.set_cons_succ]
      refine wpAnyZ_takeY (i := 15) (oi := { dst := some 34, op := Op.fieldAddr 95 (Operand.tmp 33) 2, type := 0, pos := "ref.go:126", after := #[{ on := 14, ground := Ground.data }, { on := 0, ground := Ground.phase }, { on := 1, ground := Ground.phase }, { on := 2, ground := Ground.phase }, { on := 3, ground := Ground.phase }, { on := 4, ground := Ground.phase }, { on := 5, ground := Ground.phase }, { on := 6, ground := Ground.phase }, { on := 7, ground := Ground.phase }, { on := 8, ground := Ground.phase }, { on := 9, ground := Ground.phase }, { on := 10, ground := Ground.phase }, { on := 11, ground := Ground.phase }, { on := 12, ground := Ground.phase }, { on := 13, ground := Ground.phase }], guard := none }) (v := ?_) rfl (by kernel_rfl) (by kernel_rfl) (by kernel_rfl) (by rfl) (fun _ _ _ h => h) (Or.inl ⟨by rfl, ?_⟩) (by assumption) ?_
      rotate_left
      · (intro w; go_simp); (first | done | with_reducible rfl)
      try simp only [Act.put, List.setIfInBounds_toArray, List.set_cons_zero, List.set_cons_succ]
      refine wpAnyZ_ready (rs := [16]) (by kernel_rfl) (by simp) ?_
      refine AllReadyZ.last (o := { dst := none, op := Op.store 3 (Operand.tmp 34) (Operand.tmp 32), type := 0, pos := "ref.go:126", after := #[{ on := 15, ground := Ground.data }, { on := 13, ground := Ground.data }, { on := 0, ground := Ground.phase }, { on := 1, ground := Ground.phase }, { on := 2, ground := Ground.phase }, { on := 3, ground := Ground.phase }, { on := 4, ground := Ground.phase }, { on := 5, ground := Ground.phase }, { on := 6, ground := Ground.phase }, { on := 7, ground := Ground.phase }, { on := 8, ground := Ground.phase }, { on := 9, ground := Ground.phase }, { on := 10, ground := Ground.phase }, { on := 11, ground := Ground.phase }, { on := 12, ground := Ground.phase }, { on := 13, ground := Ground.phase }], guard := none }) rfl (fun K hK => ?_) AllReadyZ.nil
      have f0 := (HFIN.out _ HB.out).2
      have m0 := (HSH.out _ HB.out).2.2
      go_simp
      refine hK.out _ _ ?_
      clear hK K
      refine wpAny_done (by kernel_rfl) ?_ _
      go_wp2_with fail
      go_ret
      exact (HFIN.out _ HB.out).1
end

end Go.Proofs.Ytekmnpmeienhhaa
