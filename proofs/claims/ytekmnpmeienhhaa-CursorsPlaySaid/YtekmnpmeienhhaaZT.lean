/- Texts of lower layers, as one. -/
import Derived.Test.YtekmnpmeienhhaaDkrG
import Derived.Test.YtekmnpmeienhhaaDkrD
import Derived.Test.YtekmnpmeienhhaaDkrE
/- Layer 5: the document's disk: changes, Sync, Remove. -/
namespace Go.Proofs.Ytekmnpmeienhhaa
set_option linter.unusedVariables false
open Go Go.RowKit Go.Maps

def Dk.chg (D : Dk.St) : Int := if (Dk.struck D).1 then 51 else 0
/-- Rows of numbers, and of files, lie in blocks of their own. -/
theorem rows_apart5 {w : World} {B B' n cap m cap' : Nat} {ao bo : Option Addr} {xs ys : List Value} (h : w.ownsRow B 95 3 (.slice ao n cap) n xs) (k : w.ownsRow B' 3 1 (.slice bo m cap') m ys) :
    ∀ x y, ao = some x → bo = some y → y.block ≠ x.block := fun x y hx hy e => by
  subst hx hy
  rcases h.2 with ⟨e', _⟩ | ⟨g', cp, cur, e', hB, hgg, _⟩
  · cases e'
  · injection e' with e1 _ _
    injection e1 with e1
    have hbk : Bk cur 95 w x.block := by rw [e1]; exact hgg
    exact bk_row hbk k (by decide) y.block rfl e
section
variable {B r : Nat} {c : Rc} {D : Dk.St} {w w' : World}
theorem RfW.keepAt {sb : Bool} (h : RfW B r c sb D w) : NsA5 w c.ka c.ks ∧ ∀ x, c.ks ≠ [] → c.ka = some x → x.block ≠ r ∧ ∀ y, c.a = some y → x.block ≠ y.block :=
  ⟨(nsK_row h.krow).1, fun x _ hx => ⟨fun e => bk_row h.box h.krow (by decide) x.block (by rw [hx]; rfl) e, fun y hy => rows_apart5 h.row h.krow y x hy hx⟩⟩
set_option maxRecDepth 100000 in
theorem rChanges5 (h : RfIn B r c D w) (hu : D.up = true) (hn : ∀ p, D.set = some p → (p.1 : Int) ≤ 9223372036854775807) (hks : ∀ p, D.set = some p → Dk.KsOk p.2) :
    Calls Try.prog 89 #[.pointer (some ⟨r, 0, none⟩)] w (OpI B r c (.int .i64 (Dk.chg D)) (Dk.struck D).2 w) := by
  have CL := Lib.hid (rLast5 h hn)
  have HI := Lib.hid h
  have HK := Lib.hid hks
  clear h hn hks
  go_enter Try.func89, Try.ntmps89
  go_wp2_with fail
  with_reducible refine CL.out.mono ?_
  rintro e w1 (⟨hs, rfl, rfl⟩ | ⟨n, ks, hs, rfl, ho⟩ | ⟨ks, hs, rfl, hck, hW, hwr⟩)
  · have HQ := Lib.hid (show OpI B r c (.int .i64 (Dk.chg D)) (Dk.struck D).2 w (.returned (.int .i64 0)) w from by unfold Dk.chg; rw [Dk.struck_no hs]; exact OpI.same HI.out)
    go_wp2_with fail
    go_ret
    exact HQ.out
  · have HQ := Lib.hid (show OpI B r c (.int .i64 (Dk.chg D)) (Dk.struck D).2 w (.returned (.int .i64 0)) w1 from by
      have e1 : Dk.struck D = (false, { D with set := some (n, ks) }) := by unfold Dk.struck; rw [hs]
      unfold Dk.chg; rw [e1]; exact ⟨rfl, ho.2⟩)
    clear ho
    go_wp2_with fail
    go_ret
    exact HQ.out
  · obtain ⟨hk1, hk2⟩ := hW.keepAt
    simp only at hk1 hk2
    rw [hck] at hk1 hk2
    have x6 : w1.cell? ⟨r, 6, none⟩ = some (.slice c.ka c.ks.length c.kc) := hW.box.cell 6
    rw [hck] at x6
    have CC := Lib.hid (rCrashW5 hW hu ks c.ka c.kc (HK.out _ hs) hk1 hk2)
    have HQ := Lib.hid (show ∀ e w2, OpI B r { c with n := -1 } (.int .i64 0) (Dk.fall ks D) w1 e w2 → OpI B r c (.int .i64 (Dk.chg D)) (Dk.struck D).2 w (.returned (.int .i64 51)) w2 from fun e w2 ⟨_, c2, q1, q2, q3⟩ => by
      have e1 : Dk.struck D = (true, Dk.fall ks D) := by unfold Dk.struck; rw [hs]
      unfold Dk.chg; rw [e1]
      refine ⟨rfl, c2, q1, fun b hb => ?_, hwr.step q3 (fun x hx => .inl hx)⟩
      rcases q2 b hb with h | h
      · exact .inl h
      · exact .inr (Nat.le_trans hwr.size h))
    clear hW hwr hk1 hk2
    go_wp2_with fail
    with_reducible refine CC.out.mono ?_
    rintro e w2 ho
    have HQ2 := Lib.hid (HQ.out _ _ ho)
    obtain ⟨rfl, -⟩ := ho
    go_wp2_with fail
    go_ret
    exact HQ2.out
/-- A part of a file is written. -/
theorem RfIn.setFile (h : RfIn B r c D w) {k : Nat} (hk : k < D.L.length) {g : Nat} (hg : c.a = some ⟨g, 0, none⟩) (j : Nat) (hj : j < 3) (u : Value) (f' : Dk.Fl) (hf : (fl3 D.L[k]).set j u = fl3 f') (v : Value) (hok : Dk.OkL (D.L.set k f')) (hz : Dk.size (D.L.set k f') ≤ 1048576) :
    OpI B r c v { D with L := D.L.set k f' } w (.returned v) (w.setCell ⟨g, k * 3 + j, none⟩ u) ∧ w.frozen? ⟨g, k * 3 + j, none⟩ = false := by
  have hr := h.row
  rw [hg] at hr
  obtain ⟨s1, s2⟩ := row_storeN5 hr (k * 3 + j) u
  rw [flsV_set D.L k hk j hj u f' hf] at s1
  have hw := wr_set (A := fun x => x = g) w ⟨g, k * 3 + j, none⟩ u rfl
  have hgr : r ≠ g := fun e => bk_row h.box hr (by decide) g rfl e.symm
  refine ⟨⟨rfl, c, ⟨?_, ?_, row_wr h.krow hw (fun q hq e => ?_), h.set, hok, by show (D.L.set k f').length ≤ _; rw [List.length_set]; exact h.few, hz⟩, fun b hb => .inl hb, hw.mono (fun x hx => .inl (.inr (.inl ⟨_, hg, hx⟩)))⟩, s2⟩
  · have e9 : rfC c { D with L := D.L.set k f' } = rfC c D := by unfold rfC; simp only [List.length_set]
    rw [e9]; exact h.box.other hgr _ _
  · show (w.setCell _ _).ownsRow B _ 3 (.slice c.a (D.L.set k f').length c.c) (D.L.set k f').length (flsV (D.L.set k f'))
    rw [List.length_set, hg]; exact s1
  · cases hka : c.ka with
    | none => rw [hka] at hq; cases hq
    | some x =>
      rw [hka] at hq
      simp only [Value.ownBlock, Option.some.injEq] at hq
      exact rows_apart5 h.row h.krow _ x hg hka (by rw [hq]; exact e)
theorem struck_L5 {D : Dk.St} (h : (Dk.struck D).1 = false) : (Dk.struck D).2.L = D.L := by
  rcases Dk.struck_cases D with ⟨_, e⟩ | ⟨_, _, e⟩ | ⟨_, _, _, e⟩
  · rw [e]
  · rw [e] at h; cases h
  · rw [e]
set_option maxRecDepth 100000 in
set_option maxHeartbeats 4000000 in
theorem rSync5 (h : RfIn B r c D w) (nm : List UInt8) (hn : ∀ p, D.set = some p → (p.1 : Int) ≤ 9223372036854775807) (hks : ∀ p, D.set = some p → Dk.KsOk p.2) :
    Calls Try.prog 58 #[.pointer (some ⟨r, 0, none⟩), .string (S nm)] w (OpI B r c (.int .i64 (Dk.sync nm D).1) (Dk.sync nm D).2 w) := by
  have CA := Lib.hid (rAsks5 h nm)
  have CC := Lib.hid (fun hu => rChanges5 h hu hn hks)
  have HI := Lib.hid h
  have hfew := h.few
  clear h hn hks
  go_enter Try.func58, Try.ntmps58
  go_wp2_with fail
  with_reducible refine CA.out.mono ?_
  rintro e w1 ⟨⟨hu, rfl⟩ | ⟨hu, hh, rfl⟩ | ⟨k, hk, hu, he, rfl⟩, rfl⟩
  · have HQ := Lib.hid (show OpI B r c (.int .i64 (Dk.sync nm D).1) (Dk.sync nm D).2 w (.returned (.int .i64 51)) w from by
      rw [show Dk.sync nm D = (51, D) from by unfold Dk.sync; rw [if_pos hu]]; exact OpI.same HI.out)
    go_wp2_with fail
    go_ret
    exact HQ.out
  · have HQ := Lib.hid (show OpI B r c (.int .i64 (Dk.sync nm D).1) (Dk.sync nm D).2 w (.returned (.int .i64 4)) w from by
      rw [show Dk.sync nm D = (4, D) from by unfold Dk.sync; rw [if_neg (by rw [hu]; decide), if_pos hh]]; exact OpI.same HI.out)
    go_wp2_with fail
    go_ret
    exact HQ.out
  · obtain ⟨q1, q2⟩ := get_at5 HI.out.ok hk he
    have HD := Lib.hid (show Dk.sync nm D = if (Dk.struck D).1 = true then (51, (Dk.struck D).2) else (0, { (Dk.struck D).2 with L := Dk.put ⟨nm, (D.L[k]).dat, (D.L[k]).dat.length⟩ D.L }) from by
      unfold Dk.sync; rw [if_neg (by rw [hu]; decide), if_neg (by rw [q2]; decide), q1])
    replace CC := Lib.hid (CC.out hu)
    have HHE := Lib.hid he
    clear he q1 q2
    go_wp2_with fail
    with_reducible refine CC.out.mono ?_
    rintro e w2 ho
    have HO := Lib.hid ho
    obtain ⟨rfl, c2, hI2, hF2, hW2⟩ := ho
    cases hst : (Dk.struck D).1 with
    | true =>
      have hch : Dk.chg D = 51 := by unfold Dk.chg; rw [hst]; rfl
      rw [hch]
      have HQ := Lib.hid (show OpI B r c (.int .i64 (Dk.sync nm D).1) (Dk.sync nm D).2 w (.returned (.int .i64 51)) w2 from by
        rw [HD.out, if_pos hst]; have := HO.out; exact ⟨rfl, this.2⟩)
      clear hI2 hF2 hW2
      go_wp2_with fail
      go_ret
      exact HQ.out
    | false =>
      have hch : Dk.chg D = 0 := by unfold Dk.chg; rw [hst]; rfl
      rw [hch]
      have hL := struck_L5 hst
      obtain ⟨D1, hD1⟩ : ∃ x, x = (Dk.struck D).2 := ⟨_, rfl⟩
      rw [← hD1] at hI2 hL
      have hk1 : k < D1.L.length := by rw [hL]; exact hk
      have hget : D1.L[k] = D.L[k] := by simp only [hL]
      obtain ⟨g, hg, -, y1, y2⟩ := row_file5 hI2.row rfl hk1
      rw [hget] at y1 y2
      have x4 : w2.cell? ⟨r, 4, none⟩ = some (.slice c2.a D1.L.length c2.c) := hI2.box.cell 4
      rw [hg] at x4
      have hput : Dk.put ⟨nm, (D.L[k]).dat, (D.L[k]).dat.length⟩ D.L = D.L.set k ⟨nm, (D.L[k]).dat, (D.L[k]).dat.length⟩ := Dk.put_at HI.out.ok.up hk (by exact HHE.out.symm)
      have HFIN := Lib.hid (fun wx (hb : Below w2.heap.size w2 wx) => (show OpI B r c (.int .i64 (Dk.sync nm D).1) (Dk.sync nm D).2 w (.returned (.int .i64 0)) (wx.setCell ⟨g, k * 3 + 2, none⟩ (.int .i64 ((D.L[k]).dat.length : Int))) ∧ wx.frozen? ⟨g, k * 3 + 2, none⟩ = false from by
        have hIx := hI2.below hb
        have hnmd := HI.out.ok.named _ (List.getElem_mem hk)
        rw [HHE.out] at hnmd
        have hs := hIx.setFile hk1 hg 2 (by decide) (.int .i64 ((D.L[k]).dat.length : Int)) ⟨nm, (D.L[k]).dat, (D.L[k]).dat.length⟩ (by rw [hget]; simp [fl3, HHE.out]) (.int .i64 0) (by rw [hL, ← hput]; exact HI.out.ok.put (by exact hnmd) (Nat.le_refl _)) (by
          rw [hL, ← hput]
          have h1 := Dk.size_put HI.out.ok ⟨nm, (D.L[k]).dat, (D.L[k]).dat.length⟩
          simp only at h1
          rw [(get_at5 HI.out.ok hk HHE.out).1] at h1
          have := HI.out.small
          omega)
        refine ⟨?_, hs.2⟩
        obtain ⟨_, c3, p1, p2, p3⟩ := hs.1
        rw [HD.out, if_neg (by rw [hst]; decide), hput, ← hD1]
        rw [hL] at p1
        refine ⟨rfl, c3, p1, fun b hb' => ?_, (hW2.trans (wr_below hb)).step p3 (fun x hx => hF2 x hx)⟩
        rcases p2 b hb' with h | h
        · exact hF2 b h
        · exact .inr (Nat.le_trans hW2.size (Nat.le_trans hb.size h))))
      have HSH := Lib.hid (fun wx (hb : Below w2.heap.size w2 wx) => (show wx.cell? ⟨r, 4, none⟩ = some (.slice (some ⟨g, 0, none⟩) D1.L.length c2.c) ∧ wx.cell? ⟨g, k * 3 + 1, none⟩ = some (.string (S (D.L[k]).dat)) ∧ wx.cell? ⟨g, k * 3 + 2, none⟩ = some (.int .i64 (D.L[k]).safe) from ⟨(hb.cell (p := ⟨r, 4, none⟩) (cell_lt5 x4)).trans x4, (hb.cell (p := ⟨g, k * 3 + 1, none⟩) (cell_lt5 y1)).trans y1, (hb.cell (p := ⟨g, k * 3 + 2, none⟩) (cell_lt5 y2)).trans y2⟩))
      have hdl := Nat.le_trans (Dk.mem_size HI.out.ok (List.getElem_mem hk)) HI.out.small
      have hi1 : (0 : Int) ≤ (k : Int) := by omega
      have hi2 : (k : Int) < (D1.L.length : Int) := by omega
      clear hI2 hF2 hW2 hL hget hput hg x4 y1 y2 HD hD1 hch
      generalize D.L[k] = fl at *
      obtain ⟨fnm, dt, sf⟩ := fl
      simp only at HFIN HSH hdl
      go_upto_region 5 with fail
      have HB := Lib.hid (Below.refl w2.heap.size w2).drew
      refine wp_region_Z (S := fun V => V.cell? ⟨r, 4, none⟩ = some (.slice (some ⟨g, 0, none⟩) D1.L.length c2.c) ∧ V.cell? ⟨g, k * 3 + 1, none⟩ = some (.string (S dt))) 16 (by kernel_rfl) ?_ (fun hHeld => ?_)
      · exact ⟨(HSH.out _ HB.out).1, (HSH.out _ HB.out).2.1⟩
      obtain ⟨wd, hwd⟩ : ∃ x, x = World.drew w2 := ⟨_, rfl⟩
      rw [← hwd] at HB hHeld ⊢
      clear hwd
      refine wpAnyZ_takeY (i := 0) (oi := { dst := some 19, op := Op.move (Operand.tmp 0), type := 28, pos := "ref.go:126", after := #[], guard := none }) (v := ?_) rfl (by kernel_rfl) (by kernel_rfl) (by kernel_rfl) (by rfl) (fun _ _ _ h => h) (Or.inl ⟨by rfl, ?_⟩) (by assumption) ?_
      rotate_left
      · (intro w; go_simp); (first | done | with_reducible rfl)
      try simp only [Act.put, List.setIfInBounds_toArray, List.set_cons_zero, List.set_cons_succ]
      refine wpAnyZ_takeY (i := 1) (oi := { dst := some 20, op := Op.nilCheck (Operand.tmp 19), type := 0, pos := "ref.go:126", after := #[{ on := 0, ground := Ground.data }], guard := none }) (v := ?_) rfl (by kernel_rfl) (by kernel_rfl) (by kernel_rfl) (by rfl) (fun _ _ _ h => h) (Or.inl ⟨by rfl, ?_⟩) (by assumption) ?_
      rotate_left
      · (intro w; go_simp); (first | done | with_reducible rfl)
      try simp only [Act.put, List.setIfInBounds_toArray, List.set_cons_zero, List.set_cons_succ]
      refine wpAnyZ_takeY (i := 2) (oi := { dst := some 21, op := Op.fieldAddr 91 (Operand.tmp 20) 4, type := 0, pos := "ref.go:126", after := #[{ on := 1, ground := Ground.data }], guard := none }) (v := ?_) rfl (by kernel_rfl) (by kernel_rfl) (by kernel_rfl) (by rfl) (fun _ _ _ h => h) (Or.inl ⟨by rfl, ?_⟩) (by assumption) ?_
      rotate_left
      · (intro w; go_simp); (first | done | with_reducible rfl)
      try simp only [Act.put, List.setIfInBounds_toArray, List.set_cons_zero, List.set_cons_succ]
      refine wpAnyZ_take (i := 3) (oi := { dst := some 22, op := Op.load 89 (Operand.tmp 21), type := 89, pos := "ref.go:126", after := #[{ on := 2, ground := Ground.data }], guard := none }) (v := ?_) [14, 15, 16] rfl (by kernel_rfl) (by kernel_rfl) (by kernel_rfl) (by kernel_rfl) (fun _ _ _ h => h) (Or.inl ⟨by rfl, ?_⟩) (by assumption) ?_
      rotate_left
      · (intro w hSw; (try dsimp only at hSw); go_simp); (first | done | with_reducible rfl)
      try simp only [Act.put, List.setIfInBounds_toArray, List.set_cons_zero, List.set_cons_succ]
      refine wpAnyZ_takeY (i := 4) (oi := { dst := some 23, op := Op.move (Operand.tmp 5), type := 3, pos := "ref.go:126", after := #[], guard := none }) (v := ?_) rfl (by kernel_rfl) (by kernel_rfl) (by kernel_rfl) (by rfl) (fun _ _ _ h => h) (Or.inl ⟨by rfl, ?_⟩) (by assumption) ?_
      rotate_left
      · (intro w; go_simp); (first | done | with_reducible rfl)
      try simp only [Act.put, List.setIfInBounds_toArray, List.set_cons_zero, List.set_cons_succ]
      refine wpAnyZ_takeY (i := 5) (oi := { dst := some 24, op := Op.move (Operand.tmp 0), type := 28, pos := "ref.go:126", after := #[], guard := none }) (v := ?_) rfl (by kernel_rfl) (by kernel_rfl) (by kernel_rfl) (by rfl) (fun _ _ _ h => h) (Or.inl ⟨by rfl, ?_⟩) (by assumption) ?_
      rotate_left
      · (intro w; go_simp); (first | done | with_reducible rfl)
      try simp only [Act.put, List.setIfInBounds_toArray, List.set_cons_zero, List.set_cons_succ]
      refine wpAnyZ_takeY (i := 6) (oi := { dst := some 25, op := Op.nilCheck (Operand.tmp 24), type := 0, pos := "ref.go:126", after := #[{ on := 5, ground := Ground.data }], guard := none }) (v := ?_) rfl (by kernel_rfl) (by kernel_rfl) (by kernel_rfl) (by rfl) (fun _ _ _ h => h) (Or.inl ⟨by rfl, ?_⟩) (by assumption) ?_
      rotate_left
      · (intro w; go_simp); (first | done | with_reducible rfl)
      try simp only [Act.put, List.setIfInBounds_toArray, List.set_cons_zero, List.set_cons_succ]
      refine wpAnyZ_takeY (i := 7) (oi := { dst := some 26, op := Op.fieldAddr 91 (Operand.tmp 25) 4, type := 0, pos := "ref.go:126", after := #[{ on := 6, ground := Ground.data }], guard := none }) (v := ?_) rfl (by kernel_rfl) (by kernel_rfl) (by kernel_rfl) (by rfl) (fun _ _ _ h => h) (Or.inl ⟨by rfl, ?_⟩) (by assumption) ?_
      rotate_left
      · (intro w; go_simp); (first | done | with_reducible rfl)
      try simp only [Act.put, List.setIfInBounds_toArray, List.set_cons_zero, List.set_cons_succ]
      refine wpAnyZ_take (i := 8) (oi := { dst := some 27, op := Op.load 89 (Operand.tmp 26), type := 89, pos := "ref.go:126", after := #[{ on := 7, ground := Ground.data }], guard := none }) (v := ?_) [10, 11, 12, 13, 14, 15, 16] rfl (by kernel_rfl) (by kernel_rfl) (by kernel_rfl) (by kernel_rfl) (fun _ _ _ h => h) (Or.inl ⟨by rfl, ?_⟩) (by assumption) ?_
      rotate_left
      · (intro w hSw; (try dsimp only at hSw); go_simp); (first | done | with_reducible rfl)
      try simp only [Act.put, List.setIfInBounds_toArray, List.set_cons_zero, List.set_cons_succ]
      refine wpAnyZ_takeY (i := 9) (oi := { dst := some 28, op := Op.move (Operand.tmp 5), type := 3, pos := "ref.go:126", after := #[], guard := none }) (v := ?_) rfl (by kernel_rfl) (by kernel_rfl) (by kernel_rfl) (by rfl) (fun _ _ _ h => h) (Or.inl ⟨by rfl, ?_⟩) (by assumption) ?_
      rotate_left
      · (intro w; go_simp); (first | done | with_reducible rfl)
      try simp only [Act.put, List.setIfInBounds_toArray, List.set_cons_zero, List.set_cons_succ]
      refine wpAnyZ_takeY (i := 10) (oi := { dst := some 29, op := Op.indexAddr 89 (Operand.tmp 27) (Operand.tmp 28), type := 0, pos := "ref.go:126", after := #[{ on := 8, ground := Ground.data }, { on := 9, ground := Ground.data }], guard := none }) (v := ?_) rfl (by kernel_rfl) (by kernel_rfl) (by kernel_rfl) (by rfl) (fun _ _ _ h => h) (Or.inl ⟨by rfl, ?_⟩) (by assumption) ?_
      rotate_left
      · (intro w; go_simp); (first | done | with_reducible rfl)
      try simp only [Act.put, List.setIfInBounds_toArray, List.set_cons_zero, List.set_cons_succ]
      refine wpAnyZ_takeY (i := 11) (oi := { dst := some 30, op := Op.fieldAddr 95 (Operand.tmp 29) 1, type := 0, pos := "ref.go:126", after := #[{ on := 10, ground := Ground.data }], guard := none }) (v := ?_) rfl (by kernel_rfl) (by kernel_rfl) (by kernel_rfl) (by rfl) (fun _ _ _ h => h) (Or.inl ⟨by rfl, ?_⟩) (by assumption) ?_
      rotate_left
      · (intro w; go_simp); (first | done | with_reducible rfl)
      try simp only [Act.put, List.setIfInBounds_toArray, List.set_cons_zero, List.set_cons_succ]
      refine wpAnyZ_take (i := 12) (oi := { dst := some 31, op := Op.load 9 (Operand.tmp 30), type := 9, pos := "ref.go:126", after := #[{ on := 11, ground := Ground.data }], guard := none }) (v := ?_) [13, 14, 15, 16] rfl (by kernel_rfl) (by kernel_rfl) (by kernel_rfl) (by kernel_rfl) (fun _ _ _ h => h) (Or.inl ⟨by rfl, ?_⟩) (by assumption) ?_
      rotate_left
      · (intro w hSw; (try dsimp only at hSw); go_simp); (first | done | with_reducible rfl)
      try simp only [Act.put, List.setIfInBounds_toArray, List.set_cons_zero, List.set_cons_succ]
      refine wpAnyZ_takeY (i := 13) (oi := { dst := some 32, op := Op.call { callee := Callee.builtin Builtin.len, args := #[Operand.tmp 31], argTypes := #[9] }, type := 3, pos := "ref.go:126", after := #[{ on := 12, ground := Ground.data }], guard := none }) (v := ?_) rfl (by kernel_rfl) (by kernel_rfl) (by kernel_rfl) (by rfl) (fun _ _ _ h => h) (Or.inl ⟨by rfl, ?_⟩) (by assumption) ?_
      rotate_left
      · (intro w; go_simp); (first | done | with_reducible rfl)
      try simp only [Act.put, List.setIfInBounds_toArray, List.set_cons_zero, List.set_cons_succ]
      refine wpAnyZ_takeY (i := 14) (oi := { dst := some 33, op := Op.indexAddr 89 (Operand.tmp 22) (Operand.tmp 23), type := 0, pos := "ref.go:126", after := #[{ on := 3, ground := Ground.data }, { on := 4, ground := Ground.data }, { on := 0, ground := Ground.phase }, { on := 1, ground := Ground.phase }, { on := 2, ground := Ground.phase }, { on := 3, ground := Ground.phase }, { on := 4, ground := Ground.phase }, { on := 5, ground := Ground.phase }, { on := 6, ground := Ground.phase }, { on := 7, ground := Ground.phase }, { on := 8, ground := Ground.phase }, { on := 9, ground := Ground.phase }, { on := 10, ground := Ground.phase }, { on := 11, ground := Ground.phase }, { on := 12, ground := Ground.phase }, { on := 13, ground := Ground.phase }], guard := none }) (v := ?_) rfl (by kernel_rfl) (by kernel_rfl) (by kernel_rfl) (by rfl) (fun _ _ _ h => h) (Or.inl ⟨by rfl, ?_⟩) (by assumption) ?_
      rotate_left
      · (intro w; go_simp); (first | done | with_reducible rfl)
      try simp only [Act.put, List.setIfInBounds_toArray, List.set_cons_zero, List.set_cons_succ]
      refine wpAnyZ_takeY (i := 15) (oi := { dst := some 34, op := Op.fieldAddr 95 (Operand.tmp 33) 2, type := 0, pos := "ref.go:126", after := #[{ on := 14, ground := Ground.data }, { on := 0, ground := Ground.phase }, { on := 1, ground := Ground.phase }, { on := 2, ground := Ground.phase }, { on := 3, ground := Ground.phase }, { on := 4, ground := Ground.phase }, { on := 5, ground := Ground.phase }, { on := 6, ground := Ground.phase }, { on := 7, ground := Ground.phase }, { on := 8, ground := Ground.phase }, { on := 9, ground := Ground.phase }, { on := 10, ground := Ground.phase }, { on := 11, ground := Ground.phase }, { on := 12, ground := Ground.phase }, { on := 13, ground := Ground.phase }], guard := none }) (v := ?_) rfl (by kernel_rfl) (by kernel_rfl) (by kernel_rfl) (by rfl) (fun _ _ _ h => h) (Or.inl ⟨by rfl, ?_⟩) (by assumption) ?_
      rotate_left
      · (intro w; go_simp); (first | done | with_reducible rfl)
      try simp only [Act.put, List.setIfInBounds_toArray, List.set_cons_zero, List.set_cons_succ]
      refine wpAnyZ_ready (rs := [16]) (by kernel_rfl) (by simp) ?_
      refine AllReadyZ.last (o := { dst := none, op := Op.store 3 (Operand.tmp 34) (Operand.tmp 32), type := 0, pos := "ref.go:126", after := #[{ on := 15, ground := Ground.data }, { on := 13, ground := Ground.data }, { on := 0, ground := Ground.phase }, { on := 1, ground := Ground.phase }, { on := 2, ground := Ground.phase }, { on := 3, ground := Ground.phase }, { on := 4, ground := Ground.phase }, { on := 5, ground := Ground.phase }, { on := 6, ground := Ground.phase }, { on := 7, ground := Ground.phase }, { on := 8, ground := Ground.phase }, { on := 9, ground := Ground.phase }, { on := 10, ground := Ground.phase }, { on := 11, ground := Ground.phase }, { on := 12, ground := Ground.phase }, { on := 13, ground := Ground.phase }], guard := none }) rfl (fun K hK => ?_) AllReadyZ.nil
      have f0 := (HFIN.out _ HB.out).2
      have m0 := (HSH.out _ HB.out).2.2
      go_simp
      refine hK.out _ _ ?_
      clear hK K
      refine wpAny_done (by kernel_rfl) ?_ _
      go_wp2_with fail
      go_ret
      exact (HFIN.out _ HB.out).1
end

end Go.Proofs.Ytekmnpmeienhhaa

/- Layer 5: the document's disk: Remove, Rename, New. -/
namespace Go.Proofs.Ytekmnpmeienhhaa
set_option linter.unusedVariables false
open Go Go.RowKit Go.Maps

namespace Dk
theorem del_del5 (nm : List UInt8) (L : List Fl) : del nm (del nm L) = del nm L := by unfold del; rw [List.filter_filter]; simp
theorem ren_eq5 {a b : List UInt8} {L : List Fl} (h : OkL L) (ha : has a L = true) : ren a b L = put ⟨b, (get a L).dat, (get a L).safe⟩ (del a L) := by
  unfold ren
  split
  · rename_i e
    subst e
    obtain ⟨m1, m2⟩ := get_mem ha
    obtain ⟨k, hk, e1⟩ := List.mem_iff_getElem.1 m1
    have e2 : (⟨a, (get a L).dat, (get a L).safe⟩ : Fl) = get a L := (show ∀ G : Fl, G.name = a → (⟨a, G.dat, G.safe⟩ : Fl) = G from fun G h => by cases G; simp only at h; subst h; rfl) _ m2
    rw [e2]
    have e3 : put (get a L) (del a L) = put (get a L) L := by
      unfold put
      rw [m2, del_del5]
    rw [e3, put_at h.up hk (by rw [e1])]
    rw [← e1, List.set_getElem_self]
  · rfl
end Dk
theorem OpI.res {B r : Nat} {c : Rc} {v v' : Value} {D' : Dk.St} {w w' : World} {e e' : Ending} (h : OpI B r c v D' w e w') (he : e' = .returned v') : OpI B r c v' D' w e' w' := ⟨he, h.2⟩
section
variable {B r : Nat} {c : Rc} {D : Dk.St} {w w' : World}
set_option maxRecDepth 100000 in
set_option maxHeartbeats 4000000 in
theorem rRemove5 (h : RfIn B r c D w) (hB : B ≤ w.heap.size) (nm : List UInt8) (hn : ∀ p, D.set = some p → (p.1 : Int) ≤ 9223372036854775807) (hks : ∀ p, D.set = some p → Dk.KsOk p.2) :
    Calls Try.prog 60 #[.pointer (some ⟨r, 0, none⟩), .string (S nm)] w (OpI B r c (.int .i64 (Dk.remove nm D).1) (Dk.remove nm D).2 w) := by
  have CA := Lib.hid (rAsks5 h nm)
  have CC := Lib.hid (fun hu => rChanges5 h hu hn hks)
  have HI := Lib.hid h
  clear h hn hks
  go_enter Try.func60, Try.ntmps60
  go_wp2_with fail
  with_reducible refine CA.out.mono ?_
  rintro e w1 ⟨⟨hu, rfl⟩ | ⟨hu, hh, rfl⟩ | ⟨k, hk, hu, he, rfl⟩, rfl⟩
  · have HQ := Lib.hid (show OpI B r c (.int .i64 (Dk.remove nm D).1) (Dk.remove nm D).2 w (.returned (.int .i64 51)) w from by
      rw [show Dk.remove nm D = (51, D) from by unfold Dk.remove; rw [if_pos hu]]; exact OpI.same HI.out)
    go_wp2_with fail
    go_ret
    exact HQ.out
  · have HQ := Lib.hid (show OpI B r c (.int .i64 (Dk.remove nm D).1) (Dk.remove nm D).2 w (.returned (.int .i64 4)) w from by
      rw [show Dk.remove nm D = (4, D) from by unfold Dk.remove; rw [if_neg (by rw [hu]; decide), if_pos hh]]; exact OpI.same HI.out)
    go_wp2_with fail
    go_ret
    exact HQ.out
  · obtain ⟨q1, q2⟩ := get_at5 HI.out.ok hk he
    have HD := Lib.hid (show Dk.remove nm D = if (Dk.struck D).1 = true then (51, (Dk.struck D).2) else (0, { (Dk.struck D).2 with L := Dk.del nm D.L }) from by
      have e0 : Dk.remove nm D = if (Dk.struck D).1 = true then (51, (Dk.struck D).2) else (0, { (Dk.struck D).2 with L := Dk.del nm D.L }) := by
        unfold Dk.remove; rw [if_neg (by rw [hu]; decide), if_neg (by rw [q2]; decide)]
      exact e0)
    replace CC := Lib.hid (CC.out hu)
    have HHE := Lib.hid he
    clear he q1 q2
    go_wp2_with fail
    with_reducible refine CC.out.mono ?_
    rintro e w2 ho
    have HO := Lib.hid ho
    obtain ⟨rfl, c2, hI2, hF2, hW2⟩ := ho
    cases hst : (Dk.struck D).1 with
    | true =>
      have hch : Dk.chg D = 51 := by unfold Dk.chg; rw [hst]; rfl
      rw [hch]
      have HQ := Lib.hid (show OpI B r c (.int .i64 (Dk.remove nm D).1) (Dk.remove nm D).2 w (.returned (.int .i64 51)) w2 from by
        rw [HD.out, if_pos hst]; have := HO.out; exact ⟨rfl, this.2⟩)
      clear hI2 hF2 hW2 hch
      go_wp2_with fail
      go_ret
      exact HQ.out
    | false =>
      have hch : Dk.chg D = 0 := by unfold Dk.chg; rw [hst]; rfl
      rw [hch]
      have hL := struck_L5 hst
      have hk1 : k < (Dk.struck D).2.L.length := by rw [hL]; exact hk
      have CT := Lib.hid (rCut5 hI2 (Nat.le_trans hB hW2.size) hk1)
      have HQ := Lib.hid (show ∀ w3, OpI B r c2 (.tuple #[]) { (Dk.struck D).2 with L := Dk.del ((Dk.struck D).2.L[k]).name (Dk.struck D).2.L } w2 (.returned (.tuple #[])) w3 → OpI B r c (.int .i64 (Dk.remove nm D).1) (Dk.remove nm D).2 w (.returned (.int .i64 0)) w3 from fun w3 h3 => by
        rw [HD.out, if_neg (by rw [hst]; decide)]
        have e1 : ((Dk.struck D).2.L[k]).name = nm := by simp only [hL]; exact HHE.out
        rw [e1, hL] at h3
        obtain ⟨_, c3, p1, p2, p3⟩ := h3
        refine ⟨rfl, c3, p1, fun b hb => ?_, hW2.step p3 (fun x hx => hF2 x hx)⟩
        rcases p2 b hb with h | h
        · exact hF2 b h
        · exact .inr (Nat.le_trans hW2.size h))
      clear hI2 hF2 hW2 hch hL
      go_wp2_with fail
      with_reducible refine CT.out.mono ?_
      rintro e w3 ho3
      obtain rfl := ho3.1
      have HQ3 := Lib.hid (HQ.out _ ho3)
      clear ho3
      go_wp2_with fail
      go_ret
      exact HQ3.out
/-- A new disk. -/
def rc0 : Rc := ⟨none, 0, 0, none, 0, []⟩
set_option maxRecDepth 100000 in
theorem rNew5 (n : Nat) (w : World) (h1 : 1 ≤ n) (h2 : n ≤ 1048576) : Calls Try.prog 18 #[.int .i64 n] w fun e w' => e = .returned (.tuple #[.pointer (some ⟨w.heap.size, 0, none⟩), .int .i64 0]) ∧ RfIn w.heap.size w.heap.size rc0 (Dk.new n) w' ∧ Below w.heap.size w w' := by
  have d1 : decide ((n : Int) < (1 : Int)) = false := decide_eq_false (by omega)
  have d2 : decide ((1048576 : Int) < (n : Int)) = false := decide_eq_false (by omega)
  have HB := Lib.hid ((Below.refl w.heap.size w).alloc (Nat.le_refl _) (.cells #[.int .i64 n, .int .i64 0, .bool false, .bool false, .slice none 0 0, .int .i64 0, .slice none 0 0] 91))
  have HK := Lib.hid (bk_new #[.int .i64 n, .int .i64 0, .bool false, .bool false, .slice none 0 0, .int .i64 0, .slice none 0 0] 91 w)
  go_enter Try.func18, Try.ntmps18
  go_wp2_with fail
  go_ret2
  exact ⟨rfl, ⟨HK.out, World.ownsRow_nil _ _ _ _, World.ownsRow_nil _ _ _ _, fun p hp => (by cases hp), ⟨List.Pairwise.nil, fun f hf => (by cases hf), fun f hf => (by cases hf)⟩, by show 0 ≤ 1024; decide, by show 0 ≤ 1048576; decide⟩, HB.out⟩
end

end Go.Proofs.Ytekmnpmeienhhaa

/- Layer 5: the document's disk: Rename. -/
namespace Go.Proofs.Ytekmnpmeienhhaa
set_option linter.unusedVariables false
open Go Go.RowKit Go.Maps

section
variable {B r : Nat} {c : Rc} {D : Dk.St} {w w' : World}
/-- Two calls one behind the other. -/
def St5 (r : Nat) (c : Rc) (w : World) (c' : Rc) (w' : World) : Prop := (∀ b, Fr r c' b → Fr r c b ∨ w.heap.size ≤ b) ∧ Wr (Fr r c) w w'
theorem St5.refl (r : Nat) (c : Rc) (w : World) : St5 r c w c w := ⟨fun b hb => .inl hb, Wr.refl _ _⟩
theorem St5.trans {r : Nat} {c c1 c2 : Rc} {w w1 w2 : World} (h : St5 r c w c1 w1) (k : St5 r c1 w1 c2 w2) : St5 r c w c2 w2 :=
  ⟨fun b hb => by
    rcases k.1 b hb with q | q
    · exact h.1 b q
    · exact .inr (Nat.le_trans h.2.size q), h.2.step k.2 (fun x hx => h.1 x hx)⟩
theorem St5.below {r : Nat} {c c1 : Rc} {w w1 w2 : World} (h : St5 r c w c1 w1) (hb : Below w1.heap.size w1 w2) : St5 r c w c1 w2 := ⟨h.1, h.2.trans (wr_below hb)⟩
theorem bk_op5 {C : Array Value} {T : TypeId} {fb : Nat} {v : Value} {D' : Dk.St} {e : Ending} {c' : Rc} (hb : Bk C T w fb) (hI : RfIn B r c D w) (hne : ¬ Fr r c fb) (h : Wr (Fr r c) w w') : Bk C T w' fb := hb.wr h hne
set_option maxRecDepth 100000 in
set_option maxHeartbeats 8000000 in
theorem rRename5 (h : RfIn B r c D w) (hB : B ≤ w.heap.size) (a b : List UInt8) (hlb : b.length ≤ 140737488351232) (hn : ∀ p, D.set = some p → (p.1 : Int) ≤ 9223372036854775807) (hks : ∀ p, D.set = some p → Dk.KsOk p.2) :
    Calls Try.prog 59 #[.pointer (some ⟨r, 0, none⟩), .string (S a), .string (S b)] w (OpI B r c (.int .i64 (Dk.rename a b D).1) (Dk.rename a b D).2 w) := by
  have CA := Lib.hid (rAsks5 h a)
  have CC := Lib.hid (fun hu => rChanges5 h hu hn hks)
  have CB := Lib.hid (rBad5 b hlb w)
  have HI := Lib.hid h
  have hfew := h.few
  clear h hn hks
  go_enter Try.func59, Try.ntmps59
  go_wp2_with fail
  with_reducible refine CA.out.mono ?_
  rintro e w1 ⟨⟨hu, rfl⟩ | ⟨hu, hh, rfl⟩ | ⟨k, hk, hu, he, rfl⟩, rfl⟩
  · have HQ := Lib.hid (show OpI B r c (.int .i64 (Dk.rename a b D).1) (Dk.rename a b D).2 w (.returned (.int .i64 51)) w from by
      rw [show Dk.rename a b D = (51, D) from by unfold Dk.rename; rw [if_pos hu]]; exact OpI.same HI.out)
    go_wp2_with fail
    go_ret
    exact HQ.out
  · have HQ := Lib.hid (show OpI B r c (.int .i64 (Dk.rename a b D).1) (Dk.rename a b D).2 w (.returned (.int .i64 4)) w from by
      rw [show Dk.rename a b D = (4, D) from by unfold Dk.rename; rw [if_neg (by rw [hu]; decide), if_pos hh]]; exact OpI.same HI.out)
    go_wp2_with fail
    go_ret
    exact HQ.out
  · obtain ⟨q1, q2⟩ := get_at5 HI.out.ok hk he
    have HHE := Lib.hid he
    have HG := Lib.hid (show Dk.get a D.L = D.L[k] ∧ Dk.has a D.L = true from ⟨q1, q2⟩)
    clear he q1 q2
    cases hnb : Dk.named b with
    | false =>
      have HQ := Lib.hid (show OpI B r c (.int .i64 (Dk.rename a b D).1) (Dk.rename a b D).2 w (.returned (.int .i64 2)) w from by
        rw [show Dk.rename a b D = (2, D) from by unfold Dk.rename; rw [if_neg (by rw [hu]; decide), if_neg (by rw [HG.out.2]; decide), if_pos hnb]]; exact OpI.same HI.out)
      rw [hnb] at CB
      replace CB := Lib.hid (show Calls Try.prog 83 #[.string (S b)] w fun e w' => e = .returned (.bool true) ∧ w = w' from CB.out)
      go_wp2_with fail
      with_reducible refine CB.out.mono ?_
      rintro e w2 ⟨rfl, rfl⟩
      go_wp2_with fail
      go_ret
      exact HQ.out
    | true =>
      rw [hnb] at CB
      replace CB := Lib.hid (show Calls Try.prog 83 #[.string (S b)] w fun e w' => e = .returned (.bool false) ∧ w = w' from CB.out)
      have HD := Lib.hid (show Dk.rename a b D = if (Dk.struck D).1 = true then (51, (Dk.struck D).2) else (0, { (Dk.struck D).2 with L := Dk.ren a b D.L }) from by
        unfold Dk.rename; rw [if_neg (by rw [hu]; decide), if_neg (by rw [HG.out.2]; decide), if_neg (by rw [hnb]; decide)] <;> rfl)
      replace CC := Lib.hid (CC.out hu)
      go_wp2_with fail
      with_reducible refine CB.out.mono ?_
      rintro e w2 ⟨rfl, rfl⟩
      go_wp2_with fail
      with_reducible refine CC.out.mono ?_
      rintro e w2 ho
      have HO := Lib.hid ho
      obtain ⟨rfl, c2, hI2, hF2, hW2⟩ := ho
      cases hst : (Dk.struck D).1 with
      | true =>
        have hch : Dk.chg D = 51 := by unfold Dk.chg; rw [hst]; rfl
        rw [hch]
        have HQ := Lib.hid (show OpI B r c (.int .i64 (Dk.rename a b D).1) (Dk.rename a b D).2 w (.returned (.int .i64 51)) w2 from by
          rw [HD.out, if_pos hst]; have := HO.out; exact ⟨rfl, this.2⟩)
        clear hI2 hF2 hW2 hch
        go_wp2_with fail
        go_ret
        exact HQ.out
      | false =>
        have hch : Dk.chg D = 0 := by unfold Dk.chg; rw [hst]; rfl
        rw [hch]
        have hL := struck_L5 hst
        obtain ⟨D1, hD1⟩ : ∃ x, x = (Dk.struck D).2 := ⟨_, rfl⟩
        rw [← hD1] at hI2 hL HD
        have HF2 := Lib.hid hF2
        have HW2 := Lib.hid hW2
        have HI2 := Lib.hid hI2
        have HL := Lib.hid hL
        have hk1 : k < D1.L.length := by rw [hL]; exact hk
        have hget : D1.L[k] = D.L[k] := by simp only [hL]
        obtain ⟨g, hg, y0, y1, y2⟩ := row_file5 hI2.row rfl hk1
        rw [hget] at y0 y1 y2
        have HGE := Lib.hid hget
        have x4 : w2.cell? ⟨r, 4, none⟩ = some (.slice c2.a D1.L.length c2.c) := hI2.box.cell 4
        rw [hg] at x4
        have hfew1 : D1.L.length ≤ 1024 := hI2.few
        have hi1 : (0 : Int) ≤ (k : Int) := by omega
        have hi2 : (k : Int) < (D1.L.length : Int) := by omega
        have HFL := Lib.hid (show (D.L[k]).safe ≤ (D.L[k]).dat.length ∧ (D.L[k]).dat.length ≤ Dk.size D.L from ⟨HI.out.ok.safe _ (List.getElem_mem hk), Dk.mem_size HI.out.ok (List.getElem_mem hk)⟩)
        have HREN := Lib.hid (show Dk.ren a b D.L = Dk.put ⟨b, (D.L[k]).dat, (D.L[k]).safe⟩ (Dk.del a D.L) from by rw [Dk.ren_eq5 HI.out.ok HG.out.2, HG.out.1])
        have HNK := Lib.hid (show (D1.L[k]).name = a from by rw [HGE.out]; exact HHE.out)
        clear hI2 hF2 hW2 hL hget hg hD1 hch
        obtain ⟨fl, hfl⟩ : ∃ x, x = D.L[k] := ⟨_, rfl⟩
        rw [← hfl] at y0 y1 y2 HFL HREN
        have HFE0 := Lib.hid hfl
        clear hfl
        obtain ⟨fnm, dt, sf⟩ := fl
        simp only at y0 y1 y2 HFL HREN
        have HFE := Lib.hid (show (⟨fnm, dt, sf⟩ : Dk.Fl) = D.L[k] from HFE0.out)
        have HS2 := Lib.hid (show St5 r c w c2 w2 from ⟨HF2.out, HW2.out⟩)
        obtain ⟨fb, hfb⟩ : ∃ x, x = w2.heap.size := ⟨_, rfl⟩
        obtain ⟨w3, hw3⟩ : ∃ x, x = w2.alloc (.cells #[.string (S b), .string (S dt), .int .i64 sf] 95) := ⟨_, rfl⟩
        have HB3 := Lib.hid (show Below w2.heap.size w2 w3 from by rw [hw3]; exact (Below.refl w2.heap.size w2).alloc (Nat.le_refl _) _)
        have HX3 := Lib.hid (show Bk #[.string (S b), .string (S dt), .int .i64 sf] 95 w3 fb from by rw [hw3, hfb]; exact bk_new _ _ _)
        have HI3 := Lib.hid (HI2.out.below HB3.out)
        have HS3 := Lib.hid (HS2.out.below HB3.out)
        have HNF := Lib.hid (show ¬ Fr r c2 fb from fun q => by have := (HI2.out.fr fb q).2; omega)
        have HFW := Lib.hid (show fb < w3.heap.size from HX3.out.lt)
        have CT := rCut5 HI3.out (Nat.le_trans hB HS3.out.2.size) hk1
        rw [HNK.out, HL.out] at CT
        have CT := Lib.hid CT
        obtain ⟨K, hK⟩ : ∃ x, x = Dk.del a D.L := ⟨_, rfl⟩
        have HKl := Lib.hid (show K.length + 1 = D.L.length ∧ Dk.size K + dt.length = Dk.size D.L from by
          have h1 := Dk.len_del (nm := a) HI.out.ok.ne
          have h2 := Dk.size_del (nm := a) HI.out.ok.ne
          rw [HG.out.2] at h1
          rw [HG.out.1, ← HFE.out] at h2
          rw [hK]
          exact ⟨by simpa using h1, h2⟩)
        have HSM := Lib.hid HI.out.small
        rw [← hK] at CT HREN
        have hres : ∀ c6 w6 L6, L6 = Dk.put ⟨b, dt, sf⟩ K → RfIn B r c6 { D1 with L := L6 } w6 → St5 r c w c6 w6 → OpI B r c (.int .i64 (Dk.rename a b D).1) (Dk.rename a b D).2 w (.returned (.int .i64 0)) w6 := fun c6 w6 L6 e hI6 hs6 => by
          rw [HD.out, if_neg (by rw [hst]; decide), HREN.out, ← e]
          exact ⟨rfl, c6, hI6, hs6.1, hs6.2⟩
        have HRES := Lib.hid hres
        go_upto_region 11 with fail
        rw [← hw3, ← hfb]
        clear hw3 hfb x4 y0 y1 y2 hres hK
        go_wp2_with fail
        with_reducible refine CT.out.mono ?_
        rintro e w4 ⟨rfl, c4, hI4, hf4, hw4⟩
        have HI4 := Lib.hid (show RfIn B r c4 { D1 with L := K } w4 from hI4)
        have HS4 := Lib.hid (HS3.out.trans ⟨hf4, hw4⟩)
        have HX4 := Lib.hid (HX3.out.wr hw4 HNF.out)
        have HNF4 := Lib.hid (show ¬ Fr r c4 fb from fun q => by
          rcases hf4 fb q with h | h
          · exact HNF.out h
          · have := HFW.out; omega)
        have CT4 := Lib.hid (rAt5 hI4 b)
        clear hI4 hf4 hw4 CT HX3 HNF HI3 HS3 HS2
        go_wp2_with fail
        with_reducible refine CT4.out.mono ?_
        rintro e w5 ⟨⟨hh, rfl⟩ | ⟨j, hj, he, rfl⟩, rfl⟩
        · obtain ⟨z0, z1, z2⟩ : w4.cell? ⟨fb, 0, none⟩ = some (.string (S b)) ∧ w4.cell? ⟨fb, 1, none⟩ = some (.string (S dt)) ∧ w4.cell? ⟨fb, 2, none⟩ = some (.int .i64 sf) := ⟨HX4.out.cell 0, HX4.out.cell 1, HX4.out.cell 2⟩
          have CLY := Lib.hid (rLay5 HI4.out (Nat.le_trans hB HS4.out.2.size) ⟨b, dt, sf⟩ (by exact hh) hnb HFL.out.1 (by have := HKl.out.1; show K.length < 1024; omega) (by have := HKl.out.2; have := HSM.out; show Dk.size K + dt.length ≤ _; omega))
          have HQ := Lib.hid (fun c6 w6 hI6 hs6 => HRES.out c6 w6 (Dk.ins ⟨b, dt, sf⟩ K) (by unfold Dk.put; rw [Dk.del_none (by exact hh)]) hI6 hs6)
          clear hh
          go_wp2_with fail
          with_reducible refine CLY.out.mono ?_
          rintro e w6 ⟨rfl, c6, hI6, hf6, hw6⟩
          have HQ6 := Lib.hid (HQ.out c6 w6 hI6 (HS4.out.trans ⟨hf6, hw6⟩))
          clear hI6 hf6 hw6 CLY z0 z1 z2
          go_wp2_with fail
          go_ret
          exact HQ6.out
        · have d5 : decide ((0 : Int) ≤ (j : Int)) = true := decide_eq_true (by omega)
          have CT5 := rCut5 HI4.out (Nat.le_trans hB HS4.out.2.size) (k := j) hj
          rw [show ((({ D1 with L := K } : Dk.St)).L[j]).name = b from he] at CT5
          have HK5 := Lib.hid (show Dk.has b (Dk.del b K) = false from by rw [Dk.has_del]; simp)
          have HKd := Lib.hid (show (Dk.del b K).length ≤ K.length ∧ Dk.size (Dk.del b K) ≤ Dk.size K from by
            have h1 := Dk.len_del (nm := b) HI4.out.ok.ne
            have h2 := Dk.size_del (nm := b) HI4.out.ok.ne
            simp only at h1 h2
            exact ⟨by omega, by omega⟩)
          have CT5 := Lib.hid CT5
          have HJ := Lib.hid (show AtR5 b K w4 (.returned (.int .i64 j)) w4 from ⟨.inr ⟨j, hj, he, rfl⟩, rfl⟩)
          clear he
          go_wp2_with fail
          with_reducible refine CT4.out.mono ?_
          rintro e w5 ⟨⟨hh2, rfl⟩ | ⟨j2, hj2, he2, rfl⟩, rfl⟩
          · exfalso
            obtain ⟨h9 | ⟨j3, hj3, he3, _⟩, _⟩ := HJ.out
            · cases h9.2
            · have h8 := (get_at5 HI4.out.ok hj3 he3).2
              rw [hh2] at h8
              cases h8
          have HJ2 := Lib.hid (show j2 = j from by
            obtain ⟨h9 | ⟨j3, hj3, he3, e3⟩, _⟩ := HJ.out
            · cases h9.2
            · injection e3 with e3
              injection e3 with _ e3
              have : j = j3 := by omega
              subst this
              exact (List.pairwise_iff_getElem.1 HI4.out.ok.ne |> fun hp => by
                rcases Nat.lt_trichotomy j2 j with q | q | q
                · exact absurd (he2.trans he3.symm) (hp j2 j hj2 hj3 q)
                · exact q
                · exact absurd (he3.trans he2.symm) (hp j j2 hj3 hj2 q)))
          obtain rfl := HJ2.out
          clear he2 HJ HJ2
          go_wp2_with fail
          with_reducible refine CT5.out.mono ?_
          rintro e w5 ⟨rfl, c5, hI5, hf5, hw5⟩
          have HI5 := Lib.hid (show RfIn B r c5 { D1 with L := Dk.del b K } w5 from hI5)
          have HS5 := Lib.hid (HS4.out.trans ⟨hf5, hw5⟩)
          have HX5 := Lib.hid (HX4.out.wr hw5 HNF4.out)
          clear hI5 hf5 hw5 CT5 HX4 HNF4 HI4 HS4
          obtain ⟨z0, z1, z2⟩ : w5.cell? ⟨fb, 0, none⟩ = some (.string (S b)) ∧ w5.cell? ⟨fb, 1, none⟩ = some (.string (S dt)) ∧ w5.cell? ⟨fb, 2, none⟩ = some (.int .i64 sf) := ⟨HX5.out.cell 0, HX5.out.cell 1, HX5.out.cell 2⟩
          have CLY := Lib.hid (rLay5 HI5.out (Nat.le_trans hB HS5.out.2.size) ⟨b, dt, sf⟩ HK5.out hnb HFL.out.1 (by have := HKl.out.1; have := HKd.out.1; show (Dk.del b K).length < 1024; omega) (by have := HKl.out.2; have := HSM.out; have := HKd.out.2; show Dk.size (Dk.del b K) + dt.length ≤ _; omega))
          have HQ := Lib.hid (fun c6 w6 hI6 hs6 => HRES.out c6 w6 (Dk.ins ⟨b, dt, sf⟩ (Dk.del b K)) rfl hI6 hs6)
          go_wp2_with fail
          with_reducible refine CLY.out.mono ?_
          rintro e w6 ⟨rfl, c6, hI6, hf6, hw6⟩
          have HQ6 := Lib.hid (HQ.out c6 w6 hI6 (HS5.out.trans ⟨hf6, hw6⟩))
          clear hI6 hf6 hw6 CLY z0 z1 z2
          go_wp2_with fail
          go_ret
          exact HQ6.out
end

end Go.Proofs.Ytekmnpmeienhhaa

/- Layer 5: the document's disk: Append. -/
namespace Go.Proofs.Ytekmnpmeienhhaa
set_option linter.unusedVariables false
open Go Go.RowKit Go.Maps
attribute [local go_sem] S_append

namespace Dk
theorem del_ins5 (f : Fl) : ∀ L : List Fl, del f.name (ins f L) = del f.name L
  | [] => by unfold ins del; rw [List.filter_cons_of_neg (by simp)]
  | g :: r => by
    unfold ins
    split
    · unfold del; rw [List.filter_cons_of_neg (by simp)]
    · have := del_ins5 f r
      unfold del at *
      rw [List.filter_cons, List.filter_cons, this]
/-- Bytes behind a file's, which is laid, if it is not there. -/
structure AppAt (nm s : List UInt8) (L L1 : List Fl) (k : Nat) (nmk dt : List UInt8) (sf : Nat) : Prop where
  lt : k < L1.length
  at_ : L1.getD k fl0 = ⟨nm, dt, sf⟩
  put : put ⟨nm, (get nm L).dat ++ s, (get nm L).safe⟩ L = L1.set k ⟨nm, dt ++ s, sf⟩
  ok : OkL (L1.set k ⟨nm, dt ++ s, sf⟩)
  size : size (L1.set k ⟨nm, dt ++ s, sf⟩) = size L + s.length
theorem appAt_has {nm s : List UInt8} {L : List Fl} (h : OkL L) (hnm : named nm = true) {k : Nat} (hk : k < L.length) (he : L[k].name = nm) : AppAt nm s L L k nm L[k].dat L[k].safe := by
  obtain ⟨q1, q2⟩ := get_at5 h hk he
  have e1 : put ⟨nm, (get nm L).dat ++ s, (get nm L).safe⟩ L = L.set k ⟨nm, L[k].dat ++ s, L[k].safe⟩ := by rw [q1]; exact put_at h.up hk (by exact he.symm)
  refine ⟨hk, ?_, e1, ?_, ?_⟩
  · rw [show L.getD k fl0 = L[k] from by simp [List.getD, hk]]
    obtain ⟨x, y, z⟩ : True ∧ True ∧ True := ⟨trivial, trivial, trivial⟩
    exact (show ∀ G : Fl, G.name = nm → G = ⟨nm, G.dat, G.safe⟩ from fun G h => by cases G; simp only at h; subst h; rfl) _ he
  · rw [← e1, q1]
    refine h.put (by exact hnm) ?_
    have := h.safe _ (List.getElem_mem hk)
    simp only [List.length_append]; omega
  · rw [← e1]
    have h1 := size_put h ⟨nm, (get nm L).dat ++ s, (get nm L).safe⟩
    simp only [List.length_append] at h1
    omega
theorem appAt_new {nm s : List UInt8} {L : List Fl} (h : OkL L) (hnm : named nm = true) (hno : has nm L = false) {k : Nat} (hk : k < (ins ⟨nm, [], 0⟩ L).length) (he : (ins ⟨nm, [], 0⟩ L)[k].name = nm) : AppAt nm s L (ins ⟨nm, [], 0⟩ L) k nm (ins ⟨nm, [], 0⟩ L)[k].dat (ins ⟨nm, [], 0⟩ L)[k].safe ∧ OkL (ins ⟨nm, [], 0⟩ L) := by
  have hok : OkL (ins ⟨nm, [], 0⟩ L) := by
    have := h.put (f := ⟨nm, [], 0⟩) (by exact hnm) (Nat.le_refl _)
    unfold put at this
    rw [del_none (by exact hno)] at this
    exact this
  have hA := appAt_has (s := s) hok hnm hk he
  obtain ⟨q1, q2⟩ := get_at5 hok hk he
  have hmem : (⟨nm, [], 0⟩ : Fl) ∈ ins ⟨nm, [], 0⟩ L := mem_ins.2 (.inl rfl)
  have hg : get nm (ins ⟨nm, [], 0⟩ L) = ⟨nm, [], 0⟩ := get_of (f := ⟨nm, [], 0⟩) hok.ne hmem
  have hg0 : get nm L = fl0 := get_none hno
  have e2 : put ⟨nm, (get nm L).dat ++ s, (get nm L).safe⟩ L = put ⟨nm, (get nm (ins ⟨nm, [], 0⟩ L)).dat ++ s, (get nm (ins ⟨nm, [], 0⟩ L)).safe⟩ (ins ⟨nm, [], 0⟩ L) := by
    rw [hg, hg0]
    unfold put
    simp only
    have := del_ins5 ⟨nm, [], 0⟩ L
    simp only at this
    rw [this]
    rfl
  refine ⟨⟨hA.lt, hA.at_, by rw [e2]; exact hA.put, hA.ok, ?_⟩, hok⟩
  rw [hA.size, size_ins]
  simp
end Dk
section
variable {B r : Nat} {c : Rc} {D : Dk.St} {w w' : World}
theorem OpI.below {v : Value} {D' : Dk.St} {e : Ending} {w'' : World} (h : OpI B r c v D' w e w') (hb : Below w'.heap.size w' w'') : OpI B r c v D' w e w'' := by
  obtain ⟨h1, c1, h2, h3, h4⟩ := h
  exact ⟨h1, c1, h2.below hb, h3, h4.trans (wr_below hb)⟩
set_option maxRecDepth 100000 in
set_option maxHeartbeats 8000000 in
theorem rAppend5 (h : RfIn B r c D w) (hB : B ≤ w.heap.size) (nm s : List UInt8) (hln : nm.length ≤ 140737488351232) (hls : s.length ≤ 140737488351232) (hroom : D.room ≤ 1048576) (hn : ∀ p, D.set = some p → (p.1 : Int) ≤ 9223372036854775807) (hks : ∀ p, D.set = some p → Dk.KsOk p.2) :
    Calls Try.prog 55 #[.pointer (some ⟨r, 0, none⟩), .string (S nm), .string (S s)] w (OpI B r c (.int .i64 (Dk.append nm s D).1) (Dk.append nm s D).2 w) := by
  have CA := Lib.hid (rAt5 h nm)
  have CB := Lib.hid (rBad5 nm hln w)
  have HI := Lib.hid h
  have HN := Lib.hid hn
  have HK := Lib.hid hks
  have CZ := Lib.hid (show ∀ q, Calls Try.prog 65 #[.pointer (some ⟨r, 0, none⟩)] (w.drewN q) fun e w' => e = .returned (.int .i64 (Dk.size D.L)) ∧ ∃ j, w' = w.drewN j from fun q => (rSize5 (h.below (below_drewN (Below.refl _ _) q))).mono fun e w' h => ⟨h.1, q, h.2.symm⟩)
  obtain ⟨x0, x1, x2, x3, x4, x5, x6⟩ := h.s
  have hfew := h.few
  have hsm := h.small
  clear h hn hks x1 x3 x5 x6
  cases hu : D.up with
  | false =>
    have HQ := Lib.hid (show OpI B r c (.int .i64 (Dk.append nm s D).1) (Dk.append nm s D).2 w (.returned (.int .i64 51)) w from by
      rw [show Dk.append nm s D = (51, D) from by unfold Dk.append; rw [if_pos hu]]; exact OpI.same HI.out)
    rw [hu] at x2
    go_enter Try.func55, Try.ntmps55
    go_wp2_with fail
    go_ret
    exact HQ.out
  | true =>
  rw [hu] at x2
  cases hnb : Dk.named nm with
  | false =>
    have HQ := Lib.hid (show OpI B r c (.int .i64 (Dk.append nm s D).1) (Dk.append nm s D).2 w (.returned (.int .i64 2)) w from by
      rw [show Dk.append nm s D = (2, D) from by unfold Dk.append; rw [if_neg (by rw [hu]; decide), if_pos hnb]]; exact OpI.same HI.out)
    rw [hnb] at CB
    replace CB := Lib.hid (show Calls Try.prog 83 #[.string (S nm)] w fun e w' => e = .returned (.bool true) ∧ w = w' from CB.out)
    go_enter Try.func55, Try.ntmps55
    go_wp2_with fail
    with_reducible refine CB.out.mono ?_
    rintro e w2 ⟨rfl, rfl⟩
    go_wp2_with fail
    go_ret
    exact HQ.out
  | true =>
  rw [hnb] at CB
  replace CB := Lib.hid (show Calls Try.prog 83 #[.string (S nm)] w fun e w' => e = .returned (.bool false) ∧ w = w' from CB.out)
  have HFULL := Lib.hid (show (Dk.has nm D.L = false ∧ D.L.length = 1024) ∨ D.room < Dk.size D.L + s.length → OpI B r c (.int .i64 (Dk.append nm s D).1) (Dk.append nm s D).2 w (.returned (.int .i64 50)) w from fun hf => by
    rw [show Dk.append nm s D = (50, D) from by unfold Dk.append; rw [if_neg (by rw [hu]; decide), if_neg (by rw [hnb]; decide), if_pos hf]]; exact OpI.same HI.out)
  have HD := Lib.hid (show ¬ ((Dk.has nm D.L = false ∧ D.L.length = 1024) ∨ D.room < Dk.size D.L + s.length) → Dk.append nm s D = (Dk.chg { D with L := Dk.put ⟨nm, (Dk.get nm D.L).dat ++ s, (Dk.get nm D.L).safe⟩ D.L }, (Dk.struck { D with L := Dk.put ⟨nm, (Dk.get nm D.L).dat ++ s, (Dk.get nm D.L).safe⟩ D.L }).2) from fun hf => by
    unfold Dk.append; rw [if_neg (by rw [hu]; decide), if_neg (by rw [hnb]; decide), if_neg hf]; rfl)
  obtain ⟨tt, htt⟩ : ∃ x, x = Dk.size D.L + s.length := ⟨_, rfl⟩
  have e1 : IntKind.i64.wrap ((Dk.size D.L : Int) + (s.length : Int)) = (tt : Int) := by rw [IntWalk.i64_in _ (by omega)]; omega
  have HTT := Lib.hid htt
  clear htt
  go_enter Try.func55, Try.ntmps55
  go_wp2_with fail
  with_reducible refine CB.out.mono ?_
  rintro e w2 ⟨rfl, rfl⟩
  go_wp2_with fail
  with_reducible refine CA.out.mono ?_
  rintro e w2 ⟨⟨hh, rfl⟩ | ⟨k, hk, he, rfl⟩, rfl⟩
  · by_cases h24 : D.L.length = 1024
    · have HQ := Lib.hid (HFULL.out (.inl ⟨hh, h24⟩))
      have d4 : ((D.L.length : Int) == 1024) = true := by simp; omega
      have d4' : (D.L.length == 1024) = true := by simp [h24]
      go_wp2_with fail
      go_quiet (fail)
      replace HQ := Lib.hid (HQ.out.below (below_drewN (Below.refl _ _) nq))
      go_wp2_with fail
      go_ret
      exact HQ.out
    have d4 : ((D.L.length : Int) == 1024) = false := by simp; omega
    have d4' : (D.L.length == 1024) = false := by simp [h24]
    by_cases hrm : D.room < tt
    · have d5 : decide (D.room < tt) = true := decide_eq_true hrm
      have HQ := Lib.hid (HFULL.out (.inr (by have := HTT.out; omega)))
      go_wp2_with fail
      go_quiet ((go_at_call 65; exact CZ.out _))
      replace HQ := Lib.hid (HQ.out.below (below_drewN (Below.refl _ _) nq))
      go_wp2_with fail
      go_ret
      exact HQ.out
    · have d5 : decide (D.room < tt) = false := decide_eq_false hrm
      replace HD := Lib.hid (HD.out (by rintro (⟨-, h1⟩ | h1); exact h24 h1; (have := HTT.out; omega)))
      go_wp2_with fail
      go_quiet ((go_at_call 65; exact CZ.out _))
      obtain ⟨w1, hw1⟩ : ∃ x, x = w.drewN nq := ⟨_, rfl⟩
      have hb1 : Below w.heap.size w w1 := by rw [hw1]; exact below_drewN (Below.refl _ _) nq
      have HI1 := Lib.hid (HI.out.below hb1)
      have HS1 := Lib.hid ((St5.refl r c w).below hb1)
      rw [← hw1]
      clear hw1 hb1 x0 x2 x4
      have CLY := Lib.hid (show Calls Try.prog 84 #[.pointer (some ⟨r, 0, none⟩), .agg #[.string (S nm), .string ⟨#[]⟩, .int .i64 0]] w1 (OpI B r c (.tuple #[]) { D with L := Dk.ins ⟨nm, [], 0⟩ D.L } w1) from rLay5 HI1.out (Nat.le_trans hB HS1.out.2.size) ⟨nm, [], 0⟩ (by exact hh) hnb (Nat.le_refl _) (by have := hfew; omega) (by exact hsm))
      have HH := Lib.hid hh
      clear hh
      go_wp2_with fail
      with_reducible refine CLY.out.mono ?_
      rintro e w2 ⟨rfl, c2, hI2, hf2, hw2⟩
      have HI2 := Lib.hid hI2
      have HS2 := Lib.hid (HS1.out.trans ⟨hf2, hw2⟩)
      have CA2 := Lib.hid (rAt5 hI2 nm)
      clear hI2 hf2 hw2 CLY
      go_wp2_with fail
      with_reducible refine CA2.out.mono ?_
      rintro e w3 ⟨⟨hh2, rfl⟩ | ⟨k, hk, he, rfl⟩, rfl⟩
      · exfalso
        have h8 : Dk.has nm (Dk.ins ⟨nm, [], 0⟩ D.L) = true := Dk.has_iff.2 ⟨⟨nm, [], 0⟩, Dk.mem_ins.2 (.inl rfl), rfl⟩
        rw [show Dk.has nm (Dk.ins ⟨nm, [], 0⟩ D.L) = false from hh2] at h8
        cases h8
      have HA0 := Lib.hid (Dk.appAt_new (s := s) HI.out.ok hnb HH.out hk he).1
      obtain ⟨dt, hdt⟩ : ∃ x, x = ((Dk.ins ⟨nm, [], 0⟩ D.L)[k]'hk).dat := ⟨_, rfl⟩
      obtain ⟨sf, hsf⟩ : ∃ x, x = ((Dk.ins ⟨nm, [], 0⟩ D.L)[k]'hk).safe := ⟨_, rfl⟩
      have HA := Lib.hid (show Dk.AppAt nm s D.L (Dk.ins ⟨nm, [], 0⟩ D.L) k nm dt sf from by rw [hdt, hsf]; exact HA0.out)
      clear he hdt hsf HA0
      have x4 := HI2.out.box.cell 4
      have hlt2 : k < ((Dk.ins ⟨nm, [], 0⟩ D.L)).length := HA.out.lt
      have hat : ((Dk.ins ⟨nm, [], 0⟩ D.L))[k] = ⟨nm, dt, sf⟩ := by have := HA.out.at_; rw [show ((Dk.ins ⟨nm, [], 0⟩ D.L)).getD k Dk.fl0 = ((Dk.ins ⟨nm, [], 0⟩ D.L))[k] from by simp [List.getD, hlt2]] at this; exact this
      obtain ⟨g, hg, -, y1, -⟩ := row_file5 HI2.out.row rfl (by exact hlt2)
      have y1' : w2.cell? ⟨g, k * 3 + 1, none⟩ = some (.string (S dt)) := by rw [show S dt = S (((Dk.ins ⟨nm, [], 0⟩ D.L))[k]).dat from by rw [hat]]; exact y1
      obtain ⟨n1, hn1⟩ : ∃ x, x = ((Dk.ins ⟨nm, [], 0⟩ D.L)).length := ⟨_, rfl⟩
      have x4n : w2.cell? ⟨r, 4, none⟩ = some (.slice (some ⟨g, 0, none⟩) n1 c2.c) := by have : w2.cell? ⟨r, 4, none⟩ = some (.slice c2.a ((Dk.ins ⟨nm, [], 0⟩ D.L)).length c2.c) := HI2.out.box.cell 4; rw [hg, ← hn1] at this; exact this
      have HSH := Lib.hid (fun wx (hb : Below w2.heap.size w2 wx) => (show wx.cell? ⟨r, 4, none⟩ = some (.slice (some ⟨g, 0, none⟩) n1 c2.c) ∧ wx.cell? ⟨g, k * 3 + 1, none⟩ = some (.string (S dt)) from ⟨(hb.cell (p := ⟨r, 4, none⟩) (cell_lt5 x4n)).trans x4n, (hb.cell (p := ⟨g, k * 3 + 1, none⟩) (cell_lt5 y1')).trans y1'⟩))
      have hsz1 : Dk.size (((Dk.ins ⟨nm, [], 0⟩ D.L)).set k ⟨nm, dt ++ s, sf⟩) ≤ 1048576 := by rw [HA.out.size]; have := HTT.out; omega
      have HST := Lib.hid (fun wx (hb : Below w2.heap.size w2 wx) => (HI2.out.below hb).setFile (v := .int .i64 0) (by exact hlt2) hg 1 (by decide) (.string (S (dt ++ s))) ⟨nm, dt ++ s, sf⟩ (by show (fl3 ((Dk.ins ⟨nm, [], 0⟩ D.L))[k]).set 1 _ = _; rw [hat]; rfl) (by exact HA.out.ok) (by exact hsz1))
      have hi1 : (0 : Int) ≤ (k : Int) := by omega
      have hi2 : (k : Int) < (n1 : Int) := by omega
      have hdl : (dt ++ s).length ≤ 1048576 := Nat.le_trans (by have := Dk.mem_size HA.out.ok (List.mem_iff_getElem.2 ⟨k, by rw [List.length_set]; exact hlt2, by rw [List.getElem_set_self]⟩); exact this) hsz1
      have hdl2 : dt.length + s.length ≤ 1048576 := by rw [List.length_append] at hdl; exact hdl
      clear x4 y1 hat hn1 hg hlt2 hsz1 y1'
      go_upto_region 11 with fail
      have HB := Lib.hid (Below.refl w2.heap.size w2).drew
      refine wp_region_Z (S := fun V => V.cell? ⟨r, 4, none⟩ = some (.slice (some ⟨g, 0, none⟩) n1 c2.c) ∧ V.cell? ⟨g, k * 3 + 1, none⟩ = some (.string (S dt))) 17 (by kernel_rfl) ?_ (fun hHeld => ?_)
      · exact HSH.out _ HB.out
      obtain ⟨wd, hwd⟩ : ∃ x, x = World.drew w2 := ⟨_, rfl⟩
      rw [← hwd] at HB hHeld ⊢
      clear hwd x4n
      refine wpAnyZ_takeY (i := 0) (oi := { dst := some 48, op := Op.move (Operand.tmp 0), type := 28, pos := "ref.go:90", after := #[], guard := none }) (v := ?_) rfl (by kernel_rfl) (by kernel_rfl) (by kernel_rfl) (by rfl) (fun _ _ _ h => h) (Or.inl ⟨by rfl, ?_⟩) (by assumption) ?_
      rotate_left
      · (intro w; go_simp); (first | done | with_reducible rfl)
      try simp only [Act.put, List.setIfInBounds_toArray, List.set_cons_zero, List.set_cons_succ]
      refine wpAnyZ_takeY (i := 1) (oi := { dst := some 49, op := Op.nilCheck (Operand.tmp 48), type := 0, pos := "ref.go:90", after := #[{ on := 0, ground := Ground.data }], guard := none }) (v := ?_) rfl (by kernel_rfl) (by kernel_rfl) (by kernel_rfl) (by rfl) (fun _ _ _ h => h) (Or.inl ⟨by rfl, ?_⟩) (by assumption) ?_
      rotate_left
      · (intro w; go_simp); (first | done | with_reducible rfl)
      try simp only [Act.put, List.setIfInBounds_toArray, List.set_cons_zero, List.set_cons_succ]
      refine wpAnyZ_takeY (i := 2) (oi := { dst := some 50, op := Op.fieldAddr 91 (Operand.tmp 49) 4, type := 0, pos := "ref.go:90", after := #[{ on := 1, ground := Ground.data }], guard := none }) (v := ?_) rfl (by kernel_rfl) (by kernel_rfl) (by kernel_rfl) (by rfl) (fun _ _ _ h => h) (Or.inl ⟨by rfl, ?_⟩) (by assumption) ?_
      rotate_left
      · (intro w; go_simp); (first | done | with_reducible rfl)
      try simp only [Act.put, List.setIfInBounds_toArray, List.set_cons_zero, List.set_cons_succ]
      refine wpAnyZ_take (i := 3) (oi := { dst := some 51, op := Op.load 89 (Operand.tmp 50), type := 89, pos := "ref.go:90", after := #[{ on := 2, ground := Ground.data }], guard := none }) (v := ?_) [15, 16, 17] rfl (by kernel_rfl) (by kernel_rfl) (by kernel_rfl) (by kernel_rfl) (fun _ _ _ h => h) (Or.inl ⟨by rfl, ?_⟩) (by assumption) ?_
      rotate_left
      · (intro w hSw; (try dsimp only at hSw); go_simp); (first | done | with_reducible rfl)
      try simp only [Act.put, List.setIfInBounds_toArray, List.set_cons_zero, List.set_cons_succ]
      refine wpAnyZ_takeY (i := 4) (oi := { dst := some 52, op := Op.move (Operand.tmp 7), type := 3, pos := "ref.go:90", after := #[], guard := none }) (v := ?_) rfl (by kernel_rfl) (by kernel_rfl) (by kernel_rfl) (by rfl) (fun _ _ _ h => h) (Or.inl ⟨by rfl, ?_⟩) (by assumption) ?_
      rotate_left
      · (intro w; go_simp); (first | done | with_reducible rfl)
      try simp only [Act.put, List.setIfInBounds_toArray, List.set_cons_zero, List.set_cons_succ]
      refine wpAnyZ_takeY (i := 5) (oi := { dst := some 53, op := Op.move (Operand.tmp 0), type := 28, pos := "ref.go:90", after := #[], guard := none }) (v := ?_) rfl (by kernel_rfl) (by kernel_rfl) (by kernel_rfl) (by rfl) (fun _ _ _ h => h) (Or.inl ⟨by rfl, ?_⟩) (by assumption) ?_
      rotate_left
      · (intro w; go_simp); (first | done | with_reducible rfl)
      try simp only [Act.put, List.setIfInBounds_toArray, List.set_cons_zero, List.set_cons_succ]
      refine wpAnyZ_takeY (i := 6) (oi := { dst := some 54, op := Op.nilCheck (Operand.tmp 53), type := 0, pos := "ref.go:90", after := #[{ on := 5, ground := Ground.data }], guard := none }) (v := ?_) rfl (by kernel_rfl) (by kernel_rfl) (by kernel_rfl) (by rfl) (fun _ _ _ h => h) (Or.inl ⟨by rfl, ?_⟩) (by assumption) ?_
      rotate_left
      · (intro w; go_simp); (first | done | with_reducible rfl)
      try simp only [Act.put, List.setIfInBounds_toArray, List.set_cons_zero, List.set_cons_succ]
      refine wpAnyZ_takeY (i := 7) (oi := { dst := some 55, op := Op.fieldAddr 91 (Operand.tmp 54) 4, type := 0, pos := "ref.go:90", after := #[{ on := 6, ground := Ground.data }], guard := none }) (v := ?_) rfl (by kernel_rfl) (by kernel_rfl) (by kernel_rfl) (by rfl) (fun _ _ _ h => h) (Or.inl ⟨by rfl, ?_⟩) (by assumption) ?_
      rotate_left
      · (intro w; go_simp); (first | done | with_reducible rfl)
      try simp only [Act.put, List.setIfInBounds_toArray, List.set_cons_zero, List.set_cons_succ]
      refine wpAnyZ_take (i := 8) (oi := { dst := some 56, op := Op.load 89 (Operand.tmp 55), type := 89, pos := "ref.go:90", after := #[{ on := 7, ground := Ground.data }], guard := none }) (v := ?_) [10, 11, 12, 14, 15, 16, 17] rfl (by kernel_rfl) (by kernel_rfl) (by kernel_rfl) (by kernel_rfl) (fun _ _ _ h => h) (Or.inl ⟨by rfl, ?_⟩) (by assumption) ?_
      rotate_left
      · (intro w hSw; (try dsimp only at hSw); go_simp); (first | done | with_reducible rfl)
      try simp only [Act.put, List.setIfInBounds_toArray, List.set_cons_zero, List.set_cons_succ]
      refine wpAnyZ_takeY (i := 9) (oi := { dst := some 57, op := Op.move (Operand.tmp 7), type := 3, pos := "ref.go:90", after := #[], guard := none }) (v := ?_) rfl (by kernel_rfl) (by kernel_rfl) (by kernel_rfl) (by rfl) (fun _ _ _ h => h) (Or.inl ⟨by rfl, ?_⟩) (by assumption) ?_
      rotate_left
      · (intro w; go_simp); (first | done | with_reducible rfl)
      try simp only [Act.put, List.setIfInBounds_toArray, List.set_cons_zero, List.set_cons_succ]
      refine wpAnyZ_takeY (i := 10) (oi := { dst := some 58, op := Op.indexAddr 89 (Operand.tmp 56) (Operand.tmp 57), type := 0, pos := "ref.go:90", after := #[{ on := 8, ground := Ground.data }, { on := 9, ground := Ground.data }], guard := none }) (v := ?_) rfl (by kernel_rfl) (by kernel_rfl) (by kernel_rfl) (by rfl) (fun _ _ _ h => h) (Or.inl ⟨by rfl, ?_⟩) (by assumption) ?_
      rotate_left
      · (intro w; go_simp); (first | done | with_reducible rfl)
      try simp only [Act.put, List.setIfInBounds_toArray, List.set_cons_zero, List.set_cons_succ]
      refine wpAnyZ_takeY (i := 11) (oi := { dst := some 59, op := Op.fieldAddr 95 (Operand.tmp 58) 1, type := 0, pos := "ref.go:90", after := #[{ on := 10, ground := Ground.data }], guard := none }) (v := ?_) rfl (by kernel_rfl) (by kernel_rfl) (by kernel_rfl) (by rfl) (fun _ _ _ h => h) (Or.inl ⟨by rfl, ?_⟩) (by assumption) ?_
      rotate_left
      · (intro w; go_simp); (first | done | with_reducible rfl)
      try simp only [Act.put, List.setIfInBounds_toArray, List.set_cons_zero, List.set_cons_succ]
      refine wpAnyZ_take (i := 12) (oi := { dst := some 60, op := Op.load 9 (Operand.tmp 59), type := 9, pos := "ref.go:90", after := #[{ on := 11, ground := Ground.data }], guard := none }) (v := ?_) [14, 15, 16, 17] rfl (by kernel_rfl) (by kernel_rfl) (by kernel_rfl) (by kernel_rfl) (fun _ _ _ h => h) (Or.inl ⟨by rfl, ?_⟩) (by assumption) ?_
      rotate_left
      · (intro w hSw; (try dsimp only at hSw); go_simp); (first | done | with_reducible rfl)
      try simp only [Act.put, List.setIfInBounds_toArray, List.set_cons_zero, List.set_cons_succ]
      refine wpAnyZ_takeY (i := 13) (oi := { dst := some 61, op := Op.move (Operand.tmp 2), type := 9, pos := "ref.go:90", after := #[], guard := none }) (v := ?_) rfl (by kernel_rfl) (by kernel_rfl) (by kernel_rfl) (by rfl) (fun _ _ _ h => h) (Or.inl ⟨by rfl, ?_⟩) (by assumption) ?_
      rotate_left
      · (intro w; go_simp); (first | done | with_reducible rfl)
      try simp only [Act.put, List.setIfInBounds_toArray, List.set_cons_zero, List.set_cons_succ]
      refine wpAnyZ_takeY (i := 14) (oi := { dst := some 62, op := Op.binOp BinOp.add 9 (Operand.tmp 60) (Operand.tmp 61) 9, type := 9, pos := "ref.go:90", after := #[{ on := 12, ground := Ground.data }, { on := 13, ground := Ground.data }], guard := none }) (v := ?_) rfl (by kernel_rfl) (by kernel_rfl) (by kernel_rfl) (by rfl) (fun _ _ _ h => h) (Or.inl ⟨by rfl, ?_⟩) (by assumption) ?_
      rotate_left
      · (intro w; go_simp; rw [if_neg (by omega)])
      try simp only [Act.put, List.setIfInBounds_toArray, List.set_cons_zero, List.set_cons_succ]
      refine wpAnyZ_takeY (i := 15) (oi := { dst := some 63, op := Op.indexAddr 89 (Operand.tmp 51) (Operand.tmp 52), type := 0, pos := "ref.go:90", after := #[{ on := 3, ground := Ground.data }, { on := 4, ground := Ground.data }, { on := 0, ground := Ground.phase }, { on := 1, ground := Ground.phase }, { on := 2, ground := Ground.phase }, { on := 3, ground := Ground.phase }, { on := 4, ground := Ground.phase }, { on := 5, ground := Ground.phase }, { on := 6, ground := Ground.phase }, { on := 7, ground := Ground.phase }, { on := 8, ground := Ground.phase }, { on := 9, ground := Ground.phase }, { on := 10, ground := Ground.phase }, { on := 11, ground := Ground.phase }, { on := 12, ground := Ground.phase }, { on := 13, ground := Ground.phase }, { on := 14, ground := Ground.phase }], guard := none }) (v := ?_) rfl (by kernel_rfl) (by kernel_rfl) (by kernel_rfl) (by rfl) (fun _ _ _ h => h) (Or.inl ⟨by rfl, ?_⟩) (by assumption) ?_
      rotate_left
      · (intro w; go_simp); (first | done | with_reducible rfl)
      try simp only [Act.put, List.setIfInBounds_toArray, List.set_cons_zero, List.set_cons_succ]
      refine wpAnyZ_takeY (i := 16) (oi := { dst := some 64, op := Op.fieldAddr 95 (Operand.tmp 63) 1, type := 0, pos := "ref.go:90", after := #[{ on := 15, ground := Ground.data }, { on := 0, ground := Ground.phase }, { on := 1, ground := Ground.phase }, { on := 2, ground := Ground.phase }, { on := 3, ground := Ground.phase }, { on := 4, ground := Ground.phase }, { on := 5, ground := Ground.phase }, { on := 6, ground := Ground.phase }, { on := 7, ground := Ground.phase }, { on := 8, ground := Ground.phase }, { on := 9, ground := Ground.phase }, { on := 10, ground := Ground.phase }, { on := 11, ground := Ground.phase }, { on := 12, ground := Ground.phase }, { on := 13, ground := Ground.phase }, { on := 14, ground := Ground.phase }], guard := none }) (v := ?_) rfl (by kernel_rfl) (by kernel_rfl) (by kernel_rfl) (by rfl) (fun _ _ _ h => h) (Or.inl ⟨by rfl, ?_⟩) (by assumption) ?_
      rotate_left
      · (intro w; go_simp); (first | done | with_reducible rfl)
      try simp only [Act.put, List.setIfInBounds_toArray, List.set_cons_zero, List.set_cons_succ]
      refine wpAnyZ_ready (rs := [17]) (by kernel_rfl) (by simp) ?_
      refine AllReadyZ.last (o := { dst := none, op := Op.store 9 (Operand.tmp 64) (Operand.tmp 62), type := 0, pos := "ref.go:90", after := #[{ on := 16, ground := Ground.data }, { on := 14, ground := Ground.data }, { on := 0, ground := Ground.phase }, { on := 1, ground := Ground.phase }, { on := 2, ground := Ground.phase }, { on := 3, ground := Ground.phase }, { on := 4, ground := Ground.phase }, { on := 5, ground := Ground.phase }, { on := 6, ground := Ground.phase }, { on := 7, ground := Ground.phase }, { on := 8, ground := Ground.phase }, { on := 9, ground := Ground.phase }, { on := 10, ground := Ground.phase }, { on := 11, ground := Ground.phase }, { on := 12, ground := Ground.phase }, { on := 13, ground := Ground.phase }, { on := 14, ground := Ground.phase }], guard := none }) rfl (fun K hK => ?_) AllReadyZ.nil
      have f0 := (HST.out _ HB.out).2
      have m0 := (HSH.out _ HB.out).2
      go_simp
      refine hK.out _ _ ?_
      clear hK K
      refine wpAny_done (by kernel_rfl) ?_ _
      obtain ⟨_, c3, hI3, hf3, hw3⟩ := (HST.out _ HB.out).1
      obtain ⟨D2, hD2⟩ : ∃ x, x = ({ D with L := Dk.put ⟨nm, (Dk.get nm D.L).dat ++ s, (Dk.get nm D.L).safe⟩ D.L } : Dk.St) := ⟨_, rfl⟩
      have hI3' : RfIn B r c3 D2 (wd.setCell ⟨g, k * 3 + 1, none⟩ (.string (S (dt ++ s)))) := by rw [hD2, HA.out.put]; exact hI3
      have HS3 := Lib.hid ((HS2.out.below HB.out).trans ⟨hf3, hw3⟩)
      rw [← hD2] at HD
      have hsd : D2.set = D.set := by rw [hD2]
      have hud : D2.up = true := by rw [hD2]; exact hu
      have HI3 := Lib.hid hI3'
      clear hI3 hf3 hw3 hD2 hI3' f0 m0 hHeld HST HSH
      generalize wd.setCell ⟨g, k * 3 + 1, none⟩ (.string (S (dt ++ s))) = w3 at *
      have CLA := Lib.hid (rLast5 HI3.out (by rw [hsd]; exact HN.out))
      go_wp2_with fail
      with_reducible refine CLA.out.mono ?_
      rintro e w4 (⟨hs, rfl, rfl⟩ | ⟨n, ks, hs, rfl, ho⟩ | ⟨ks, hs, rfl, hck, hW, hwr⟩)
      · have HQ := Lib.hid (show OpI B r c (.int .i64 (Dk.append nm s D).1) (Dk.append nm s D).2 w (.returned (.int .i64 0)) w3 from by
          rw [HD.out]; unfold Dk.chg; rw [Dk.struck_no hs]; exact ⟨rfl, c3, HI3.out, HS3.out.1, HS3.out.2⟩)
        go_wp2_with fail
        go_ret
        exact HQ.out
      · have HQ := Lib.hid (show OpI B r c (.int .i64 (Dk.append nm s D).1) (Dk.append nm s D).2 w (.returned (.int .i64 0)) w4 from by
          rw [HD.out]
          have e1 : Dk.struck D2 = (false, { D2 with set := some (n, ks) }) := by unfold Dk.struck; rw [hs]
          unfold Dk.chg; rw [e1]
          obtain ⟨_, c5, p1, p2, p3⟩ := ho
          have hS := HS3.out.trans ⟨p2, p3⟩
          exact ⟨rfl, c5, p1, hS.1, hS.2⟩)
        clear ho
        go_wp2_with fail
        go_ret
        exact HQ.out
      · obtain ⟨hk1, hk2⟩ := hW.keepAt
        simp only at hk1 hk2
        rw [hck] at hk1 hk2
        have x6 : w4.cell? ⟨r, 6, none⟩ = some (.slice c3.ka c3.ks.length c3.kc) := hW.box.cell 6
        rw [hck] at x6
        have CC := Lib.hid (rCrashW5 hW hud ks c3.ka c3.kc (HK.out _ (by rw [← hsd]; exact hs)) hk1 hk2)
        have HQ := Lib.hid (show ∀ e w5, OpI B r { c3 with n := -1 } (.int .i64 0) (Dk.fall ks D2) w4 e w5 → OpI B r c (.int .i64 (Dk.append nm s D).1) (Dk.append nm s D).2 w (.returned (.int .i64 51)) w5 from fun e w5 ⟨_, c5, p1, p2, p3⟩ => by
          rw [HD.out]
          have e1 : Dk.struck D2 = (true, Dk.fall ks D2) := by unfold Dk.struck; rw [hs]
          unfold Dk.chg; rw [e1]
          have hS := HS3.out.trans (show St5 r c3 w3 c5 w5 from ⟨fun b hb => by
            rcases p2 b hb with h | h
            · exact .inl h
            · exact .inr (Nat.le_trans hwr.size h), hwr.step p3 (fun x hx => .inl hx)⟩)
          exact ⟨rfl, c5, p1, hS.1, hS.2⟩)
        clear hW hwr hk1 hk2
        go_wp2_with fail
        with_reducible refine CC.out.mono ?_
        rintro e w5 ho
        have HQ2 := Lib.hid (HQ.out _ _ ho)
        obtain ⟨rfl, -⟩ := ho
        go_wp2_with fail
        go_ret
        exact HQ2.out
  · have d3 : decide ((k : Int) < (0 : Int)) = false := decide_eq_false (by omega)
    by_cases hrm : D.room < tt
    · have d5 : decide (D.room < tt) = true := decide_eq_true hrm
      have HQ := Lib.hid (HFULL.out (.inr (by have := HTT.out; omega)))
      go_wp2_with fail
      go_quiet ((go_at_call 65; exact CZ.out _))
      replace HQ := Lib.hid (HQ.out.below (below_drewN (Below.refl _ _) nq))
      go_wp2_with fail
      go_ret
      exact HQ.out
    · have d5 : decide (D.room < tt) = false := decide_eq_false hrm
      replace HD := Lib.hid (HD.out (by rintro (⟨h1, -⟩ | h1); (rw [(get_at5 HI.out.ok hk he).2] at h1; cases h1); (have := HTT.out; omega)))
      have HA0 := Lib.hid (Dk.appAt_has (s := s) HI.out.ok hnb hk he)
      obtain ⟨dt, hdt⟩ : ∃ x, x = (D.L[k]).dat := ⟨_, rfl⟩
      obtain ⟨sf, hsf⟩ : ∃ x, x = (D.L[k]).safe := ⟨_, rfl⟩
      have HA := Lib.hid (show Dk.AppAt nm s D.L D.L k nm dt sf from by rw [hdt, hsf]; exact HA0.out)
      clear he hdt hsf HA0
      go_wp2_with fail
      go_quiet ((go_at_call 65; exact CZ.out _))
      obtain ⟨w2, hw2⟩ : ∃ x, x = w.drewN nq := ⟨_, rfl⟩
      have hb2 : Below w.heap.size w w2 := by rw [hw2]; exact below_drewN (Below.refl _ _) nq
      obtain ⟨c2, hc2⟩ : ∃ x, x = c := ⟨_, rfl⟩
      have HI2 := Lib.hid (show RfIn B r c2 { D with L := D.L } w2 from by rw [hc2]; exact HI.out.below hb2)
      have HS2 := Lib.hid (show St5 r c w c2 w2 from by rw [hc2]; exact (St5.refl r c w).below hb2)
      rw [← hw2]
      clear hw2 hb2 hc2 x0 x2
      have hlt2 : k < (D.L).length := HA.out.lt
      have hat : (D.L)[k] = ⟨nm, dt, sf⟩ := by have := HA.out.at_; rw [show (D.L).getD k Dk.fl0 = (D.L)[k] from by simp [List.getD, hlt2]] at this; exact this
      obtain ⟨g, hg, -, y1, -⟩ := row_file5 HI2.out.row rfl (by exact hlt2)
      have y1' : w2.cell? ⟨g, k * 3 + 1, none⟩ = some (.string (S dt)) := by rw [show S dt = S ((D.L)[k]).dat from by rw [hat]]; exact y1
      obtain ⟨n1, hn1⟩ : ∃ x, x = (D.L).length := ⟨_, rfl⟩
      have x4n : w2.cell? ⟨r, 4, none⟩ = some (.slice (some ⟨g, 0, none⟩) n1 c2.c) := by have : w2.cell? ⟨r, 4, none⟩ = some (.slice c2.a (D.L).length c2.c) := HI2.out.box.cell 4; rw [hg, ← hn1] at this; exact this
      have HSH := Lib.hid (fun wx (hb : Below w2.heap.size w2 wx) => (show wx.cell? ⟨r, 4, none⟩ = some (.slice (some ⟨g, 0, none⟩) n1 c2.c) ∧ wx.cell? ⟨g, k * 3 + 1, none⟩ = some (.string (S dt)) from ⟨(hb.cell (p := ⟨r, 4, none⟩) (cell_lt5 x4n)).trans x4n, (hb.cell (p := ⟨g, k * 3 + 1, none⟩) (cell_lt5 y1')).trans y1'⟩))
      have hsz1 : Dk.size ((D.L).set k ⟨nm, dt ++ s, sf⟩) ≤ 1048576 := by rw [HA.out.size]; have := HTT.out; omega
      have HST := Lib.hid (fun wx (hb : Below w2.heap.size w2 wx) => (HI2.out.below hb).setFile (v := .int .i64 0) (by exact hlt2) hg 1 (by decide) (.string (S (dt ++ s))) ⟨nm, dt ++ s, sf⟩ (by show (fl3 (D.L)[k]).set 1 _ = _; rw [hat]; rfl) (by exact HA.out.ok) (by exact hsz1))
      have hi1 : (0 : Int) ≤ (k : Int) := by omega
      have hi2 : (k : Int) < (n1 : Int) := by omega
      have hdl : (dt ++ s).length ≤ 1048576 := Nat.le_trans (by have := Dk.mem_size HA.out.ok (List.mem_iff_getElem.2 ⟨k, by rw [List.length_set]; exact hlt2, by rw [List.getElem_set_self]⟩); exact this) hsz1
      have hdl2 : dt.length + s.length ≤ 1048576 := by rw [List.length_append] at hdl; exact hdl
      clear x4 y1 hat hn1 hg hlt2 hsz1 y1'
      go_upto_region 11 with fail
      have HB := Lib.hid (Below.refl w2.heap.size w2).drew
      refine wp_region_Z (S := fun V => V.cell? ⟨r, 4, none⟩ = some (.slice (some ⟨g, 0, none⟩) n1 c2.c) ∧ V.cell? ⟨g, k * 3 + 1, none⟩ = some (.string (S dt))) 17 (by kernel_rfl) ?_ (fun hHeld => ?_)
      · exact HSH.out _ HB.out
      obtain ⟨wd, hwd⟩ : ∃ x, x = World.drew w2 := ⟨_, rfl⟩
      rw [← hwd] at HB hHeld ⊢
      clear hwd x4n
      refine wpAnyZ_takeY (i := 0) (oi := { dst := some 48, op := Op.move (Operand.tmp 0), type := 28, pos := "ref.go:90", after := #[], guard := none }) (v := ?_) rfl (by kernel_rfl) (by kernel_rfl) (by kernel_rfl) (by rfl) (fun _ _ _ h => h) (Or.inl ⟨by rfl, ?_⟩) (by assumption) ?_
      rotate_left
      · (intro w; go_simp); (first | done | with_reducible rfl)
      try simp only [Act.put, List.setIfInBounds_toArray, List.set_cons_zero, List.set_cons_succ]
      refine wpAnyZ_takeY (i := 1) (oi := { dst := some 49, op := Op.nilCheck (Operand.tmp 48), type := 0, pos := "ref.go:90", after := #[{ on := 0, ground := Ground.data }], guard := none }) (v := ?_) rfl (by kernel_rfl) (by kernel_rfl) (by kernel_rfl) (by rfl) (fun _ _ _ h => h) (Or.inl ⟨by rfl, ?_⟩) (by assumption) ?_
      rotate_left
      · (intro w; go_simp); (first | done | with_reducible rfl)
      try simp only [Act.put, List.setIfInBounds_toArray, List.set_cons_zero, List.set_cons_succ]
      refine wpAnyZ_takeY (i := 2) (oi := { dst := some 50, op := Op.fieldAddr 91 (Operand.tmp 49) 4, type := 0, pos := "ref.go:90", after := #[{ on := 1, ground := Ground.data }], guard := none }) (v := ?_) rfl (by kernel_rfl) (by kernel_rfl) (by kernel_rfl) (by rfl) (fun _ _ _ h => h) (Or.inl ⟨by rfl, ?_⟩) (by assumption) ?_
      rotate_left
      · (intro w; go_simp); (first | done | with_reducible rfl)
      try simp only [Act.put, List.setIfInBounds_toArray, List.set_cons_zero, List.set_cons_succ]
      refine wpAnyZ_take (i := 3) (oi := { dst := some 51, op := Op.load 89 (Operand.tmp 50), type := 89, pos := "ref.go:90", after := #[{ on := 2, ground := Ground.data }], guard := none }) (v := ?_) [15, 16, 17] rfl (by kernel_rfl) (by kernel_rfl) (by kernel_rfl) (by kernel_rfl) (fun _ _ _ h => h) (Or.inl ⟨by rfl, ?_⟩) (by assumption) ?_
      rotate_left
      · (intro w hSw; (try dsimp only at hSw); go_simp); (first | done | with_reducible rfl)
      try simp only [Act.put, List.setIfInBounds_toArray, List.set_cons_zero, List.set_cons_succ]
      refine wpAnyZ_takeY (i := 4) (oi := { dst := some 52, op := Op.move (Operand.tmp 7), type := 3, pos := "ref.go:90", after := #[], guard := none }) (v := ?_) rfl (by kernel_rfl) (by kernel_rfl) (by kernel_rfl) (by rfl) (fun _ _ _ h => h) (Or.inl ⟨by rfl, ?_⟩) (by assumption) ?_
      rotate_left
      · (intro w; go_simp); (first | done | with_reducible rfl)
      try simp only [Act.put, List.setIfInBounds_toArray, List.set_cons_zero, List.set_cons_succ]
      refine wpAnyZ_takeY (i := 5) (oi := { dst := some 53, op := Op.move (Operand.tmp 0), type := 28, pos := "ref.go:90", after := #[], guard := none }) (v := ?_) rfl (by kernel_rfl) (by kernel_rfl) (by kernel_rfl) (by rfl) (fun _ _ _ h => h) (Or.inl ⟨by rfl, ?_⟩) (by assumption) ?_
      rotate_left
      · (intro w; go_simp); (first | done | with_reducible rfl)
      try simp only [Act.put, List.setIfInBounds_toArray, List.set_cons_zero, List.set_cons_succ]
      refine wpAnyZ_takeY (i := 6) (oi := { dst := some 54, op := Op.nilCheck (Operand.tmp 53), type := 0, pos := "ref.go:90", after := #[{ on := 5, ground := Ground.data }], guard := none }) (v := ?_) rfl (by kernel_rfl) (by kernel_rfl) (by kernel_rfl) (by rfl) (fun _ _ _ h => h) (Or.inl ⟨by rfl, ?_⟩) (by assumption) ?_
      rotate_left
      · (intro w; go_simp); (first | done | with_reducible rfl)
      try simp only [Act.put, List.setIfInBounds_toArray, List.set_cons_zero, List.set_cons_succ]
      refine wpAnyZ_takeY (i := 7) (oi := { dst := some 55, op := Op.fieldAddr 91 (Operand.tmp 54) 4, type := 0, pos := "ref.go:90", after := #[{ on := 6, ground := Ground.data }], guard := none }) (v := ?_) rfl (by kernel_rfl) (by kernel_rfl) (by kernel_rfl) (by rfl) (fun _ _ _ h => h) (Or.inl ⟨by rfl, ?_⟩) (by assumption) ?_
      rotate_left
      · (intro w; go_simp); (first | done | with_reducible rfl)
      try simp only [Act.put, List.setIfInBounds_toArray, List.set_cons_zero, List.set_cons_succ]
      refine wpAnyZ_take (i := 8) (oi := { dst := some 56, op := Op.load 89 (Operand.tmp 55), type := 89, pos := "ref.go:90", after := #[{ on := 7, ground := Ground.data }], guard := none }) (v := ?_) [10, 11, 12, 14, 15, 16, 17] rfl (by kernel_rfl) (by kernel_rfl) (by kernel_rfl) (by kernel_rfl) (fun _ _ _ h => h) (Or.inl ⟨by rfl, ?_⟩) (by assumption) ?_
      rotate_left
      · (intro w hSw; (try dsimp only at hSw); go_simp); (first | done | with_reducible rfl)
      try simp only [Act.put, List.setIfInBounds_toArray, List.set_cons_zero, List.set_cons_succ]
      refine wpAnyZ_takeY (i := 9) (oi := { dst := some 57, op := Op.move (Operand.tmp 7), type := 3, pos := "ref.go:90", after := #[], guard := none }) (v := ?_) rfl (by kernel_rfl) (by kernel_rfl) (by kernel_rfl) (by rfl) (fun _ _ _ h => h) (Or.inl ⟨by rfl, ?_⟩) (by assumption) ?_
      rotate_left
      · (intro w; go_simp); (first | done | with_reducible rfl)
      try simp only [Act.put, List.setIfInBounds_toArray, List.set_cons_zero, List.set_cons_succ]
      refine wpAnyZ_takeY (i := 10) (oi := { dst := some 58, op := Op.indexAddr 89 (Operand.tmp 56) (Operand.tmp 57), type := 0, pos := "ref.go:90", after := #[{ on := 8, ground := Ground.data }, { on := 9, ground := Ground.data }], guard := none }) (v := ?_) rfl (by kernel_rfl) (by kernel_rfl) (by kernel_rfl) (by rfl) (fun _ _ _ h => h) (Or.inl ⟨by rfl, ?_⟩) (by assumption) ?_
      rotate_left
      · (intro w; go_simp); (first | done | with_reducible rfl)
      try simp only [Act.put, List.setIfInBounds_toArray, List.set_cons_zero, List.set_cons_succ]
      refine wpAnyZ_takeY (i := 11) (oi := { dst := some 59, op := Op.fieldAddr 95 (Operand.tmp 58) 1, type := 0, pos := "ref.go:90", after := #[{ on := 10, ground := Ground.data }], guard := none }) (v := ?_) rfl (by kernel_rfl) (by kernel_rfl) (by kernel_rfl) (by rfl) (fun _ _ _ h => h) (Or.inl ⟨by rfl, ?_⟩) (by assumption) ?_
      rotate_left
      · (intro w; go_simp); (first | done | with_reducible rfl)
      try simp only [Act.put, List.setIfInBounds_toArray, List.set_cons_zero, List.set_cons_succ]
      refine wpAnyZ_take (i := 12) (oi := { dst := some 60, op := Op.load 9 (Operand.tmp 59), type := 9, pos := "ref.go:90", after := #[{ on := 11, ground := Ground.data }], guard := none }) (v := ?_) [14, 15, 16, 17] rfl (by kernel_rfl) (by kernel_rfl) (by kernel_rfl) (by kernel_rfl) (fun _ _ _ h => h) (Or.inl ⟨by rfl, ?_⟩) (by assumption) ?_
      rotate_left
      · (intro w hSw; (try dsimp only at hSw); go_simp); (first | done | with_reducible rfl)
      try simp only [Act.put, List.setIfInBounds_toArray, List.set_cons_zero, List.set_cons_succ]
      refine wpAnyZ_takeY (i := 13) (oi := { dst := some 61, op := Op.move (Operand.tmp 2), type := 9, pos := "ref.go:90", after := #[], guard := none }) (v := ?_) rfl (by kernel_rfl) (by kernel_rfl) (by kernel_rfl) (by rfl) (fun _ _ _ h => h) (Or.inl ⟨by rfl, ?_⟩) (by assumption) ?_
      rotate_left
      · (intro w; go_simp); (first | done | with_reducible rfl)
      try simp only [Act.put, List.setIfInBounds_toArray, List.set_cons_zero, List.set_cons_succ]
      refine wpAnyZ_takeY (i := 14) (oi := { dst := some 62, op := Op.binOp BinOp.add 9 (Operand.tmp 60) (Operand.tmp 61) 9, type := 9, pos := "ref.go:90", after := #[{ on := 12, ground := Ground.data }, { on := 13, ground := Ground.data }], guard := none }) (v := ?_) rfl (by kernel_rfl) (by kernel_rfl) (by kernel_rfl) (by rfl) (fun _ _ _ h => h) (Or.inl ⟨by rfl, ?_⟩) (by assumption) ?_
      rotate_left
      · (intro w; go_simp; rw [if_neg (by omega)])
      try simp only [Act.put, List.setIfInBounds_toArray, List.set_cons_zero, List.set_cons_succ]
      refine wpAnyZ_takeY (i := 15) (oi := { dst := some 63, op := Op.indexAddr 89 (Operand.tmp 51) (Operand.tmp 52), type := 0, pos := "ref.go:90", after := #[{ on := 3, ground := Ground.data }, { on := 4, ground := Ground.data }, { on := 0, ground := Ground.phase }, { on := 1, ground := Ground.phase }, { on := 2, ground := Ground.phase }, { on := 3, ground := Ground.phase }, { on := 4, ground := Ground.phase }, { on := 5, ground := Ground.phase }, { on := 6, ground := Ground.phase }, { on := 7, ground := Ground.phase }, { on := 8, ground := Ground.phase }, { on := 9, ground := Ground.phase }, { on := 10, ground := Ground.phase }, { on := 11, ground := Ground.phase }, { on := 12, ground := Ground.phase }, { on := 13, ground := Ground.phase }, { on := 14, ground := Ground.phase }], guard := none }) (v := ?_) rfl (by kernel_rfl) (by kernel_rfl) (by kernel_rfl) (by rfl) (fun _ _ _ h => h) (Or.inl ⟨by rfl, ?_⟩) (by assumption) ?_
      rotate_left
      · (intro w; go_simp); (first | done | with_reducible rfl)
      try simp only [Act.put, List.setIfInBounds_toArray, List.set_cons_zero, List.set_cons_succ]
      refine wpAnyZ_takeY (i := 16) (oi := { dst := some 64, op := Op.fieldAddr 95 (Operand.tmp 63) 1, type := 0, pos := "ref.go:90", after := #[{ on := 15, ground := Ground.data }, { on := 0, ground := Ground.phase }, { on := 1, ground := Ground.phase }, { on := 2, ground := Ground.phase }, { on := 3, ground := Ground.phase }, { on := 4, ground := Ground.phase }, { on := 5, ground := Ground.phase }, { on := 6, ground := Ground.phase }, { on := 7, ground := Ground.phase }, { on := 8, ground := Ground.phase }, { on := 9, ground := Ground.phase }, { on := 10, ground := Ground.phase }, { on := 11, ground := Ground.phase }, { on := 12, ground := Ground.phase }, { on := 13, ground := Ground.phase }, { on := 14, ground := Ground.phase }], guard := none }) (v := ?_) rfl (by kernel_rfl) (by kernel_rfl) (by kernel_rfl) (by rfl) (fun _ _ _ h => h) (Or.inl ⟨by rfl, ?_⟩) (by assumption) ?_
      rotate_left
      · (intro w; go_simp); (first | done | with_reducible rfl)
      try simp only [Act.put, List.setIfInBounds_toArray, List.set_cons_zero, List.set_cons_succ]
      refine wpAnyZ_ready (rs := [17]) (by kernel_rfl) (by simp) ?_
      refine AllReadyZ.last (o := { dst := none, op := Op.store 9 (Operand.tmp 64) (Operand.tmp 62), type := 0, pos := "ref.go:90", after := #[{ on := 16, ground := Ground.data }, { on := 14, ground := Ground.data }, { on := 0, ground := Ground.phase }, { on := 1, ground := Ground.phase }, { on := 2, ground := Ground.phase }, { on := 3, ground := Ground.phase }, { on := 4, ground := Ground.phase }, { on := 5, ground := Ground.phase }, { on := 6, ground := Ground.phase }, { on := 7, ground := Ground.phase }, { on := 8, ground := Ground.phase }, { on := 9, ground := Ground.phase }, { on := 10, ground := Ground.phase }, { on := 11, ground := Ground.phase }, { on := 12, ground := Ground.phase }, { on := 13, ground := Ground.phase }, { on := 14, ground := Ground.phase }], guard := none }) rfl (fun K hK => ?_) AllReadyZ.nil
      have f0 := (HST.out _ HB.out).2
      have m0 := (HSH.out _ HB.out).2
      go_simp
      refine hK.out _ _ ?_
      clear hK K
      refine wpAny_done (by kernel_rfl) ?_ _
      obtain ⟨_, c3, hI3, hf3, hw3⟩ := (HST.out _ HB.out).1
      obtain ⟨D2, hD2⟩ : ∃ x, x = ({ D with L := Dk.put ⟨nm, (Dk.get nm D.L).dat ++ s, (Dk.get nm D.L).safe⟩ D.L } : Dk.St) := ⟨_, rfl⟩
      have hI3' : RfIn B r c3 D2 (wd.setCell ⟨g, k * 3 + 1, none⟩ (.string (S (dt ++ s)))) := by rw [hD2, HA.out.put]; exact hI3
      have HS3 := Lib.hid ((HS2.out.below HB.out).trans ⟨hf3, hw3⟩)
      rw [← hD2] at HD
      have hsd : D2.set = D.set := by rw [hD2]
      have hud : D2.up = true := by rw [hD2]; exact hu
      have HI3 := Lib.hid hI3'
      clear hI3 hf3 hw3 hD2 hI3' f0 m0 hHeld HST HSH
      generalize wd.setCell ⟨g, k * 3 + 1, none⟩ (.string (S (dt ++ s))) = w3 at *
      have CLA := Lib.hid (rLast5 HI3.out (by rw [hsd]; exact HN.out))
      go_wp2_with fail
      with_reducible refine CLA.out.mono ?_
      rintro e w4 (⟨hs, rfl, rfl⟩ | ⟨n, ks, hs, rfl, ho⟩ | ⟨ks, hs, rfl, hck, hW, hwr⟩)
      · have HQ := Lib.hid (show OpI B r c (.int .i64 (Dk.append nm s D).1) (Dk.append nm s D).2 w (.returned (.int .i64 0)) w3 from by
          rw [HD.out]; unfold Dk.chg; rw [Dk.struck_no hs]; exact ⟨rfl, c3, HI3.out, HS3.out.1, HS3.out.2⟩)
        go_wp2_with fail
        go_ret
        exact HQ.out
      · have HQ := Lib.hid (show OpI B r c (.int .i64 (Dk.append nm s D).1) (Dk.append nm s D).2 w (.returned (.int .i64 0)) w4 from by
          rw [HD.out]
          have e1 : Dk.struck D2 = (false, { D2 with set := some (n, ks) }) := by unfold Dk.struck; rw [hs]
          unfold Dk.chg; rw [e1]
          obtain ⟨_, c5, p1, p2, p3⟩ := ho
          have hS := HS3.out.trans ⟨p2, p3⟩
          exact ⟨rfl, c5, p1, hS.1, hS.2⟩)
        clear ho
        go_wp2_with fail
        go_ret
        exact HQ.out
      · obtain ⟨hk1, hk2⟩ := hW.keepAt
        simp only at hk1 hk2
        rw [hck] at hk1 hk2
        have x6 : w4.cell? ⟨r, 6, none⟩ = some (.slice c3.ka c3.ks.length c3.kc) := hW.box.cell 6
        rw [hck] at x6
        have CC := Lib.hid (rCrashW5 hW hud ks c3.ka c3.kc (HK.out _ (by rw [← hsd]; exact hs)) hk1 hk2)
        have HQ := Lib.hid (show ∀ e w5, OpI B r { c3 with n := -1 } (.int .i64 0) (Dk.fall ks D2) w4 e w5 → OpI B r c (.int .i64 (Dk.append nm s D).1) (Dk.append nm s D).2 w (.returned (.int .i64 51)) w5 from fun e w5 ⟨_, c5, p1, p2, p3⟩ => by
          rw [HD.out]
          have e1 : Dk.struck D2 = (true, Dk.fall ks D2) := by unfold Dk.struck; rw [hs]
          unfold Dk.chg; rw [e1]
          have hS := HS3.out.trans (show St5 r c3 w3 c5 w5 from ⟨fun b hb => by
            rcases p2 b hb with h | h
            · exact .inl h
            · exact .inr (Nat.le_trans hwr.size h), hwr.step p3 (fun x hx => .inl hx)⟩)
          exact ⟨rfl, c5, p1, hS.1, hS.2⟩)
        clear hW hwr hk1 hk2
        go_wp2_with fail
        with_reducible refine CC.out.mono ?_
        rintro e w5 ho
        have HQ2 := Lib.hid (HQ.out _ _ ho)
        obtain ⟨rfl, -⟩ := ho
        go_wp2_with fail
        go_ret
        exact HQ2.out
end

end Go.Proofs.Ytekmnpmeienhhaa

/- Layer 5: an act, by the document; a disk and the document's side by side. -/
namespace Go.Proofs.Ytekmnpmeienhhaa
set_option linter.unusedVariables false
open Go Go.RowKit Go.Maps

section
variable {B r : Nat} {c : Rc} {D : Dk.St} {w w' : World}
set_option maxRecDepth 100000 in
set_option maxHeartbeats 4000000 in
theorem said5 (h : RfIn B r c D w) (hB : B ≤ w.heap.size) (hO : Dk.Ok D) (hrB : B ≤ r) (x : Ra) (hx : RaIn x) (hk : NsA5 w x.o x.keep) (hkB : ∀ y, x.keep ≠ [] → x.o = some y → y.block < B) (hs : D.starts ≤ 1000000000) :
    Calls Try.prog 21 #[.pointer (some ⟨r, 0, none⟩), .agg #[.int .u8 x.kind, .string (S x.name), .string (S x.other), .string (S x.data), .int .i64 x.n, .slice x.o x.keep.length x.k]] w (OpI B r c (.int .i64 (Dk.act x D).1) (Dk.act x D).2 w) := by
  have hb := (Below.refl w.heap.size w).alloc (Nat.le_refl _) (.cells #[.int .u8 x.kind, .string (S x.name), .string (S x.other), .string (S x.data), .int .i64 x.n, .slice x.o x.keep.length x.k] 34)
  have h' := h.below hb
  have hB' := Nat.le_trans hB hb.size
  have hk' := hk.below hb
  have hkr : ∀ y, x.keep ≠ [] → x.o = some y → y.block ≠ r ∧ ∀ z, c.a = some z → y.block ≠ z.block := fun y hn hy => by
    have h1 := hkB y hn hy
    refine ⟨fun e => by omega, fun z hz e => ?_⟩
    have h2 := (h.fr z.block (.inr (.inl ⟨z, hz, rfl⟩))).1
    rcases h2 with q | q <;> omega
  have FIN := Lib.hid (fun (q : Int × Dk.St) (e : Ending) (w2 : World) (ho : OpI B r c (.int .i64 q.1) q.2 (w.alloc (.cells #[.int .u8 x.kind, .string (S x.name), .string (S x.other), .string (S x.data), .int .i64 x.n, .slice x.o x.keep.length x.k] 34)) e w2) => (show OpI B r c (.int .i64 q.1) q.2 w e w2 from by
    obtain ⟨e1, c1, p1, p2, p3⟩ := ho
    refine ⟨e1, c1, p1, fun b hb2 => ?_, (wr_below hb).trans p3⟩
    rcases p2 b hb2 with q | q
    · exact .inl q
    · exact .inr (Nat.le_trans hb.size q)))
  have C1 := Lib.hid (rSync5 h' x.name hO.n hO.k)
  have C2 := Lib.hid (rRename5 h' hB' x.name x.other hx.other hO.n hO.k)
  have C3 := Lib.hid (rRemove5 h' hB' x.name hO.n hO.k)
  have C4 := Lib.hid (rCrash5 h' x.keep x.o x.k hx.keep hk' hkr)
  have C5 := Lib.hid (rStart5 h' hs)
  have C6 := Lib.hid (rFail5 h' hB' x.n hx.n x.keep x.o x.k hx.keep hk' (fun y hn hy => (hkr y hn hy).1))
  have C7 := Lib.hid (rAppend5 h' hB' x.name x.data hx.name hx.data hO.most hO.n hO.k)
  obtain ⟨hk0, hk1⟩ := hx.kind
  clear h h' hB hB' hk hk' hkB hkr hb hs hx hO hrB
  obtain ⟨m, hm, hlt⟩ : ∃ m : Nat, x.kind % 12 = (m : Int) ∧ m < 12 := ⟨(x.kind % 12).toNat, by omega, by omega⟩
  have HD := Lib.hid (show Dk.act x D = if (m : Int) = 4 ∨ (m : Int) = 5 then Dk.sync x.name D else if (m : Int) = 6 then Dk.rename x.name x.other D else if (m : Int) = 7 then Dk.remove x.name D else if (m : Int) = 8 then Dk.crash x.keep D else if (m : Int) = 9 ∨ (m : Int) = 10 then Dk.start D else if (m : Int) = 11 then Dk.fail x.n x.keep D else Dk.append x.name x.data D from by unfold Dk.act; rw [hm])
  have hcs : m = 0 ∨ m = 1 ∨ m = 2 ∨ m = 3 ∨ m = 4 ∨ m = 5 ∨ m = 6 ∨ m = 7 ∨ m = 8 ∨ m = 9 ∨ m = 10 ∨ m = 11 := by omega
  clear hlt
  rcases hcs with rfl | rfl | rfl | rfl | rfl | rfl | rfl | rfl | rfl | rfl | rfl | rfl
  all_goals
    go_enter Try.func21, Try.ntmps21
    go_wp2_with fail
    with_reducible first
      | refine C1.out.mono ?_
      | refine C2.out.mono ?_
      | refine C3.out.mono ?_
      | refine C4.out.mono ?_
      | refine C5.out.mono ?_
      | refine C6.out.mono ?_
      | refine C7.out.mono ?_
    rintro e w2 hR
    have HR := Lib.hid (FIN.out _ _ _ hR)
    obtain ⟨rfl, -⟩ := hR
    go_wp2_with fail
    go_ret
    rw [HD.out]
    exact HR.out
end
/-- A disk, and the document's, and blocks that neither has. -/
def Pl5 (P : Nat → Prop) (B a r : Nat) (D Dr : Dk.St) (w : World) : Prop := ∃ F c, DkAt B F a D w ∧ RfIn B r c Dr w ∧ B ≤ r ∧ (∀ k, Fr r c k → ¬ F k ∧ ¬ P k) ∧ (∀ k, P k → ¬ F k) ∧ (∀ k, P k → k < w.heap.size) ∧ B ≤ w.heap.size
section
variable {P P' : Nat → Prop} {B a r : Nat} {D Dr : Dk.St} {w w' : World}
theorem Pl5.ok (h : Pl5 P B a r D Dr w) : Dk.Ok D := by obtain ⟨F, c, h1, _⟩ := h; exact h1.ok
theorem Pl5.size (h : Pl5 P B a r D Dr w) : B ≤ w.heap.size := by obtain ⟨_, _, _, _, _, _, _, _, q⟩ := h; exact q
theorem Pl5.below (h : Pl5 P B a r D Dr w) (hb : Below w.heap.size w w') : Pl5 P B a r D Dr w' := by
  obtain ⟨F, c, h1, h2, h3, h4, h5, h6, h7⟩ := h
  exact ⟨F, c, h1.below hb, h2.below hb, h3, h4, h5, fun k hk => Nat.lt_of_lt_of_le (h6 k hk) hb.size, Nat.le_trans h7 hb.size⟩
theorem Pl5.less (h : Pl5 P B a r D Dr w) (hP : ∀ k, P' k → P k) : Pl5 P' B a r D Dr w := by
  obtain ⟨F, c, h1, h2, h3, h4, h5, h6, h7⟩ := h
  exact ⟨F, c, h1, h2, h3, fun k hk => ⟨(h4 k hk).1, fun q => (h4 k hk).2 (hP k q)⟩, fun k hk => h5 k (hP k hk), fun k hk => h6 k (hP k hk), h7⟩
theorem Pl5.newrow (h : Pl5 P B a r D Dr w) (hb : Below w.heap.size w w') : Pl5 (fun q => P q ∨ (w.heap.size ≤ q ∧ q < w'.heap.size)) B a r D Dr w' := by
  obtain ⟨F, c, h1, h2, h3, h4, h5, h6, h7⟩ := h
  have f1 := h1.fp
  refine ⟨F, c, h1.below hb, h2.below hb, h3, fun k hk => ⟨(h4 k hk).1, fun q => ?_⟩, fun k hk hf => ?_, fun k hk => ?_, Nat.le_trans h7 hb.size⟩
  · rcases q with q | q
    · exact (h4 k hk).2 q
    · have := (h2.fr k hk).2; omega
  · rcases hk with hk | hk
    · exact h5 k hk hf
    · have := (f1 k hf).2; omega
  · rcases hk with hk | hk
    · exact Nat.lt_of_lt_of_le (h6 k hk) hb.size
    · exact hk.2
theorem Pl5.tell (h : Pl5 P B a r D Dr w) : ∃ X, DkX X B a D w := by
  obtain ⟨F, c, h1, h2, h3, h4, h5, h6, h7⟩ := h
  exact ⟨fun _ => False, F, h1, fun _ _ q => q⟩
theorem Pl5.ref (h : Pl5 P B a r D Dr w) : ∃ c, RfIn B r c Dr w := by
  obtain ⟨F, c, h1, h2, _⟩ := h
  exact ⟨c, h2⟩
theorem Pl5.done (h : Pl5 P B a r D Dr w) (x : Ra) (hx : RaIn x) (hk : NsA5 w x.o x.keep) (hkB : ∀ y, x.keep ≠ [] → x.o = some y → P y.block ∨ y.block < B) (hs : D.starts ≤ 1000000000) :
    Calls Try.prog 20 #[.pointer (some ⟨a, 0, none⟩), .agg #[.int .u8 x.kind, .string (S x.name), .string (S x.other), .string (S x.data), .int .i64 x.n, .slice x.o x.keep.length x.k]] w fun e w' => e = .returned (.int .i64 (Dk.act x D).1) ∧ Pl5 P B a r (Dk.act x D).2 Dr w' ∧ Wr (fun k => B ≤ k ∧ ¬ P k) w w' := by
  obtain ⟨F, c, h1, h2, h3, h4, h5, h6, h7⟩ := h
  have hX : DkX (fun k => Fr r c k ∨ P k) B a D w := ⟨F, h1, fun k hk hx => hx.elim (fun q => (h4 k q).1 hk) (fun q => h5 k q hk)⟩
  refine (done5 hX (fun k hk => hk.elim (fun q => (h2.fr k q).2) (h6 k)) h7 x hx hk (fun y hn hy => (hkB y hn hy).elim (fun q => .inl (.inr q)) .inr) hs).mono ?_
  rintro e w' ⟨q1, ⟨F', q2, q3⟩, q4⟩
  exact ⟨q1, ⟨F', c, q2, h2.wr q4 (fun b hb ha => ha.2 (.inl hb)), h3, fun k hk => ⟨fun hf => q3 k hf (.inl hk), (h4 k hk).2⟩, fun k hk hf => q3 k hf (.inr hk), fun k hk => Nat.lt_of_lt_of_le (h6 k hk) q4.size, Nat.le_trans h7 q4.size⟩, q4.mono (fun k hk => .inl ⟨hk.1, fun hp => hk.2 (.inr hp)⟩)⟩
theorem Pl5.said (h : Pl5 P B a r D Dr w) (hO : Dk.Ok Dr) (x : Ra) (hx : RaIn x) (hk : NsA5 w x.o x.keep) (hkB : ∀ y, x.keep ≠ [] → x.o = some y → y.block < B) (hs : Dr.starts ≤ 1000000000) :
    Calls Try.prog 21 #[.pointer (some ⟨r, 0, none⟩), .agg #[.int .u8 x.kind, .string (S x.name), .string (S x.other), .string (S x.data), .int .i64 x.n, .slice x.o x.keep.length x.k]] w fun e w' => e = .returned (.int .i64 (Dk.act x Dr).1) ∧ Pl5 P B a r D (Dk.act x Dr).2 w' ∧ Wr (fun k => B ≤ k ∧ ¬ P k) w w' := by
  obtain ⟨F, c, h1, h2, h3, h4, h5, h6, h7⟩ := h
  have f1 := h1.fp
  refine (said5 h2 h7 hO h3 x hx hk hkB hs).mono ?_
  rintro e w' ⟨q1, c', q2, q3, q4⟩
  refine ⟨q1, ⟨F, c', h1.wr q4 (fun b hb ha => (h4 b ha).1 hb), q2, h3, fun k hk => ?_, h5, fun k hk => Nat.lt_of_lt_of_le (h6 k hk) q4.size, Nat.le_trans h7 q4.size⟩, q4.mono (fun k hk => .inl ⟨?_, (h4 k hk).2⟩)⟩
  · rcases q3 k hk with q | q
    · exact h4 k q
    · exact ⟨fun hf => by have := (f1 k hf).2; omega, fun hp => by have := h6 k hp; omega⟩
  · rcases (h2.fr k hk).1 with q | q
    · omega
    · exact q
end

end Go.Proofs.Ytekmnpmeienhhaa
