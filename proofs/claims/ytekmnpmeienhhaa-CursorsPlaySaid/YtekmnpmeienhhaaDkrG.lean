/- Layer 5: the document's disk: Crash. -/
import Derived.Test.YtekmnpmeienhhaaDkrF
import Derived.BigQuiet
namespace Go.Proofs.Ytekmnpmeienhhaa
set_option linter.unusedVariables false
open Go Go.RowKit Go.Maps

theorem row_storeN5 {w : World} {B sz : Nat} {e : TypeId} {g n cap : Nat} {xs : List Value} (h : w.ownsRow B e sz (.slice (some ⟨g, 0, none⟩) n cap) n xs) (j : Nat) (v : Value) :
    (w.setCell ⟨g, j, none⟩ v).ownsRow B e sz (.slice (some ⟨g, 0, none⟩) n cap) n (xs.set j v) ∧ w.frozen? ⟨g, j, none⟩ = false := by
  rcases h.2 with ⟨e', _⟩ | ⟨g', cap', cur, e', hB, hg, hc, hm, hs, ht⟩
  · cases e'
  · injection e' with e1 e2 e3
    injection e1 with e1
    injection e1 with e1
    subst e1; subst e3
    have hr : Bk cur e w g := hg
    refine ⟨⟨by rw [List.length_set]; exact h.1, .inr ⟨g, cap, cur.setIfInBounds j v, rfl, hB, hr.set j v, hc, hm, by simpa using hs, ?_⟩⟩, hr.free j⟩
    rw [← ht, Array.toList_setIfInBounds, List.take_set]
theorem setCell_other5 {w : World} {a b : Addr} {v u : Value} (h : w.cell? b = some u) (hne : b.block ≠ a.block) : (w.setCell a v).cell? b = some u := by
  rw [← h]
  exact World.cell?_of_block (a := b) (Below.heap_setCell _ _ _ _ hne)
/-- What a crash keeps, file by file. -/
structure CwI (w : World) (B r : Nat) (c : Rc) (D : Dk.St) (ks : List Int) (ao : Option Addr) (k : Nat) (wr : World) : Prop where
  box : Bk (rfC c (Dk.fall ks D)) 91 wr r
  row : wr.ownsRow B 95 3 (.slice c.a D.L.length c.c) D.L.length (flsV (Dk.mix ks D.L k))
  krow : wr.ownsRow B 3 1 (.slice c.ka c.ks.length c.kc) c.ks.length (ints5 c.ks)
  wro : Wr (Fr r c) w wr
  keep : NsA5 wr ao ks
section
variable {w wr wr' : World} {B r k : Nat} {c : Rc} {D : Dk.St} {ks : List Int} {ao : Option Addr}
theorem CwI.below (h : CwI w B r c D ks ao k wr) (hb : Below wr.heap.size wr wr') : CwI w B r c D ks ao k wr' := ⟨h.box.below hb, row_below5 h.row hb, row_below5 h.krow hb, h.wro.trans (wr_below hb), h.keep.below hb⟩
theorem CwI.file (h : CwI w B r c D ks ao k wr) (hk : k < D.L.length) : ∃ g, c.a = some ⟨g, 0, none⟩ ∧ wr.cell? ⟨g, k * 3, none⟩ = some (.string (S (D.L[k]).name)) ∧ wr.cell? ⟨g, k * 3 + 1, none⟩ = some (.string (S (D.L[k]).dat)) ∧ wr.cell? ⟨g, k * 3 + 2, none⟩ = some (.int .i64 (D.L[k]).safe) := by
  obtain ⟨h1, h2⟩ := Dk.mix_at ks D.L hk
  have := row_file5 h.row (Dk.mix_len ks D.L k) h1
  rw [h2] at this
  exact this
/-- .. the next one is cut. -/
theorem CwI.next (h : CwI w B r c D ks ao k wr) (hk : k < D.L.length) {g : Nat} (hg : c.a = some ⟨g, 0, none⟩) (hkg : ∀ x, ks ≠ [] → ao = some x → x.block ≠ g) (st : Nat) (hst : Dk.left D.L[k] (ks.getD k 0) = ⟨(D.L[k]).name, (D.L[k]).dat.take st, st⟩) :
    CwI w B r c D ks ao (k + 1) ((wr.setCell ⟨g, k * 3 + 1, none⟩ (.string (S ((D.L[k]).dat.take st)))).setCell ⟨g, k * 3 + 2, none⟩ (.int .i64 (st : Int))) := by
  obtain ⟨h1, h2⟩ := Dk.mix_at ks D.L hk
  have hr := h.row
  rw [hg] at hr
  have s1 := (row_storeN5 (row_storeN5 hr (k * 3 + 1) (.string (S ((D.L[k]).dat.take st)))).1 (k * 3 + 2) (.int .i64 (st : Int))).1
  have e1 : ((flsV (Dk.mix ks D.L k)).set (k * 3 + 1) (.string (S ((D.L[k]).dat.take st)))).set (k * 3 + 2) (.int .i64 (st : Int)) = flsV (Dk.mix ks D.L (k + 1)) := by
    rw [flsV_set _ k h1 1 (by decide) _ ⟨(D.L[k]).name, (D.L[k]).dat.take st, (D.L[k]).safe⟩ (by rw [h2]; rfl)]
    rw [flsV_set _ k (by rw [List.length_set]; exact h1) 2 (by decide) _ ⟨(D.L[k]).name, (D.L[k]).dat.take st, st⟩ (by rw [List.getElem_set_self]; rfl)]
    rw [List.set_set, ← hst, Dk.mix_set ks D.L hk]
  rw [e1] at s1
  have hne := fun (q : Nat) (hq : (Value.slice (some ⟨g, 0, none⟩) D.L.length c.c).ownBlock = some q) => bk_row h.box hr (by decide) q hq
  have hgr : r ≠ g := fun e => hne g rfl e.symm
  have hw := (wr_set (A := fun x => x = g) wr ⟨g, k * 3 + 1, none⟩ (.string (S ((D.L[k]).dat.take st))) rfl).trans (wr_set (A := fun x => x = g) _ ⟨g, k * 3 + 2, none⟩ (.int .i64 (st : Int)) rfl)
  refine ⟨(h.box.other hgr _ _).other hgr _ _, by rw [hg]; exact s1, row_wr h.krow hw (fun q hq e => ?_), h.wro.trans (hw.mono (fun x hx => .inl (.inr (.inl ⟨_, hg, hx⟩)))), h.keep.wr (A := fun x => x = g) hw (fun x hn hx e => hkg x hn hx e)⟩
  rcases hr.2 with ⟨e', _⟩ | ⟨g', cap', cur, e', hB, hgg, _⟩
  · cases e'
  · injection e' with e1 _ _
    injection e1 with e1
    injection e1 with e1
    have hbk : Bk cur 95 wr g := by rw [e1]; exact hgg
    exact bk_row hbk h.krow (by decide) q hq e
end
set_option maxRecDepth 100000 in
set_option maxHeartbeats 8000000 in
theorem rCrashW5 {B r : Nat} {c : Rc} {sb : Bool} {D : Dk.St} {w : World} (h : RfW B r c sb D w) (hu : D.up = true) (ks : List Int) (ao : Option Addr) (cap : Nat) (hK : Dk.KsOk ks) (hk : NsA5 w ao ks) (hkr : ∀ x, ks ≠ [] → ao = some x → x.block ≠ r ∧ ∀ y, c.a = some y → x.block ≠ y.block) :
    Calls Try.prog 53 #[.pointer (some ⟨r, 0, none⟩), .slice ao ks.length cap] w (OpI B r c (.int .i64 0) (Dk.fall ks D) w) := by
  have x2 : w.cell? ⟨r, 2, none⟩ = some (.bool (!D.up)) := h.box.cell 2
  rw [hu] at x2
  have f2 := h.box.free 2
  have f3 := (h.box.set 2 (.bool true)).free 3
  have x3 : (w.setCell ⟨r, 2, none⟩ (.bool true)).cell? ⟨r, 3, none⟩ = some (.bool sb) := (h.box.set 2 (.bool true)).cell 3
  have hbx : Bk (rfC c (Dk.fall ks D)) 91 ((w.setCell ⟨r, 2, none⟩ (.bool true)).setCell ⟨r, 3, none⟩ (.bool false)) r := by
    have := (h.box.set 2 (.bool true)).set 3 (.bool false)
    have e9 : rfC c (Dk.fall ks D) = (#[.int .i64 D.room, .int .i64 D.starts, .bool (!D.up), .bool sb, .slice c.a D.L.length c.c, .int .i64 c.n, .slice c.ka c.ks.length c.kc].setIfInBounds 2 (.bool true)).setIfInBounds 3 (.bool false) := by
      unfold rfC Dk.fall
      simp only [Dk.cut_len]
      rfl
    rw [e9]; exact this
  have hw := (wr_set (A := fun k => k = r) w ⟨r, 2, none⟩ (.bool true) rfl).trans (wr_set (A := fun k => k = r) _ ⟨r, 3, none⟩ (.bool false) rfl)
  obtain ⟨w2, hw2⟩ : ∃ x, x = (w.setCell ⟨r, 2, none⟩ (.bool true)).setCell ⟨r, 3, none⟩ (.bool false) := ⟨_, rfl⟩
  rw [← hw2] at hbx hw
  have H0 := Lib.hid (show CwI w B r c D ks ao 0 w2 from ⟨hbx, row_wr (by rw [Dk.mix_zero]; exact h.row) hw (fun q hq e => bk_row h.box h.row (by decide) q hq e), row_wr h.krow hw (fun q hq e => bk_row h.box h.krow (by decide) q hq e), hw.mono (fun x hx => .inl (.inl hx)), hk.wr (A := fun x => x = r) hw (fun x hn hx e => (hkr x hn hx).1 e)⟩)
  have HO := Lib.hid h.ok
  have hfew := h.few
  have HZ := Lib.hid h.small
  have HKR := Lib.hid hkr
  have hkl := hK.len
  have HKO := Lib.hid hK.at_
  clear h hk hkr hbx hw hK
  go_enter Try.func53, Try.ntmps53
  go_upto_region 5 with fail
  rw [← hw2]
  clear hw2 x2 x3 f2 f3
  go_wp2_with fail
  go_loopw [5] (fun v wr => ∃ k : Nat, k ≤ D.L.length ∧ v = .int .i64 k ∧ Hid (CwI w B r c D ks ao k wr)) (fun v _ => D.L.length - (intOf v).toNat)
  case atStart => exact ⟨0, Nat.zero_le _, rfl, H0⟩
  case round =>
    clear H0
    obtain ⟨wz, rfl⟩ : ∃ x, x = wr := ⟨_, rfl⟩
    obtain ⟨k, hk, rfl, HH⟩ := hrel
    have x4 : wz.cell? ⟨r, 4, none⟩ = some (.slice c.a (Dk.cut ks D.L).length c.c) := HH.out.box.cell 4
    rw [Dk.cut_len] at x4
    by_cases hlt : k < D.L.length
    · have d1 : decide ((k : Int) < (D.L.length : Int)) = true := decide_eq_true (by omega)
      have d1' : decide (k < D.L.length) = true := decide_eq_true hlt
      obtain ⟨g, hg, -, y1, y2⟩ := HH.out.file hlt
      rw [hg] at x4
      have hi1 : (0 : Int) ≤ (k : Int) := by omega
      have hi2 : (k : Int) < (D.L.length : Int) := by omega
      have hs := HO.out.safe _ (List.getElem_mem hlt)
      have hz := Nat.le_trans (Dk.mem_size HO.out (List.getElem_mem hlt)) HZ.out
      have HNX := Lib.hid (fun wx (hx : CwI w B r c D ks ao k wx) st hst => hx.next hlt hg (fun x hn hx2 => (HKR.out x hn hx2).2 _ hg) st hst)
      have HFR := Lib.hid (fun wx (hx : CwI w B r c D ks ao k wx) => (show wx.frozen? ⟨g, k * 3 + 1, none⟩ = false ∧ (∀ v, (wx.setCell ⟨g, k * 3 + 1, none⟩ v).frozen? ⟨g, k * 3 + 2, none⟩ = false ∧ (wx.setCell ⟨g, k * 3 + 1, none⟩ v).cell? ⟨r, 4, none⟩ = some (.slice (some ⟨g, 0, none⟩) D.L.length c.c)) from by
        have hr := hx.row
        rw [hg] at hr
        have hne : r ≠ g := fun e => bk_row hx.box hr (by decide) g rfl e.symm
        have hx4 : wx.cell? ⟨r, 4, none⟩ = some (.slice c.a (Dk.cut ks D.L).length c.c) := hx.box.cell 4
        rw [Dk.cut_len, hg] at hx4
        exact ⟨(row_storeN5 hr (k * 3 + 1) (.int .i64 0)).2, fun v => ⟨(row_storeN5 (row_storeN5 hr (k * 3 + 1) v).1 (k * 3 + 2) (.int .i64 0)).2, setCell_other5 hx4 hne⟩⟩))
      have HCE := Lib.hid (fun wx (hx : CwI w B r c D ks ao k wx) => (show wx.cell? ⟨r, 4, none⟩ = some (.slice (some ⟨g, 0, none⟩) D.L.length c.c) ∧ wx.cell? ⟨g, k * 3 + 1, none⟩ = some (.string (S (D.L[k]).dat)) ∧ wx.cell? ⟨g, k * 3 + 2, none⟩ = some (.int .i64 (D.L[k]).safe) from by
        have hx4 : wx.cell? ⟨r, 4, none⟩ = some (.slice c.a (Dk.cut ks D.L).length c.c) := hx.box.cell 4
        rw [Dk.cut_len, hg] at hx4
        obtain ⟨g', hg', -, q1, q2⟩ := hx.file hlt
        rw [hg] at hg'
        cases hg'
        exact ⟨hx4, q1, q2⟩))
      have HC2 := Lib.hid (fun wx (hx : CwI w B r c D ks ao k wx) v => (show ∃ u, (wx.setCell ⟨g, k * 3 + 1, none⟩ v).cell? ⟨g, k * 3 + 2, none⟩ = some u from by
        have hr := hx.row
        rw [hg] at hr
        have h2 := (row_storeN5 hr (k * 3 + 1) v).1
        have hlen : k * 3 + 2 < ((flsV (Dk.mix ks D.L k)).set (k * 3 + 1) v).length := by rw [List.length_set, flsV_len, Dk.mix_len]; omega
        have := h2.cells (g := g) rfl (k * 3 + 2) _ (List.getElem?_eq_getElem hlen)
        rw [Addr.add_lit, Nat.zero_add] at this
        exact ⟨_, this⟩))
      have HLF := Lib.hid (fun (st : Nat) (e : st = (D.L[k]).safe + min (ks.getD k 0).toNat ((D.L[k]).dat.length - (D.L[k]).safe)) => (show Dk.left D.L[k] (ks.getD k 0) = ⟨(D.L[k]).name, (D.L[k]).dat.take st, st⟩ from by rw [e]; rfl))
      clear hg
      obtain ⟨fl, hfl⟩ : ∃ x, x = D.L[k] := ⟨_, rfl⟩
      rw [← hfl] at HNX HCE HLF y1 y2 hs hz
      clear hfl
      obtain ⟨fnm, dt, sf⟩ := fl
      simp only at y1 y2 hs hz
      by_cases hkk : k < ks.length
      · have d2 : decide ((k : Int) < (ks.length : Int)) = true := decide_eq_true (by omega)
        have d2' : decide (k < ks.length) = true := decide_eq_true hkk
        obtain ⟨g5, o5, rfl, hc5⟩ := HH.out.keep (fun e => by rw [e] at hkk; simp at hkk)
        have y5 := hc5 k hkk
        have hi5 : (k : Int) < (ks.length : Int) := by omega
        have hkb := HKO.out (ks.getD k 0) (by rw [show ks.getD k 0 = ks[k] from by simp [List.getD, hkk]]; exact List.getElem_mem hkk)
        clear hc5
        generalize ks.getD k 0 = kk at *
        by_cases hp : 0 < kk
        · have d3 : decide ((0 : Int) < kk) = true := decide_eq_true hp
          obtain ⟨nn, hnn⟩ : ∃ nn : Nat, nn = min kk.toNat (dt.length - sf) := ⟨_, rfl⟩
          obtain ⟨st, hst⟩ : ∃ x, x = sf + nn := ⟨_, rfl⟩
          have e1 : IntKind.i64.wrap ((dt.length : Int) - (sf : Int)) = (dt.length : Int) - (sf : Int) := IntWalk.i64_in _ (by omega)
          have e2 : min kk ((dt.length : Int) - (sf : Int)) = (nn : Int) := by omega
          have e3 : IntKind.i64.wrap ((sf : Int) + (nn : Int)) = (st : Int) := by rw [IntWalk.i64_in _ (by omega)]; omega
          have hle : st ≤ dt.length := by omega
          have HL2 := Lib.hid (HLF.out st (by rw [hst, hnn]))
          clear hst hnn
          go_wp2_with fail
          go_quiet (fail)
          replace HH := Lib.hid (HH.out.below (below_drewN (Below.refl _ _) nq))
          generalize wz.drewN nq = wz at *
          clear e1 e2 e3 y5
          have RP := run_piece_to (P := Try.prog) 9 Try.underlying9 dt (st : Int) st rfl hle
          go_upto_region 11 with fail
          replace HH := Lib.hid (HH.out.below (Below.refl _ _).drew)
          refine wp_region_Z (S := fun V => V.cell? ⟨r, 4, none⟩ = some (.slice (some ⟨g, 0, none⟩) D.L.length c.c) ∧ V.cell? ⟨g, k * 3 + 1, none⟩ = some (.string (S dt))) 17 (by kernel_rfl) ?_ (fun hHeld => ?_)
          · exact ⟨(HCE.out _ HH.out).1, (HCE.out _ HH.out).2.1⟩
          obtain ⟨wd, hwd⟩ : ∃ x, x = World.drew wz := ⟨_, rfl⟩
          rw [← hwd] at HH hHeld ⊢
          clear hwd x4 y1 y2
          have q1 : (st : Int) ≤ (dt.length : Int) := by omega
          have q0 : (0 : Int) ≤ (st : Int) := by omega
          refine wpAnyZ_takeY (i := 0) (oi := { dst := some 63, op := Op.move (Operand.tmp 0), type := 28, pos := "ref.go:214", after := #[], guard := none }) (v := ?_) rfl (by kernel_rfl) (by kernel_rfl) (by kernel_rfl) (by rfl) (fun _ _ _ h => h) (Or.inl ⟨by rfl, ?_⟩) (by assumption) ?_
          rotate_left
          · (intro w; go_simp); (first | done | with_reducible rfl)
          try simp only [Act.put, List.setIfInBounds_toArray, List.set_cons_zero, List.set_cons_succ]
          refine wpAnyZ_takeY (i := 1) (oi := { dst := some 64, op := Op.nilCheck (Operand.tmp 63), type := 0, pos := "ref.go:214", after := #[{ on := 0, ground := Ground.data }], guard := none }) (v := ?_) rfl (by kernel_rfl) (by kernel_rfl) (by kernel_rfl) (by rfl) (fun _ _ _ h => h) (Or.inl ⟨by rfl, ?_⟩) (by assumption) ?_
          rotate_left
          · (intro w; go_simp); (first | done | with_reducible rfl)
          try simp only [Act.put, List.setIfInBounds_toArray, List.set_cons_zero, List.set_cons_succ]
          refine wpAnyZ_takeY (i := 2) (oi := { dst := some 65, op := Op.fieldAddr 91 (Operand.tmp 64) 4, type := 0, pos := "ref.go:214", after := #[{ on := 1, ground := Ground.data }], guard := none }) (v := ?_) rfl (by kernel_rfl) (by kernel_rfl) (by kernel_rfl) (by rfl) (fun _ _ _ h => h) (Or.inl ⟨by rfl, ?_⟩) (by assumption) ?_
          rotate_left
          · (intro w; go_simp); (first | done | with_reducible rfl)
          try simp only [Act.put, List.setIfInBounds_toArray, List.set_cons_zero, List.set_cons_succ]
          refine wpAnyZ_take (i := 3) (oi := { dst := some 66, op := Op.load 89 (Operand.tmp 65), type := 89, pos := "ref.go:214", after := #[{ on := 2, ground := Ground.data }], guard := none }) (v := ?_) [15, 16, 17] rfl (by kernel_rfl) (by kernel_rfl) (by kernel_rfl) (by kernel_rfl) (fun _ _ _ h => h) (Or.inl ⟨by rfl, ?_⟩) (by assumption) ?_
          rotate_left
          · (intro w hSw; (try dsimp only at hSw); go_simp); (first | done | with_reducible rfl)
          try simp only [Act.put, List.setIfInBounds_toArray, List.set_cons_zero, List.set_cons_succ]
          refine wpAnyZ_takeY (i := 4) (oi := { dst := some 67, op := Op.move (Operand.tmp 5), type := 3, pos := "ref.go:214", after := #[], guard := none }) (v := ?_) rfl (by kernel_rfl) (by kernel_rfl) (by kernel_rfl) (by rfl) (fun _ _ _ h => h) (Or.inl ⟨by rfl, ?_⟩) (by assumption) ?_
          rotate_left
          · (intro w; go_simp); (first | done | with_reducible rfl)
          try simp only [Act.put, List.setIfInBounds_toArray, List.set_cons_zero, List.set_cons_succ]
          refine wpAnyZ_takeY (i := 5) (oi := { dst := some 68, op := Op.move (Operand.tmp 0), type := 28, pos := "ref.go:214", after := #[], guard := none }) (v := ?_) rfl (by kernel_rfl) (by kernel_rfl) (by kernel_rfl) (by rfl) (fun _ _ _ h => h) (Or.inl ⟨by rfl, ?_⟩) (by assumption) ?_
          rotate_left
          · (intro w; go_simp); (first | done | with_reducible rfl)
          try simp only [Act.put, List.setIfInBounds_toArray, List.set_cons_zero, List.set_cons_succ]
          refine wpAnyZ_takeY (i := 6) (oi := { dst := some 69, op := Op.nilCheck (Operand.tmp 68), type := 0, pos := "ref.go:214", after := #[{ on := 5, ground := Ground.data }], guard := none }) (v := ?_) rfl (by kernel_rfl) (by kernel_rfl) (by kernel_rfl) (by rfl) (fun _ _ _ h => h) (Or.inl ⟨by rfl, ?_⟩) (by assumption) ?_
          rotate_left
          · (intro w; go_simp); (first | done | with_reducible rfl)
          try simp only [Act.put, List.setIfInBounds_toArray, List.set_cons_zero, List.set_cons_succ]
          refine wpAnyZ_takeY (i := 7) (oi := { dst := some 70, op := Op.fieldAddr 91 (Operand.tmp 69) 4, type := 0, pos := "ref.go:214", after := #[{ on := 6, ground := Ground.data }], guard := none }) (v := ?_) rfl (by kernel_rfl) (by kernel_rfl) (by kernel_rfl) (by rfl) (fun _ _ _ h => h) (Or.inl ⟨by rfl, ?_⟩) (by assumption) ?_
          rotate_left
          · (intro w; go_simp); (first | done | with_reducible rfl)
          try simp only [Act.put, List.setIfInBounds_toArray, List.set_cons_zero, List.set_cons_succ]
          refine wpAnyZ_take (i := 8) (oi := { dst := some 71, op := Op.load 89 (Operand.tmp 70), type := 89, pos := "ref.go:214", after := #[{ on := 7, ground := Ground.data }], guard := none }) (v := ?_) [10, 11, 12, 14, 15, 16, 17] rfl (by kernel_rfl) (by kernel_rfl) (by kernel_rfl) (by kernel_rfl) (fun _ _ _ h => h) (Or.inl ⟨by rfl, ?_⟩) (by assumption) ?_
          rotate_left
          · (intro w hSw; (try dsimp only at hSw); go_simp); (first | done | with_reducible rfl)
          try simp only [Act.put, List.setIfInBounds_toArray, List.set_cons_zero, List.set_cons_succ]
          refine wpAnyZ_takeY (i := 9) (oi := { dst := some 72, op := Op.move (Operand.tmp 5), type := 3, pos := "ref.go:214", after := #[], guard := none }) (v := ?_) rfl (by kernel_rfl) (by kernel_rfl) (by kernel_rfl) (by rfl) (fun _ _ _ h => h) (Or.inl ⟨by rfl, ?_⟩) (by assumption) ?_
          rotate_left
          · (intro w; go_simp); (first | done | with_reducible rfl)
          try simp only [Act.put, List.setIfInBounds_toArray, List.set_cons_zero, List.set_cons_succ]
          refine wpAnyZ_takeY (i := 10) (oi := { dst := some 73, op := Op.indexAddr 89 (Operand.tmp 71) (Operand.tmp 72), type := 0, pos := "ref.go:214", after := #[{ on := 8, ground := Ground.data }, { on := 9, ground := Ground.data }], guard := none }) (v := ?_) rfl (by kernel_rfl) (by kernel_rfl) (by kernel_rfl) (by rfl) (fun _ _ _ h => h) (Or.inl ⟨by rfl, ?_⟩) (by assumption) ?_
          rotate_left
          · (intro w; go_simp); (first | done | with_reducible rfl)
          try simp only [Act.put, List.setIfInBounds_toArray, List.set_cons_zero, List.set_cons_succ]
          refine wpAnyZ_takeY (i := 11) (oi := { dst := some 74, op := Op.fieldAddr 95 (Operand.tmp 73) 1, type := 0, pos := "ref.go:214", after := #[{ on := 10, ground := Ground.data }], guard := none }) (v := ?_) rfl (by kernel_rfl) (by kernel_rfl) (by kernel_rfl) (by rfl) (fun _ _ _ h => h) (Or.inl ⟨by rfl, ?_⟩) (by assumption) ?_
          rotate_left
          · (intro w; go_simp); (first | done | with_reducible rfl)
          try simp only [Act.put, List.setIfInBounds_toArray, List.set_cons_zero, List.set_cons_succ]
          refine wpAnyZ_take (i := 12) (oi := { dst := some 75, op := Op.load 9 (Operand.tmp 74), type := 9, pos := "ref.go:214", after := #[{ on := 11, ground := Ground.data }], guard := none }) (v := ?_) [14, 15, 16, 17] rfl (by kernel_rfl) (by kernel_rfl) (by kernel_rfl) (by kernel_rfl) (fun _ _ _ h => h) (Or.inl ⟨by rfl, ?_⟩) (by assumption) ?_
          rotate_left
          · (intro w hSw; (try dsimp only at hSw); go_simp); (first | done | with_reducible rfl)
          try simp only [Act.put, List.setIfInBounds_toArray, List.set_cons_zero, List.set_cons_succ]
          refine wpAnyZ_takeY (i := 13) (oi := { dst := some 76, op := Op.move (Operand.tmp 6), type := 3, pos := "ref.go:214", after := #[], guard := none }) (v := ?_) rfl (by kernel_rfl) (by kernel_rfl) (by kernel_rfl) (by rfl) (fun _ _ _ h => h) (Or.inl ⟨by rfl, ?_⟩) (by assumption) ?_
          rotate_left
          · (intro w; go_simp); (first | done | with_reducible rfl)
          try simp only [Act.put, List.setIfInBounds_toArray, List.set_cons_zero, List.set_cons_succ]
          refine wpAnyZ_takeY (i := 14) (oi := { dst := some 77, op := Op.slice 9 (Operand.tmp 75) none (some (Operand.tmp 76)) none, type := 9, pos := "ref.go:214", after := #[{ on := 12, ground := Ground.data }, { on := 13, ground := Ground.data }], guard := none }) (v := ?_) rfl (by kernel_rfl) (by kernel_rfl) (by kernel_rfl) (by rfl) (fun _ _ _ h => h) (Or.inl ⟨by rfl, ?_⟩) (by assumption) ?_
          rotate_left
          · (intro w; go_simp); (first | done | with_reducible rfl)
          try simp only [Act.put, List.setIfInBounds_toArray, List.set_cons_zero, List.set_cons_succ]
          refine wpAnyZ_takeY (i := 15) (oi := { dst := some 78, op := Op.indexAddr 89 (Operand.tmp 66) (Operand.tmp 67), type := 0, pos := "ref.go:214", after := #[{ on := 3, ground := Ground.data }, { on := 4, ground := Ground.data }, { on := 0, ground := Ground.phase }, { on := 1, ground := Ground.phase }, { on := 2, ground := Ground.phase }, { on := 3, ground := Ground.phase }, { on := 4, ground := Ground.phase }, { on := 5, ground := Ground.phase }, { on := 6, ground := Ground.phase }, { on := 7, ground := Ground.phase }, { on := 8, ground := Ground.phase }, { on := 9, ground := Ground.phase }, { on := 10, ground := Ground.phase }, { on := 11, ground := Ground.phase }, { on := 12, ground := Ground.phase }, { on := 13, ground := Ground.phase }, { on := 14, ground := Ground.phase }], guard := none }) (v := ?_) rfl (by kernel_rfl) (by kernel_rfl) (by kernel_rfl) (by rfl) (fun _ _ _ h => h) (Or.inl ⟨by rfl, ?_⟩) (by assumption) ?_
          rotate_left
          · (intro w; go_simp); (first | done | with_reducible rfl)
          try simp only [Act.put, List.setIfInBounds_toArray, List.set_cons_zero, List.set_cons_succ]
          refine wpAnyZ_takeY (i := 16) (oi := { dst := some 79, op := Op.fieldAddr 95 (Operand.tmp 78) 1, type := 0, pos := "ref.go:214", after := #[{ on := 15, ground := Ground.data }, { on := 0, ground := Ground.phase }, { on := 1, ground := Ground.phase }, { on := 2, ground := Ground.phase }, { on := 3, ground := Ground.phase }, { on := 4, ground := Ground.phase }, { on := 5, ground := Ground.phase }, { on := 6, ground := Ground.phase }, { on := 7, ground := Ground.phase }, { on := 8, ground := Ground.phase }, { on := 9, ground := Ground.phase }, { on := 10, ground := Ground.phase }, { on := 11, ground := Ground.phase }, { on := 12, ground := Ground.phase }, { on := 13, ground := Ground.phase }, { on := 14, ground := Ground.phase }], guard := none }) (v := ?_) rfl (by kernel_rfl) (by kernel_rfl) (by kernel_rfl) (by rfl) (fun _ _ _ h => h) (Or.inl ⟨by rfl, ?_⟩) (by assumption) ?_
          rotate_left
          · (intro w; go_simp); (first | done | with_reducible rfl)
          try simp only [Act.put, List.setIfInBounds_toArray, List.set_cons_zero, List.set_cons_succ]
          refine wpAnyZ_ready (rs := [17]) (by kernel_rfl) (by simp) ?_
          refine AllReadyZ.last (o := { dst := none, op := Op.store 9 (Operand.tmp 79) (Operand.tmp 77), type := 0, pos := "ref.go:214", after := #[{ on := 16, ground := Ground.data }, { on := 14, ground := Ground.data }, { on := 0, ground := Ground.phase }, { on := 1, ground := Ground.phase }, { on := 2, ground := Ground.phase }, { on := 3, ground := Ground.phase }, { on := 4, ground := Ground.phase }, { on := 5, ground := Ground.phase }, { on := 6, ground := Ground.phase }, { on := 7, ground := Ground.phase }, { on := 8, ground := Ground.phase }, { on := 9, ground := Ground.phase }, { on := 10, ground := Ground.phase }, { on := 11, ground := Ground.phase }, { on := 12, ground := Ground.phase }, { on := 13, ground := Ground.phase }, { on := 14, ground := Ground.phase }], guard := none }) rfl (fun K hK => ?_) AllReadyZ.nil
          have f0 := (HFR.out _ HH.out).1
          have m0 := (HCE.out _ HH.out).2.1
          go_simp
          refine hK.out _ _ ?_
          clear hK K
          refine wpAny_done (by kernel_rfl) ?_ _
          obtain ⟨u2, hu2⟩ := HC2.out _ HH.out (.string (S (dt.take st)))
          obtain ⟨f3, x4⟩ := (HFR.out _ HH.out).2 (.string (S (dt.take st)))
          clear RP hHeld f0 m0
          go_wp2_with fail
          go_roundw
          case rel => exact ⟨k + 1, by omega, by go_num, Lib.hid (HNX.out _ HH.out st HL2.out)⟩
          case measure => simp [intOf]; omega
        · have d3 : decide ((0 : Int) < kk) = false := decide_eq_false hp
          have hle : sf ≤ dt.length := hs
          have HL2 := Lib.hid (HLF.out sf (by rw [Int.toNat_of_nonpos (by omega)]; simp))
          go_wp2_with fail
          have RP := run_piece_to (P := Try.prog) 9 Try.underlying9 dt (sf : Int) sf rfl hle
          go_upto_region 11 with fail
          replace HH := Lib.hid (HH.out.below (Below.refl _ _).drew)
          refine wp_region_Z (S := fun V => V.cell? ⟨r, 4, none⟩ = some (.slice (some ⟨g, 0, none⟩) D.L.length c.c) ∧ V.cell? ⟨g, k * 3 + 1, none⟩ = some (.string (S dt))) 17 (by kernel_rfl) ?_ (fun hHeld => ?_)
          · exact ⟨(HCE.out _ HH.out).1, (HCE.out _ HH.out).2.1⟩
          obtain ⟨wd, hwd⟩ : ∃ x, x = World.drew wz := ⟨_, rfl⟩
          rw [← hwd] at HH hHeld ⊢
          clear hwd x4 y1 y2
          have q1 : (sf : Int) ≤ (dt.length : Int) := by omega
          have q0 : (0 : Int) ≤ (sf : Int) := by omega
          refine wpAnyZ_takeY (i := 0) (oi := { dst := some 63, op := Op.move (Operand.tmp 0), type := 28, pos := "ref.go:214", after := #[], guard := none }) (v := ?_) rfl (by kernel_rfl) (by kernel_rfl) (by kernel_rfl) (by rfl) (fun _ _ _ h => h) (Or.inl ⟨by rfl, ?_⟩) (by assumption) ?_
          rotate_left
          · (intro w; go_simp); (first | done | with_reducible rfl)
          try simp only [Act.put, List.setIfInBounds_toArray, List.set_cons_zero, List.set_cons_succ]
          refine wpAnyZ_takeY (i := 1) (oi := { dst := some 64, op := Op.nilCheck (Operand.tmp 63), type := 0, pos := "ref.go:214", after := #[{ on := 0, ground := Ground.data }], guard := none }) (v := ?_) rfl (by kernel_rfl) (by kernel_rfl) (by kernel_rfl) (by rfl) (fun _ _ _ h => h) (Or.inl ⟨by rfl, ?_⟩) (by assumption) ?_
          rotate_left
          · (intro w; go_simp); (first | done | with_reducible rfl)
          try simp only [Act.put, List.setIfInBounds_toArray, List.set_cons_zero, List.set_cons_succ]
          refine wpAnyZ_takeY (i := 2) (oi := { dst := some 65, op := Op.fieldAddr 91 (Operand.tmp 64) 4, type := 0, pos := "ref.go:214", after := #[{ on := 1, ground := Ground.data }], guard := none }) (v := ?_) rfl (by kernel_rfl) (by kernel_rfl) (by kernel_rfl) (by rfl) (fun _ _ _ h => h) (Or.inl ⟨by rfl, ?_⟩) (by assumption) ?_
          rotate_left
          · (intro w; go_simp); (first | done | with_reducible rfl)
          try simp only [Act.put, List.setIfInBounds_toArray, List.set_cons_zero, List.set_cons_succ]
          refine wpAnyZ_take (i := 3) (oi := { dst := some 66, op := Op.load 89 (Operand.tmp 65), type := 89, pos := "ref.go:214", after := #[{ on := 2, ground := Ground.data }], guard := none }) (v := ?_) [15, 16, 17] rfl (by kernel_rfl) (by kernel_rfl) (by kernel_rfl) (by kernel_rfl) (fun _ _ _ h => h) (Or.inl ⟨by rfl, ?_⟩) (by assumption) ?_
          rotate_left
          · (intro w hSw; (try dsimp only at hSw); go_simp); (first | done | with_reducible rfl)
          try simp only [Act.put, List.setIfInBounds_toArray, List.set_cons_zero, List.set_cons_succ]
          refine wpAnyZ_takeY (i := 4) (oi := { dst := some 67, op := Op.move (Operand.tmp 5), type := 3, pos := "ref.go:214", after := #[], guard := none }) (v := ?_) rfl (by kernel_rfl) (by kernel_rfl) (by kernel_rfl) (by rfl) (fun _ _ _ h => h) (Or.inl ⟨by rfl, ?_⟩) (by assumption) ?_
          rotate_left
          · (intro w; go_simp); (first | done | with_reducible rfl)
          try simp only [Act.put, List.setIfInBounds_toArray, List.set_cons_zero, List.set_cons_succ]
          refine wpAnyZ_takeY (i := 5) (oi := { dst := some 68, op := Op.move (Operand.tmp 0), type := 28, pos := "ref.go:214", after := #[], guard := none }) (v := ?_) rfl (by kernel_rfl) (by kernel_rfl) (by kernel_rfl) (by rfl) (fun _ _ _ h => h) (Or.inl ⟨by rfl, ?_⟩) (by assumption) ?_
          rotate_left
          · (intro w; go_simp); (first | done | with_reducible rfl)
          try simp only [Act.put, List.setIfInBounds_toArray, List.set_cons_zero, List.set_cons_succ]
          refine wpAnyZ_takeY (i := 6) (oi := { dst := some 69, op := Op.nilCheck (Operand.tmp 68), type := 0, pos := "ref.go:214", after := #[{ on := 5, ground := Ground.data }], guard := none }) (v := ?_) rfl (by kernel_rfl) (by kernel_rfl) (by kernel_rfl) (by rfl) (fun _ _ _ h => h) (Or.inl ⟨by rfl, ?_⟩) (by assumption) ?_
          rotate_left
          · (intro w; go_simp); (first | done | with_reducible rfl)
          try simp only [Act.put, List.setIfInBounds_toArray, List.set_cons_zero, List.set_cons_succ]
          refine wpAnyZ_takeY (i := 7) (oi := { dst := some 70, op := Op.fieldAddr 91 (Operand.tmp 69) 4, type := 0, pos := "ref.go:214", after := #[{ on := 6, ground := Ground.data }], guard := none }) (v := ?_) rfl (by kernel_rfl) (by kernel_rfl) (by kernel_rfl) (by rfl) (fun _ _ _ h => h) (Or.inl ⟨by rfl, ?_⟩) (by assumption) ?_
          rotate_left
          · (intro w; go_simp); (first | done | with_reducible rfl)
          try simp only [Act.put, List.setIfInBounds_toArray, List.set_cons_zero, List.set_cons_succ]
          refine wpAnyZ_take (i := 8) (oi := { dst := some 71, op := Op.load 89 (Operand.tmp 70), type := 89, pos := "ref.go:214", after := #[{ on := 7, ground := Ground.data }], guard := none }) (v := ?_) [10, 11, 12, 14, 15, 16, 17] rfl (by kernel_rfl) (by kernel_rfl) (by kernel_rfl) (by kernel_rfl) (fun _ _ _ h => h) (Or.inl ⟨by rfl, ?_⟩) (by assumption) ?_
          rotate_left
          · (intro w hSw; (try dsimp only at hSw); go_simp); (first | done | with_reducible rfl)
          try simp only [Act.put, List.setIfInBounds_toArray, List.set_cons_zero, List.set_cons_succ]
          refine wpAnyZ_takeY (i := 9) (oi := { dst := some 72, op := Op.move (Operand.tmp 5), type := 3, pos := "ref.go:214", after := #[], guard := none }) (v := ?_) rfl (by kernel_rfl) (by kernel_rfl) (by kernel_rfl) (by rfl) (fun _ _ _ h => h) (Or.inl ⟨by rfl, ?_⟩) (by assumption) ?_
          rotate_left
          · (intro w; go_simp); (first | done | with_reducible rfl)
          try simp only [Act.put, List.setIfInBounds_toArray, List.set_cons_zero, List.set_cons_succ]
          refine wpAnyZ_takeY (i := 10) (oi := { dst := some 73, op := Op.indexAddr 89 (Operand.tmp 71) (Operand.tmp 72), type := 0, pos := "ref.go:214", after := #[{ on := 8, ground := Ground.data }, { on := 9, ground := Ground.data }], guard := none }) (v := ?_) rfl (by kernel_rfl) (by kernel_rfl) (by kernel_rfl) (by rfl) (fun _ _ _ h => h) (Or.inl ⟨by rfl, ?_⟩) (by assumption) ?_
          rotate_left
          · (intro w; go_simp); (first | done | with_reducible rfl)
          try simp only [Act.put, List.setIfInBounds_toArray, List.set_cons_zero, List.set_cons_succ]
          refine wpAnyZ_takeY (i := 11) (oi := { dst := some 74, op := Op.fieldAddr 95 (Operand.tmp 73) 1, type := 0, pos := "ref.go:214", after := #[{ on := 10, ground := Ground.data }], guard := none }) (v := ?_) rfl (by kernel_rfl) (by kernel_rfl) (by kernel_rfl) (by rfl) (fun _ _ _ h => h) (Or.inl ⟨by rfl, ?_⟩) (by assumption) ?_
          rotate_left
          · (intro w; go_simp); (first | done | with_reducible rfl)
          try simp only [Act.put, List.setIfInBounds_toArray, List.set_cons_zero, List.set_cons_succ]
          refine wpAnyZ_take (i := 12) (oi := { dst := some 75, op := Op.load 9 (Operand.tmp 74), type := 9, pos := "ref.go:214", after := #[{ on := 11, ground := Ground.data }], guard := none }) (v := ?_) [14, 15, 16, 17] rfl (by kernel_rfl) (by kernel_rfl) (by kernel_rfl) (by kernel_rfl) (fun _ _ _ h => h) (Or.inl ⟨by rfl, ?_⟩) (by assumption) ?_
          rotate_left
          · (intro w hSw; (try dsimp only at hSw); go_simp); (first | done | with_reducible rfl)
          try simp only [Act.put, List.setIfInBounds_toArray, List.set_cons_zero, List.set_cons_succ]
          refine wpAnyZ_takeY (i := 13) (oi := { dst := some 76, op := Op.move (Operand.tmp 6), type := 3, pos := "ref.go:214", after := #[], guard := none }) (v := ?_) rfl (by kernel_rfl) (by kernel_rfl) (by kernel_rfl) (by rfl) (fun _ _ _ h => h) (Or.inl ⟨by rfl, ?_⟩) (by assumption) ?_
          rotate_left
          · (intro w; go_simp); (first | done | with_reducible rfl)
          try simp only [Act.put, List.setIfInBounds_toArray, List.set_cons_zero, List.set_cons_succ]
          refine wpAnyZ_takeY (i := 14) (oi := { dst := some 77, op := Op.slice 9 (Operand.tmp 75) none (some (Operand.tmp 76)) none, type := 9, pos := "ref.go:214", after := #[{ on := 12, ground := Ground.data }, { on := 13, ground := Ground.data }], guard := none }) (v := ?_) rfl (by kernel_rfl) (by kernel_rfl) (by kernel_rfl) (by rfl) (fun _ _ _ h => h) (Or.inl ⟨by rfl, ?_⟩) (by assumption) ?_
          rotate_left
          · (intro w; go_simp); (first | done | with_reducible rfl)
          try simp only [Act.put, List.setIfInBounds_toArray, List.set_cons_zero, List.set_cons_succ]
          refine wpAnyZ_takeY (i := 15) (oi := { dst := some 78, op := Op.indexAddr 89 (Operand.tmp 66) (Operand.tmp 67), type := 0, pos := "ref.go:214", after := #[{ on := 3, ground := Ground.data }, { on := 4, ground := Ground.data }, { on := 0, ground := Ground.phase }, { on := 1, ground := Ground.phase }, { on := 2, ground := Ground.phase }, { on := 3, ground := Ground.phase }, { on := 4, ground := Ground.phase }, { on := 5, ground := Ground.phase }, { on := 6, ground := Ground.phase }, { on := 7, ground := Ground.phase }, { on := 8, ground := Ground.phase }, { on := 9, ground := Ground.phase }, { on := 10, ground := Ground.phase }, { on := 11, ground := Ground.phase }, { on := 12, ground := Ground.phase }, { on := 13, ground := Ground.phase }, { on := 14, ground := Ground.phase }], guard := none }) (v := ?_) rfl (by kernel_rfl) (by kernel_rfl) (by kernel_rfl) (by rfl) (fun _ _ _ h => h) (Or.inl ⟨by rfl, ?_⟩) (by assumption) ?_
          rotate_left
          · (intro w; go_simp); (first | done | with_reducible rfl)
          try simp only [Act.put, List.setIfInBounds_toArray, List.set_cons_zero, List.set_cons_succ]
          refine wpAnyZ_takeY (i := 16) (oi := { dst := some 79, op := Op.fieldAddr 95 (Operand.tmp 78) 1, type := 0, pos := "ref.go:214", after := #[{ on := 15, ground := Ground.data }, { on := 0, ground := Ground.phase }, { on := 1, ground := Ground.phase }, { on := 2, ground := Ground.phase }, { on := 3, ground := Ground.phase }, { on := 4, ground := Ground.phase }, { on := 5, ground := Ground.phase }, { on := 6, ground := Ground.phase }, { on := 7, ground := Ground.phase }, { on := 8, ground := Ground.phase }, { on := 9, ground := Ground.phase }, { on := 10, ground := Ground.phase }, { on := 11, ground := Ground.phase }, { on := 12, ground := Ground.phase }, { on := 13, ground := Ground.phase }, { on := 14, ground := Ground.phase }], guard := none }) (v := ?_) rfl (by kernel_rfl) (by kernel_rfl) (by kernel_rfl) (by rfl) (fun _ _ _ h => h) (Or.inl ⟨by rfl, ?_⟩) (by assumption) ?_
          rotate_left
          · (intro w; go_simp); (first | done | with_reducible rfl)
          try simp only [Act.put, List.setIfInBounds_toArray, List.set_cons_zero, List.set_cons_succ]
          refine wpAnyZ_ready (rs := [17]) (by kernel_rfl) (by simp) ?_
          refine AllReadyZ.last (o := { dst := none, op := Op.store 9 (Operand.tmp 79) (Operand.tmp 77), type := 0, pos := "ref.go:214", after := #[{ on := 16, ground := Ground.data }, { on := 14, ground := Ground.data }, { on := 0, ground := Ground.phase }, { on := 1, ground := Ground.phase }, { on := 2, ground := Ground.phase }, { on := 3, ground := Ground.phase }, { on := 4, ground := Ground.phase }, { on := 5, ground := Ground.phase }, { on := 6, ground := Ground.phase }, { on := 7, ground := Ground.phase }, { on := 8, ground := Ground.phase }, { on := 9, ground := Ground.phase }, { on := 10, ground := Ground.phase }, { on := 11, ground := Ground.phase }, { on := 12, ground := Ground.phase }, { on := 13, ground := Ground.phase }, { on := 14, ground := Ground.phase }], guard := none }) rfl (fun K hK => ?_) AllReadyZ.nil
          have f0 := (HFR.out _ HH.out).1
          have m0 := (HCE.out _ HH.out).2.1
          go_simp
          refine hK.out _ _ ?_
          clear hK K
          refine wpAny_done (by kernel_rfl) ?_ _
          obtain ⟨u2, hu2⟩ := HC2.out _ HH.out (.string (S (dt.take sf)))
          obtain ⟨f3, x4⟩ := (HFR.out _ HH.out).2 (.string (S (dt.take sf)))
          clear RP hHeld f0 m0
          go_wp2_with fail
          go_roundw
          case rel => exact ⟨k + 1, by omega, by go_num, Lib.hid (HNX.out _ HH.out sf HL2.out)⟩
          case measure => simp [intOf]; omega
      · have d2 : decide ((k : Int) < (ks.length : Int)) = false := decide_eq_false (by omega)
        have d2' : decide (k < ks.length) = false := decide_eq_false hkk
        have hle : sf ≤ dt.length := hs
        have HL2 := Lib.hid (HLF.out sf (by rw [show ks.getD k 0 = 0 from by simp [List.getD, List.getElem?_eq_none (Nat.le_of_not_lt hkk)]]; simp))
        go_wp2_with fail
        have RP := run_piece_to (P := Try.prog) 9 Try.underlying9 dt (sf : Int) sf rfl hle
        go_upto_region 11 with fail
        replace HH := Lib.hid (HH.out.below (Below.refl _ _).drew)
        refine wp_region_Z (S := fun V => V.cell? ⟨r, 4, none⟩ = some (.slice (some ⟨g, 0, none⟩) D.L.length c.c) ∧ V.cell? ⟨g, k * 3 + 1, none⟩ = some (.string (S dt))) 17 (by kernel_rfl) ?_ (fun hHeld => ?_)
        · exact ⟨(HCE.out _ HH.out).1, (HCE.out _ HH.out).2.1⟩
        obtain ⟨wd, hwd⟩ : ∃ x, x = World.drew wz := ⟨_, rfl⟩
        rw [← hwd] at HH hHeld ⊢
        clear hwd x4 y1 y2
        have q1 : (sf : Int) ≤ (dt.length : Int) := by omega
        have q0 : (0 : Int) ≤ (sf : Int) := by omega
        refine wpAnyZ_takeY (i := 0) (oi := { dst := some 63, op := Op.move (Operand.tmp 0), type := 28, pos := "ref.go:214", after := #[], guard := none }) (v := ?_) rfl (by kernel_rfl) (by kernel_rfl) (by kernel_rfl) (by rfl) (fun _ _ _ h => h) (Or.inl ⟨by rfl, ?_⟩) (by assumption) ?_
        rotate_left
        · (intro w; go_simp); (first | done | with_reducible rfl)
        try simp only [Act.put, List.setIfInBounds_toArray, List.set_cons_zero, List.set_cons_succ]
        refine wpAnyZ_takeY (i := 1) (oi := { dst := some 64, op := Op.nilCheck (Operand.tmp 63), type := 0, pos := "ref.go:214", after := #[{ on := 0, ground := Ground.data }], guard := none }) (v := ?_) rfl (by kernel_rfl) (by kernel_rfl) (by kernel_rfl) (by rfl) (fun _ _ _ h => h) (Or.inl ⟨by rfl, ?_⟩) (by assumption) ?_
        rotate_left
        · (intro w; go_simp); (first | done | with_reducible rfl)
        try simp only [Act.put, List.setIfInBounds_toArray, List.set_cons_zero, List.set_cons_succ]
        refine wpAnyZ_takeY (i := 2) (oi := { dst := some 65, op := Op.fieldAddr 91 (Operand.tmp 64) 4, type := 0, pos := "ref.go:214", after := #[{ on := 1, ground := Ground.data }], guard := none }) (v := ?_) rfl (by kernel_rfl) (by kernel_rfl) (by kernel_rfl) (by rfl) (fun _ _ _ h => h) (Or.inl ⟨by rfl, ?_⟩) (by assumption) ?_
        rotate_left
        · (intro w; go_simp); (first | done | with_reducible rfl)
        try simp only [Act.put, List.setIfInBounds_toArray, List.set_cons_zero, List.set_cons_succ]
        refine wpAnyZ_take (i := 3) (oi := { dst := some 66, op := Op.load 89 (Operand.tmp 65), type := 89, pos := "ref.go:214", after := #[{ on := 2, ground := Ground.data }], guard := none }) (v := ?_) [15, 16, 17] rfl (by kernel_rfl) (by kernel_rfl) (by kernel_rfl) (by kernel_rfl) (fun _ _ _ h => h) (Or.inl ⟨by rfl, ?_⟩) (by assumption) ?_
        rotate_left
        · (intro w hSw; (try dsimp only at hSw); go_simp); (first | done | with_reducible rfl)
        try simp only [Act.put, List.setIfInBounds_toArray, List.set_cons_zero, List.set_cons_succ]
        refine wpAnyZ_takeY (i := 4) (oi := { dst := some 67, op := Op.move (Operand.tmp 5), type := 3, pos := "ref.go:214", after := #[], guard := none }) (v := ?_) rfl (by kernel_rfl) (by kernel_rfl) (by kernel_rfl) (by rfl) (fun _ _ _ h => h) (Or.inl ⟨by rfl, ?_⟩) (by assumption) ?_
        rotate_left
        · (intro w; go_simp); (first | done | with_reducible rfl)
        try simp only [Act.put, List.setIfInBounds_toArray, List.set_cons_zero, List.set_cons_succ]
        refine wpAnyZ_takeY (i := 5) (oi := { dst := some 68, op := Op.move (Operand.tmp 0), type := 28, pos := "ref.go:214", after := #[], guard := none }) (v := ?_) rfl (by kernel_rfl) (by kernel_rfl) (by kernel_rfl) (by rfl) (fun _ _ _ h => h) (Or.inl ⟨by rfl, ?_⟩) (by assumption) ?_
        rotate_left
        · (intro w; go_simp); (first | done | with_reducible rfl)
        try simp only [Act.put, List.setIfInBounds_toArray, List.set_cons_zero, List.set_cons_succ]
        refine wpAnyZ_takeY (i := 6) (oi := { dst := some 69, op := Op.nilCheck (Operand.tmp 68), type := 0, pos := "ref.go:214", after := #[{ on := 5, ground := Ground.data }], guard := none }) (v := ?_) rfl (by kernel_rfl) (by kernel_rfl) (by kernel_rfl) (by rfl) (fun _ _ _ h => h) (Or.inl ⟨by rfl, ?_⟩) (by assumption) ?_
        rotate_left
        · (intro w; go_simp); (first | done | with_reducible rfl)
        try simp only [Act.put, List.setIfInBounds_toArray, List.set_cons_zero, List.set_cons_succ]
        refine wpAnyZ_takeY (i := 7) (oi := { dst := some 70, op := Op.fieldAddr 91 (Operand.tmp 69) 4, type := 0, pos := "ref.go:214", after := #[{ on := 6, ground := Ground.data }], guard := none }) (v := ?_) rfl (by kernel_rfl) (by kernel_rfl) (by kernel_rfl) (by rfl) (fun _ _ _ h => h) (Or.inl ⟨by rfl, ?_⟩) (by assumption) ?_
        rotate_left
        · (intro w; go_simp); (first | done | with_reducible rfl)
        try simp only [Act.put, List.setIfInBounds_toArray, List.set_cons_zero, List.set_cons_succ]
        refine wpAnyZ_take (i := 8) (oi := { dst := some 71, op := Op.load 89 (Operand.tmp 70), type := 89, pos := "ref.go:214", after := #[{ on := 7, ground := Ground.data }], guard := none }) (v := ?_) [10, 11, 12, 14, 15, 16, 17] rfl (by kernel_rfl) (by kernel_rfl) (by kernel_rfl) (by kernel_rfl) (fun _ _ _ h => h) (Or.inl ⟨by rfl, ?_⟩) (by assumption) ?_
        rotate_left
        · (intro w hSw; (try dsimp only at hSw); go_simp); (first | done | with_reducible rfl)
        try simp only [Act.put, List.setIfInBounds_toArray, List.set_cons_zero, List.set_cons_succ]
        refine wpAnyZ_takeY (i := 9) (oi := { dst := some 72, op := Op.move (Operand.tmp 5), type := 3, pos := "ref.go:214", after := #[], guard := none }) (v := ?_) rfl (by kernel_rfl) (by kernel_rfl) (by kernel_rfl) (by rfl) (fun _ _ _ h => h) (Or.inl ⟨by rfl, ?_⟩) (by assumption) ?_
        rotate_left
        · (intro w; go_simp); (first | done | with_reducible rfl)
        try simp only [Act.put, List.setIfInBounds_toArray, List.set_cons_zero, List.set_cons_succ]
        refine wpAnyZ_takeY (i := 10) (oi := { dst := some 73, op := Op.indexAddr 89 (Operand.tmp 71) (Operand.tmp 72), type := 0, pos := "ref.go:214", after := #[{ on := 8, ground := Ground.data }, { on := 9, ground := Ground.data }], guard := none }) (v := ?_) rfl (by kernel_rfl) (by kernel_rfl) (by kernel_rfl) (by rfl) (fun _ _ _ h => h) (Or.inl ⟨by rfl, ?_⟩) (by assumption) ?_
        rotate_left
        · (intro w; go_simp); (first | done | with_reducible rfl)
        try simp only [Act.put, List.setIfInBounds_toArray, List.set_cons_zero, List.set_cons_succ]
        refine wpAnyZ_takeY (i := 11) (oi := { dst := some 74, op := Op.fieldAddr 95 (Operand.tmp 73) 1, type := 0, pos := "ref.go:214", after := #[{ on := 10, ground := Ground.data }], guard := none }) (v := ?_) rfl (by kernel_rfl) (by kernel_rfl) (by kernel_rfl) (by rfl) (fun _ _ _ h => h) (Or.inl ⟨by rfl, ?_⟩) (by assumption) ?_
        rotate_left
        · (intro w; go_simp); (first | done | with_reducible rfl)
        try simp only [Act.put, List.setIfInBounds_toArray, List.set_cons_zero, List.set_cons_succ]
        refine wpAnyZ_take (i := 12) (oi := { dst := some 75, op := Op.load 9 (Operand.tmp 74), type := 9, pos := "ref.go:214", after := #[{ on := 11, ground := Ground.data }], guard := none }) (v := ?_) [14, 15, 16, 17] rfl (by kernel_rfl) (by kernel_rfl) (by kernel_rfl) (by kernel_rfl) (fun _ _ _ h => h) (Or.inl ⟨by rfl, ?_⟩) (by assumption) ?_
        rotate_left
        · (intro w hSw; (try dsimp only at hSw); go_simp); (first | done | with_reducible rfl)
        try simp only [Act.put, List.setIfInBounds_toArray, List.set_cons_zero, List.set_cons_succ]
        refine wpAnyZ_takeY (i := 13) (oi := { dst := some 76, op := Op.move (Operand.tmp 6), type := 3, pos := "ref.go:214", after := #[], guard := none }) (v := ?_) rfl (by kernel_rfl) (by kernel_rfl) (by kernel_rfl) (by rfl) (fun _ _ _ h => h) (Or.inl ⟨by rfl, ?_⟩) (by assumption) ?_
        rotate_left
        · (intro w; go_simp); (first | done | with_reducible rfl)
        try simp only [Act.put, List.setIfInBounds_toArray, List.set_cons_zero, List.set_cons_succ]
        refine wpAnyZ_takeY (i := 14) (oi := { dst := some 77, op := Op.slice 9 (Operand.tmp 75) none (some (Operand.tmp 76)) none, type := 9, pos := "ref.go:214", after := #[{ on := 12, ground := Ground.data }, { on := 13, ground := Ground.data }], guard := none }) (v := ?_) rfl (by kernel_rfl) (by kernel_rfl) (by kernel_rfl) (by rfl) (fun _ _ _ h => h) (Or.inl ⟨by rfl, ?_⟩) (by assumption) ?_
        rotate_left
        · (intro w; go_simp); (first | done | with_reducible rfl)
        try simp only [Act.put, List.setIfInBounds_toArray, List.set_cons_zero, List.set_cons_succ]
        refine wpAnyZ_takeY (i := 15) (oi := { dst := some 78, op := Op.indexAddr 89 (Operand.tmp 66) (Operand.tmp 67), type := 0, pos := "ref.go:214", after := #[{ on := 3, ground := Ground.data }, { on := 4, ground := Ground.data }, { on := 0, ground := Ground.phase }, { on := 1, ground := Ground.phase }, { on := 2, ground := Ground.phase }, { on := 3, ground := Ground.phase }, { on := 4, ground := Ground.phase }, { on := 5, ground := Ground.phase }, { on := 6, ground := Ground.phase }, { on := 7, ground := Ground.phase }, { on := 8, ground := Ground.phase }, { on := 9, ground := Ground.phase }, { on := 10, ground := Ground.phase }, { on := 11, ground := Ground.phase }, { on := 12, ground := Ground.phase }, { on := 13, ground := Ground.phase }, { on := 14, ground := Ground.phase }], guard := none }) (v := ?_) rfl (by kernel_rfl) (by kernel_rfl) (by kernel_rfl) (by rfl) (fun _ _ _ h => h) (Or.inl ⟨by rfl, ?_⟩) (by assumption) ?_
        rotate_left
        · (intro w; go_simp); (first | done | with_reducible rfl)
        try simp only [Act.put, List.setIfInBounds_toArray, List.set_cons_zero, List.set_cons_succ]
        refine wpAnyZ_takeY (i := 16) (oi := { dst := some 79, op := Op.fieldAddr 95 (Operand.tmp 78) 1, type := 0, pos := "ref.go:214", after := #[{ on := 15, ground := Ground.data }, { on := 0, ground := Ground.phase }, { on := 1, ground := Ground.phase }, { on := 2, ground := Ground.phase }, { on := 3, ground := Ground.phase }, { on := 4, ground := Ground.phase }, { on := 5, ground := Ground.phase }, { on := 6, ground := Ground.phase }, { on := 7, ground := Ground.phase }, { on := 8, ground := Ground.phase }, { on := 9, ground := Ground.phase }, { on := 10, ground := Ground.phase }, { on := 11, ground := Ground.phase }, { on := 12, ground := Ground.phase }, { on := 13, ground := Ground.phase }, { on := 14, ground := Ground.phase }], guard := none }) (v := ?_) rfl (by kernel_rfl) (by kernel_rfl) (by kernel_rfl) (by rfl) (fun _ _ _ h => h) (Or.inl ⟨by rfl, ?_⟩) (by assumption) ?_
        rotate_left
        · (intro w; go_simp); (first | done | with_reducible rfl)
        try simp only [Act.put, List.setIfInBounds_toArray, List.set_cons_zero, List.set_cons_succ]
        refine wpAnyZ_ready (rs := [17]) (by kernel_rfl) (by simp) ?_
        refine AllReadyZ.last (o := { dst := none, op := Op.store 9 (Operand.tmp 79) (Operand.tmp 77), type := 0, pos := "ref.go:214", after := #[{ on := 16, ground := Ground.data }, { on := 14, ground := Ground.data }, { on := 0, ground := Ground.phase }, { on := 1, ground := Ground.phase }, { on := 2, ground := Ground.phase }, { on := 3, ground := Ground.phase }, { on := 4, ground := Ground.phase }, { on := 5, ground := Ground.phase }, { on := 6, ground := Ground.phase }, { on := 7, ground := Ground.phase }, { on := 8, ground := Ground.phase }, { on := 9, ground := Ground.phase }, { on := 10, ground := Ground.phase }, { on := 11, ground := Ground.phase }, { on := 12, ground := Ground.phase }, { on := 13, ground := Ground.phase }, { on := 14, ground := Ground.phase }], guard := none }) rfl (fun K hK => ?_) AllReadyZ.nil
        have f0 := (HFR.out _ HH.out).1
        have m0 := (HCE.out _ HH.out).2.1
        go_simp
        refine hK.out _ _ ?_
        clear hK K
        refine wpAny_done (by kernel_rfl) ?_ _
        obtain ⟨u2, hu2⟩ := HC2.out _ HH.out (.string (S (dt.take sf)))
        obtain ⟨f3, x4⟩ := (HFR.out _ HH.out).2 (.string (S (dt.take sf)))
        clear RP hHeld f0 m0
        go_wp2_with fail
        go_roundw
        case rel => exact ⟨k + 1, by omega, by go_num, Lib.hid (HNX.out _ HH.out sf HL2.out)⟩
        case measure => simp [intOf]; omega
    · have d1 : decide ((k : Int) < (D.L.length : Int)) = false := decide_eq_false (by omega)
      have d1' : decide (k < D.L.length) = false := decide_eq_false hlt
      obtain rfl : k = D.L.length := by omega
      have HFIN := Lib.hid (show OpI B r c (.int .i64 0) (Dk.fall ks D) w (.returned (.int .i64 0)) wz from by
        have h1 := HH.out
        have hrow := h1.row
        rw [Dk.mix_all] at hrow
        refine ⟨rfl, c, ⟨h1.box, ?_, h1.krow, fun p hp => (by cases hp), HO.out.cut ks, by show (Dk.cut ks D.L).length ≤ _; rw [Dk.cut_len]; exact hfew, Nat.le_trans (Dk.size_cut ks HO.out.safe) HZ.out⟩, fun b hb => .inl hb, h1.wro⟩
        show wz.ownsRow B _ 3 (.slice c.a (Dk.cut ks D.L).length c.c) (Dk.cut ks D.L).length (flsV (Dk.cut ks D.L))
        rw [Dk.cut_len]
        exact hrow)
      go_wp2_with fail
      go_ret
      exact HFIN.out
theorem rCrash5 {B r : Nat} {c : Rc} {D : Dk.St} {w : World} (h : RfIn B r c D w) (ks : List Int) (ao : Option Addr) (cap : Nat) (hK : Dk.KsOk ks) (hk : NsA5 w ao ks) (hkr : ∀ x, ks ≠ [] → ao = some x → x.block ≠ r ∧ ∀ y, c.a = some y → x.block ≠ y.block) :
    Calls Try.prog 53 #[.pointer (some ⟨r, 0, none⟩), .slice ao ks.length cap] w (OpI B r c (.int .i64 (Dk.crash ks D).1) (Dk.crash ks D).2 w) := by
  cases hu : D.up with
  | true =>
    rw [Dk.crash_up ks hu]
    exact rCrashW5 h.weak hu ks ao cap hK hk hkr
  | false =>
    rw [Dk.crash_down ks hu]
    have x2 : w.cell? ⟨r, 2, none⟩ = some (.bool (!D.up)) := h.box.cell 2
    rw [hu] at x2
    have HQ := Lib.hid (OpI.same (v := .int .i64 51) h)
    clear h hk hkr
    go_enter Try.func53, Try.ntmps53
    go_wp2_with fail
    go_ret
    exact HQ.out

end Go.Proofs.Ytekmnpmeienhhaa
