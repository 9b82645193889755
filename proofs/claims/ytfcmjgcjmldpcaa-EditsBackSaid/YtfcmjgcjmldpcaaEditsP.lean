/- Layer 16: swap, by a contract. -/
import Derived.Test.YtfcmjgcjmldpcaaEditsO
import Derived.Test.YtfcmjgcjmldpcaaLast
import Derived.Deep.RegionHeld
namespace Go.Proofs.Ytfcmjgcjmldpcaa
set_option linter.unusedVariables false
set_option linter.unusedSimpArgs false
open Go Go.RowKit
attribute [local go_sem ↓] run_index_S
attribute [local go_sem] S_append S_extract

theorem contains16_any (l : List Int) (hl : l.length ≤ 1000000) (o : Option Addr) (c : Nat) (x : Int) (w : World) (h : NsAt w o l) :
    Calls Try.prog 61 #[.slice o l.length c, .int .i64 x] w fun e w' => e = .returned (.bool (l.contains x)) ∧ w' = w := by
  by_cases hL : l = []
  · subst hL
    exact Try.slices_Contains_int_empty o c x w
  · obtain ⟨g, off, rfl, hc⟩ := h hL
    refine (Try.slices_Contains_int g off l.length c l x w (Nat.le_refl _) (by omega) hc).mono ?_
    rintro e w' ⟨rfl, rfl⟩
    exact ⟨by rw [List.take_length], rfl⟩
/-- A copy in its box, ahead of an edit. -/
structure Ahd (w0 : World) (b g c : Nat) (Rs Rk : List Rt) (log next : Int) (w : World) : Prop where
  cl : ClI w0 Rs.length Rs Rk g c w
  bx : BkIn #[.slice (some ⟨g, 0, none⟩) Rs.length c, .int .i64 log, .int .i64 next] 24 w b
  b0 : w0.heap.size ≤ b
  ne : b ≠ g
theorem ClI.ns {w0 w : World} {Rs Rk : List Rt} {g c : Nat} (h : ClI w0 Rs.length Rs Rk g c w) : ∀ r, r ∈ Rk → NsAt w r.o r.l := fun r hr => by
  obtain ⟨j, hj, rfl⟩ := List.getElem_of_mem hr
  have := h.own j (by rw [← h.len]; exact hj)
  unfold OwnN at this
  rw [show Rk.getD j rt0 = Rk[j] from by simp [List.getD, hj]] at this
  exact nsAt_own this
theorem Ahd.cells {w0 w : World} {b g c : Nat} {Rs Rk : List Rt} {log next : Int} (h : Ahd w0 b g c Rs Rk log next w) {k : Nat} (hk : k < Rs.length) :
    w.cell? ⟨g, k * 2 + 1, none⟩ = some (.slice (Rk.getD k rt0).o (Rk.getD k rt0).l.length (Rk.getD k rt0).k) := by
  have h1 := h.cl.row.cellAt (k * 2 + 1) (by omega)
  rw [h1, tbC_get Rk k 1 (by rw [h.cl.len]; exact hk) (by omega)]; rfl
theorem Ahd.below {w0 w w' : World} {b g c : Nat} {Rs Rk : List Rt} {log next : Int} (h : Ahd w0 b g c Rs Rk log next w) (hb : Below w.heap.size w w') : Ahd w0 b g c Rs Rk log next w' := ⟨h.cl.below hb, h.bx.below hb, h.b0, h.ne⟩
/-- A row of tablets of one's own, whose numbers are one's own, too. -/
structure Own16 (w0 : World) (g c : Nat) (Rk : List Rt) (w : World) : Prop where
  row : w.ownsRow w0.heap.size 41 2 (.slice (some ⟨g, 0, none⟩) Rk.length c) Rk.length (tbC Rk)
  own : ∀ r, r ∈ Rk → OwnN w0.heap.size w r
  bel : Below w0.heap.size w0 w
theorem Own16.at_ {w0 w : World} {g c : Nat} {Rk : List Rt} (h : Own16 w0 g c Rk w) : TbsAt w (some ⟨g, 0, none⟩) Rk := tbsAt_own h.row (fun r hr => nsAt_own (h.own r hr))
theorem Own16.box {w0 w : World} {g c b : Nat} {Rk : List Rt} (h : Own16 w0 g c Rk w) {D : Array Value} (hD : BkIn D 24 w b) (hb : w0.heap.size ≤ b) (i : Nat) (v : Value) : Own16 w0 g c Rk (w.setCell ⟨b, i, none⟩ v) :=
  ⟨ownsRow_setCell_other h.row (own_of_blk hD h.row (by decide)) _, fun r hr => ownsRow_setCell_other (h.own r hr) (own_of_blk hD (h.own r hr) (by decide)) _, h.bel.setCell (by exact hb) _⟩
theorem Own16.below {w0 w w' : World} {g c : Nat} {Rk : List Rt} (h : Own16 w0 g c Rk w) (hb : Below w.heap.size w w') : Own16 w0 g c Rk w' :=
  ⟨own_below16 h.row hb, fun r hr => own_below16 (h.own r hr) hb, h.bel.trans (hb.mono h.bel.size)⟩
/-- What comes of an edit: a state of one's own, in its box. -/
def EdOut (w0 : World) (b : Nat) (T : List Ed.Tb) (log next : Int) (w : World) : Prop :=
  ∃ Rk g c, BkIn #[.slice (some ⟨g, 0, none⟩) (Rk : List Rt).length c, .int .i64 log, .int .i64 next] 24 w b ∧ Own16 w0 g c Rk w ∧ tbs Rk = T
theorem Own16.out {w0 w : World} {g c b : Nat} {Rk : List Rt} {log next : Int} (h : Own16 w0 g c Rk w) (hD : BkIn #[.slice (some ⟨g, 0, none⟩) Rk.length c, .int .i64 log, .int .i64 next] 24 w b) : EdOut w0 b (tbs Rk) log next w :=
  ⟨Rk, g, c, hD, h, rfl⟩
theorem Ahd.own {w0 w : World} {b g c : Nat} {Rs Rk : List Rt} {log next : Int} (h : Ahd w0 b g c Rs Rk log next w) : Own16 w0 g c Rk w :=
  ⟨by rw [h.cl.len]; exact h.cl.row, fun r hr => by
    obtain ⟨j, hj, rfl⟩ := List.getElem_of_mem hr
    have := h.cl.own j (by rw [← h.cl.len]; exact hj)
    rwa [show Rk.getD j rt0 = Rk[j] from by simp [List.getD, hj]] at this, h.cl.bel⟩
/-- Other numbers for the tablet at a place. -/
theorem Own16.store {w0 w w1 : World} {g c k : Nat} {Rk : List Rt} (h : Own16 w0 g c Rk w) (hk : k < Rk.length) (hb : Below w.heap.size w w1) {l : List Int} {a : Option Addr} {c' : Nat}
    (hown : w1.ownsRow w.heap.size 3 1 (.slice a l.length c') l.length (nsL l)) :
    Own16 w0 g c (Rk.set k ⟨(Rk.getD k rt0).f, l, a, c'⟩) (w1.setCell ⟨g, k * 2 + 1, none⟩ (.slice a l.length c')) := by
  have h1 := h.below hb
  have hg := h.row.lt g rfl
  refine ⟨?_, fun r hr => ?_, h1.bel.setCell (by exact hg.1) _⟩
  · rw [List.length_set, ← tbC_set Rk k hk l a c']
    exact (h1.row.stored (k * 2 + 1) _).1
  · rcases List.mem_or_eq_of_mem_set hr with hr | rfl
    · exact ownsRow_setCell_other (h1.own r hr) (own_apart16 h1.row (h1.own r hr) (by decide) (x := g) rfl) _
    · refine ownsRow_setCell_other (own_base16 hown (Nat.le_trans hg.1 (Nat.le_of_lt hg.2))) (fun hq => ?_) _
      have := (hown.lt g hq).1
      omega
theorem tbs_set (Rk : List Rt) (k : Nat) (r : Rt) : tbs (Rk.set k r) = (tbs Rk).set k r.tb := by unfold tbs; rw [List.map_set]
def SwapOk (next : Int) (l fs : List Int) : Prop := ∀ n ∈ fs, next ≤ n ∨ n ∈ l
/-- Other states' blocks are what they were. -/
def Kp (b : Nat) (wk w : World) : Prop := ∀ (C : Array Value) (q : Nat), q ≠ b → BkIn C 24 wk q → BkIn C 24 w q
section
variable {b : Nat} {wk w w' : World}
theorem Kp.refl (b : Nat) (w : World) : Kp b w w := fun _ _ _ h => h
theorem Kp.trans {w1 : World} (h : Kp b wk w) (k : Kp b w w1) : Kp b wk w1 := fun C q hq hC => k C q hq (h C q hq hC)
theorem Kp.below (h : Kp b wk w) (hb : Below w.heap.size w w') : Kp b wk w' := fun C q hq hC => (h C q hq hC).below hb
theorem Kp.box (h : Kp b wk w) (i : Nat) (v : Value) : Kp b wk (w.setCell ⟨b, i, none⟩ v) := fun C q hq hC => (h C q hq hC).other hq _ _
theorem Kp.cellT (h : Kp b wk w) {B sz g n cap : Nat} {xs : List Value} (hr : w.ownsRow B 41 sz (.slice (some ⟨g, 0, none⟩) n cap) n xs) (i : Nat) (v : Value) : Kp b wk (w.setCell ⟨g, i, none⟩ v) := fun C q hq hC =>
  (h C q hq hC).other (fun e => own_of_blk (h C q hq hC) hr (by decide) (by rw [e]; rfl)) _ _
theorem Kp.row (h : Kp b wk w) {E : Array Value} {G : Nat} (hE : BkIn E 41 w G) (D : Array Value) : Kp b wk (w.setRow G D) := fun C q hq hC => by
  have h1 := h C q hq hC
  have hne : q ≠ G := fun e => by
    subst e
    unfold BkIn at h1 hE
    rw [h1] at hE
    injection hE with hE
    injection hE with _ hE
    exact absurd hE (by decide)
  exact (setRow_other w G q D hne).trans h1
theorem Kp.grown (h : Kp b wk w) {B sz n : Nat} {v : Value} {xs : List Value} (hr : w.ownsRow B 3 sz v n xs) (hg : w.grownBy w' v.ownBlock) : Kp b wk w' := fun C q hq hC => by
  have h1 := h C q hq hC
  have := hg.block q h1.lt (fun e => own_of_blk h1 hr (by decide) e.symm)
  exact this.trans h1
end
def SwapR (w0 wk : World) (b k : Nat) (Rk : List Rt) (log next : Int) (fs : List Int) (e : Ending) (w' : World) : Prop :=
  (¬ SwapOk next (Rk.getD k rt0).l fs ∧ e = .returned (.bool false) ∧ Below w0.heap.size w0 w' ∧ Kp b wk w') ∨
  (SwapOk next (Rk.getD k rt0).l fs ∧ e = .returned (.bool true) ∧ EdOut w0 b ((tbs Rk).set k ⟨(Rk.getD k rt0).f, fs⟩) log (if fs = [] then next else max next (IntKind.i64.wrap (Ed.lastOf 0 fs + 1))) w' ∧ Kp b wk w')
set_option maxHeartbeats 4000000 in
set_option maxRecDepth 100000 in
theorem swap16_any (w0 : World) (b g c k : Nat) (Rs Rk : List Rt) (log next : Int) (hk : k < Rs.length) (hl : (Rk.getD k rt0).l.length ≤ 100000) (fs : List Int) (hf : fs.length ≤ 100000) (fo : Option Addr) (fc : Nat) (hfs : NsAt w0 fo fs) (w : World) (h : Ahd w0 b g c Rs Rk log next w) :
    Calls Try.prog 50 #[.pointer (some ⟨b, 0, none⟩), .pointer (some ⟨g, k * 2, none⟩), .slice fo fs.length fc] w (SwapR w0 w b k Rk log next fs) := by
  have HH := Lib.hid h
  have HFS := Lib.hid (hfs.below h.cl.bel)
  have z2 : w.cell? ⟨b, 2, none⟩ = some (.int .i64 next) := h.bx.cell 2
  have t1 := h.cells hk
  have HN := Lib.hid (h.cl.ns _ (Ed.gD_mem (d := rt0) (show k < Rk.length by rw [h.cl.len]; exact hk)))
  have CC := Lib.hid (fun x => contains16_any (Rk.getD k rt0).l (by omega) (Rk.getD k rt0).o (Rk.getD k rt0).k x w HN.out)
  have HF0 := Lib.hid hfs
  clear h hfs
  have HK := Lib.hid (show ∃ r, r = Rk.getD k rt0 from ⟨_, rfl⟩)
  obtain ⟨r, hr⟩ := HK.out
  rw [← hr] at t1 hl HN CC
  have HR := Lib.hid hr
  clear hr HK
  obtain ⟨f, l, o, kc⟩ := r
  simp only at t1 hl CC
  go_enter Try.func50, Try.ntmps50
  go_wp2_with fail
  go_loopw [11] (fun i wr => ∃ j : Nat, j ≤ fs.length ∧ i = .int .i64 j ∧ Hid (SwapOk next l (fs.take j)) ∧ w = wr) (fun i _ => fs.length - (intOf i).toNat)
  case atStart => exact ⟨0, Nat.zero_le _, rfl, Lib.hid (fun n hn => by simp at hn), rfl⟩
  case round =>
    obtain ⟨j, hj, rfl, HS, rfl⟩ := hrel
    by_cases hlt : j < fs.length
    · have hji : (j : Int) < (fs.length : Int) := by omega
      obtain ⟨g', off, rfl, hc⟩ := HFS.out.off j hlt
      have HT := Lib.hid (Ed.take_snoc fs j 0 hlt)
      have HM := Lib.hid (Ed.gD_mem (d := 0) hlt)
      generalize fs.getD j 0 = n at *
      by_cases h1 : n < next
      · have d1 : decide (n < next) = true := decide_eq_true h1
        have C1 := Lib.hid (CC.out n)
        cases q : l.contains n with
        | false =>
          rw [q] at C1
          have HF := Lib.hid (show ¬ SwapOk next (Rk.getD k rt0).l fs from fun h => by
            rcases h n HM.out with h | h
            · omega
            · rw [← HR.out] at h; simp at q; exact q h)
          clear q
          go_wp2_with fail
          with_reducible refine (C1.out).mono ?_
          rintro e w4 ⟨rfl, rfl⟩
          go_wp2_with fail
          go_ret
          exact .inl ⟨HF.out, rfl, HH.out.cl.bel, Kp.refl _ _⟩
        | true =>
          rw [q] at C1
          have HS1 := Lib.hid (show SwapOk next l (fs.take (j + 1)) from fun x hx => by
            rw [HT.out, List.mem_append, List.mem_singleton] at hx
            rcases hx with hx | rfl
            · exact HS.out x hx
            · exact .inr (by simpa using q))
          clear q HS HT
          go_wp2_with fail
          with_reducible refine (C1.out).mono ?_
          rintro e w4 ⟨rfl, rfl⟩
          go_wp2_with fail
          go_roundw
          case rel => exact ⟨j + 1, by omega, by go_num, HS1, trivial⟩
          case measure => simp [intOf]; omega
      · have d1 : decide (n < next) = false := decide_eq_false h1
        have HS1 := Lib.hid (show SwapOk next l (fs.take (j + 1)) from fun x hx => by
          rw [HT.out, List.mem_append, List.mem_singleton] at hx
          rcases hx with hx | rfl
          · exact HS.out x hx
          · exact .inl (by omega))
        clear HS HT
        go_wp2_with fail
        go_roundw
        case rel => exact ⟨j + 1, by omega, by go_num, HS1, trivial⟩
        case measure => simp [intOf]; omega
    · obtain rfl : j = fs.length := by omega
      rw [List.take_length] at HS
      have HS1 := Lib.hid (show SwapOk next (Rk.getD k rt0).l fs from by rw [← HR.out]; exact HS.out)
      have hkk : k < Rk.length := by rw [HH.out.cl.len]; exact hk
      have CI := Lib.hid (cloneI_any fs hf fo fc w HFS.out)
      have g1 := fun x (hx : Below w.heap.size w x) => (HH.out.below hx).cells hk
      have g2 := fun x (hx : Below w.heap.size w x) => (HH.out.below hx).cl.row.frozenAt (k * 2 + 1)
      have HG := Lib.hid (And.intro g1 g2)
      clear g1 g2 HS CC hlt
      have e0 : decide ((fs.length : Int) < (fs.length : Int)) = false := by simp
      have e1 : decide (fs.length < fs.length) = false := by simp
      go_wp2_with fail
      with_reducible refine (CI.out).mono ?_
      rintro e w4 ⟨a4, c4, rfl, hown, hb4⟩
      have m4 := HG.out.1 w4 hb4
      have f4 := HG.out.2 w4 hb4
      have HO := Lib.hid (HH.out.own.store (k := k) hkk hb4 hown)
      have HKP := Lib.hid (((Kp.refl b w).below hb4).cellT (HH.out.below hb4).own.row (k * 2 + 1) (.slice a4 fs.length c4))
      have HX := Lib.hid (show BkIn #[.slice (some ⟨g, 0, none⟩) Rs.length c, .int .i64 log, .int .i64 next] 24 (w4.setCell ⟨g, k * 2 + 1, none⟩ (.slice a4 fs.length c4)) b from (HH.out.bx.below hb4).other HH.out.ne _ _)
      have HF4 := Lib.hid (show fs ≠ [] → ∃ q off, fo = some ⟨q, off, none⟩ ∧ (w4.setCell ⟨g, k * 2 + 1, none⟩ (.slice a4 fs.length c4)).cell? ⟨q, off + (fs.length - 1), none⟩ = some (.int .i64 (Ed.lastOf 0 fs)) from fun hne => by
        obtain ⟨q, off, e, hc⟩ := (HF0.out.below HO.out.bel) hne
        refine ⟨q, off, e, ?_⟩
        have := hc (fs.length - 1) (by have := List.length_pos_iff.2 hne; omega)
        rw [this]
        simp [Ed.lastOf, List.getLast?_eq_getElem?, List.getD])
      clear hown hb4 CI HG
      by_cases hfe : fs = []
      · have d0 : decide ((0 : Int) < (fs.length : Int)) = false := decide_eq_false (by rw [hfe]; simp)
        have d1 : decide (0 < fs.length) = false := decide_eq_false (by rw [hfe]; simp)
        have HE := Lib.hid hfe
        clear hfe
        go_wp2_with fail
        go_ret
        exact .inr ⟨HS1.out, rfl, by rw [if_pos HE.out]; have := HO.out.out (log := log) (next := next) (b := b) (by rw [List.length_set, HH.out.cl.len]; exact HX.out); rw [tbs_set] at this; exact this, HKP.out⟩
      · have hlp : 0 < fs.length := List.length_pos_iff.2 hfe
        have d0 : decide ((0 : Int) < (fs.length : Int)) = true := decide_eq_true (by omega)
        have d1 : decide (0 < fs.length) = true := decide_eq_true hlp
        obtain ⟨g', off, rfl, x4⟩ := HF4.out hfe
        have HX4 := Lib.hid x4
        have HE := Lib.hid hfe
        clear hfe x4
        obtain ⟨j, hj⟩ : ∃ j, j = fs.length - 1 := ⟨_, rfl⟩
        rw [← hj] at HX4
        have e5 : (fs.length : Int) - 1 = (j : Int) := by omega
        have e6 : IntKind.i64.wrap (j : Int) = (j : Int) := IntWalk.i64_in _ (by omega)
        have hji : (j : Int) < (fs.length : Int) := by omega
        clear hj e0 e1
        generalize hlo : Ed.lastOf 0 fs = lo at *
        have HLO := Lib.hid hlo
        clear hlo
        go_wp2_with fail
        clear m4 f4
        generalize hw5 : (w4.setCell ⟨g, k * 2 + 1, none⟩ (.slice a4 fs.length c4)) = w5 at *
        clear hw5
        have HB := Lib.hid (Below.refl w5.heap.size w5)
        refine wp_region_Z (S := fun V => V.cell? ⟨b, 2, none⟩ = some (.int .i64 next) ∧ V.cell? ⟨g', off + j, none⟩ = some (.int .i64 lo)) 15 (by kernel_rfl) ?_ (fun hHeld => ?_)
        · exact ⟨(HX.out.below HB.out.drew).cell 2, HX4.out⟩
        replace HB := Lib.hid HB.out.drew
        obtain ⟨wd, hwd⟩ : ∃ x, x = World.drew w5 := ⟨_, rfl⟩
        rw [← hwd] at HB hHeld ⊢
        have HY4 := Lib.hid (show wd.cell? ⟨g', off + j, none⟩ = some (.int .i64 lo) from hHeld.2)
        clear hwd
        refine wpAnyZ_takeY (i := 0) (oi := { dst := some 39, op := Op.move (Operand.tmp 0), type := 59, pos := "edits.go:104", after := #[], guard := none }) (v := ?_) rfl (by kernel_rfl) (by kernel_rfl) (by kernel_rfl) (by rfl) (fun _ _ _ h => h) (Or.inl ⟨by rfl, ?_⟩) (by assumption) ?_
        rotate_left
        · (intro w; go_simp); (first | done | with_reducible rfl)
        try simp only [Act.put, List.setIfInBounds_toArray, List.set_cons_zero, List.set_cons_succ]
        refine wpAnyZ_takeY (i := 1) (oi := { dst := some 40, op := Op.move (Operand.tmp 0), type := 59, pos := "edits.go:104", after := #[], guard := none }) (v := ?_) rfl (by kernel_rfl) (by kernel_rfl) (by kernel_rfl) (by rfl) (fun _ _ _ h => h) (Or.inl ⟨by rfl, ?_⟩) (by assumption) ?_
        rotate_left
        · (intro w; go_simp); (first | done | with_reducible rfl)
        try simp only [Act.put, List.setIfInBounds_toArray, List.set_cons_zero, List.set_cons_succ]
        refine wpAnyZ_takeY (i := 2) (oi := { dst := some 41, op := Op.nilCheck (Operand.tmp 40), type := 0, pos := "edits.go:104", after := #[{ on := 1, ground := Ground.data }], guard := none }) (v := ?_) rfl (by kernel_rfl) (by kernel_rfl) (by kernel_rfl) (by rfl) (fun _ _ _ h => h) (Or.inl ⟨by rfl, ?_⟩) (by assumption) ?_
        rotate_left
        · (intro w; go_simp); (first | done | with_reducible rfl)
        try simp only [Act.put, List.setIfInBounds_toArray, List.set_cons_zero, List.set_cons_succ]
        refine wpAnyZ_takeY (i := 3) (oi := { dst := some 42, op := Op.fieldAddr 24 (Operand.tmp 41) 2, type := 0, pos := "edits.go:104", after := #[{ on := 2, ground := Ground.data }], guard := none }) (v := ?_) rfl (by kernel_rfl) (by kernel_rfl) (by kernel_rfl) (by rfl) (fun _ _ _ h => h) (Or.inl ⟨by rfl, ?_⟩) (by assumption) ?_
        rotate_left
        · (intro w; go_simp); (first | done | with_reducible rfl)
        try simp only [Act.put, List.setIfInBounds_toArray, List.set_cons_zero, List.set_cons_succ]
        refine wpAnyZ_take (i := 4) (oi := { dst := some 43, op := Op.load 3 (Operand.tmp 42), type := 3, pos := "edits.go:104", after := #[{ on := 3, ground := Ground.data }], guard := none }) (v := ?_) [12, 13, 14, 15] rfl (by kernel_rfl) (by kernel_rfl) (by kernel_rfl) (by kernel_rfl) (fun _ _ _ h => h) (Or.inl ⟨by rfl, ?_⟩) (by assumption) ?_
        rotate_left
        · (intro w hSw; (try dsimp only at hSw); go_simp); (first | done | with_reducible rfl)
        try simp only [Act.put, List.setIfInBounds_toArray, List.set_cons_zero, List.set_cons_succ]
        refine wpAnyZ_takeY (i := 5) (oi := { dst := some 44, op := Op.move (Operand.tmp 2), type := 25, pos := "edits.go:104", after := #[], guard := none }) (v := ?_) rfl (by kernel_rfl) (by kernel_rfl) (by kernel_rfl) (by rfl) (fun _ _ _ h => h) (Or.inl ⟨by rfl, ?_⟩) (by assumption) ?_
        rotate_left
        · (intro w; go_simp); (first | done | with_reducible rfl)
        try simp only [Act.put, List.setIfInBounds_toArray, List.set_cons_zero, List.set_cons_succ]
        refine wpAnyZ_takeY (i := 6) (oi := { dst := some 45, op := Op.move (Operand.tmp 2), type := 25, pos := "edits.go:104", after := #[], guard := none }) (v := ?_) rfl (by kernel_rfl) (by kernel_rfl) (by kernel_rfl) (by rfl) (fun _ _ _ h => h) (Or.inl ⟨by rfl, ?_⟩) (by assumption) ?_
        rotate_left
        · (intro w; go_simp); (first | done | with_reducible rfl)
        try simp only [Act.put, List.setIfInBounds_toArray, List.set_cons_zero, List.set_cons_succ]
        refine wpAnyZ_takeY (i := 7) (oi := { dst := some 46, op := Op.call { callee := Callee.builtin Builtin.len, args := #[Operand.tmp 45], argTypes := #[25] }, type := 3, pos := "edits.go:104", after := #[{ on := 6, ground := Ground.data }], guard := none }) (v := ?_) rfl (by kernel_rfl) (by kernel_rfl) (by kernel_rfl) (by rfl) (fun _ _ _ h => h) (Or.inl ⟨by rfl, ?_⟩) (by assumption) ?_
        rotate_left
        · (intro w; go_simp); (first | done | with_reducible rfl)
        try simp only [Act.put, List.setIfInBounds_toArray, List.set_cons_zero, List.set_cons_succ]
        refine wpAnyZ_takeY (i := 8) (oi := { dst := some 47, op := Op.binOp BinOp.sub 3 (Operand.tmp 46) (Operand.const (Value.int IntKind.i64 1)) 3, type := 3, pos := "edits.go:104", after := #[{ on := 7, ground := Ground.data }], guard := none }) (v := ?_) rfl (by kernel_rfl) (by kernel_rfl) (by kernel_rfl) (by rfl) (fun _ _ _ h => h) (Or.inl ⟨by rfl, ?_⟩) (by assumption) ?_
        rotate_left
        · (intro w; go_simp); (first | done | with_reducible rfl)
        try simp only [Act.put, List.setIfInBounds_toArray, List.set_cons_zero, List.set_cons_succ]
        refine wpAnyZ_takeY (i := 9) (oi := { dst := some 48, op := Op.indexAddr 25 (Operand.tmp 44) (Operand.tmp 47), type := 0, pos := "edits.go:104", after := #[{ on := 5, ground := Ground.data }, { on := 8, ground := Ground.data }], guard := none }) (v := ?_) rfl (by kernel_rfl) (by kernel_rfl) (by kernel_rfl) (by rfl) (fun _ _ _ h => h) (Or.inl ⟨by rfl, ?_⟩) (by assumption) ?_
        rotate_left
        · (intro w; go_simp); (first | done | with_reducible rfl)
        try simp only [Act.put, List.setIfInBounds_toArray, List.set_cons_zero, List.set_cons_succ]
        refine wpAnyZ_take (i := 10) (oi := { dst := some 49, op := Op.load 3 (Operand.tmp 48), type := 3, pos := "edits.go:104", after := #[{ on := 9, ground := Ground.data }], guard := none }) (v := ?_) [11, 12, 13, 14, 15] rfl (by kernel_rfl) (by kernel_rfl) (by kernel_rfl) (by kernel_rfl) (fun _ _ _ h => h) (Or.inl ⟨by rfl, ?_⟩) (by assumption) ?_
        rotate_left
        · (intro w hSw; (try dsimp only at hSw); go_simp); (first | done | with_reducible rfl)
        try simp only [Act.put, List.setIfInBounds_toArray, List.set_cons_zero, List.set_cons_succ]
        refine wpAnyZ_takeY (i := 11) (oi := { dst := some 50, op := Op.binOp BinOp.add 3 (Operand.tmp 49) (Operand.const (Value.int IntKind.i64 1)) 3, type := 3, pos := "edits.go:104", after := #[{ on := 10, ground := Ground.data }], guard := none }) (v := ?_) rfl (by kernel_rfl) (by kernel_rfl) (by kernel_rfl) (by rfl) (fun _ _ _ h => h) (Or.inl ⟨by rfl, ?_⟩) (by assumption) ?_
        rotate_left
        · (intro w; go_simp); (first | done | with_reducible rfl)
        try simp only [Act.put, List.setIfInBounds_toArray, List.set_cons_zero, List.set_cons_succ]
        refine wpAnyZ_takeY (i := 12) (oi := { dst := some 51, op := Op.call { callee := Callee.builtin Builtin.max, args := #[Operand.tmp 43, Operand.tmp 50], argTypes := #[3, 3] }, type := 3, pos := "edits.go:104", after := #[{ on := 4, ground := Ground.data }, { on := 11, ground := Ground.data }], guard := none }) (v := ?_) rfl (by kernel_rfl) (by kernel_rfl) (by kernel_rfl) (by rfl) (fun _ _ _ h => h) (Or.inl ⟨by rfl, ?_⟩) (by assumption) ?_
        rotate_left
        · (intro w; go_simp); (first | done | with_reducible rfl)
        try simp only [Act.put, List.setIfInBounds_toArray, List.set_cons_zero, List.set_cons_succ]
        refine wpAnyZ_takeY (i := 13) (oi := { dst := some 52, op := Op.nilCheck (Operand.tmp 39), type := 0, pos := "edits.go:104", after := #[{ on := 0, ground := Ground.data }, { on := 0, ground := Ground.phase }, { on := 1, ground := Ground.phase }, { on := 2, ground := Ground.phase }, { on := 3, ground := Ground.phase }, { on := 4, ground := Ground.phase }, { on := 5, ground := Ground.phase }, { on := 6, ground := Ground.phase }, { on := 7, ground := Ground.phase }, { on := 8, ground := Ground.phase }, { on := 9, ground := Ground.phase }, { on := 10, ground := Ground.phase }, { on := 11, ground := Ground.phase }, { on := 12, ground := Ground.phase }], guard := none }) (v := ?_) rfl (by kernel_rfl) (by kernel_rfl) (by kernel_rfl) (by rfl) (fun _ _ _ h => h) (Or.inl ⟨by rfl, ?_⟩) (by assumption) ?_
        rotate_left
        · (intro w; go_simp); (first | done | with_reducible rfl)
        try simp only [Act.put, List.setIfInBounds_toArray, List.set_cons_zero, List.set_cons_succ]
        refine wpAnyZ_takeY (i := 14) (oi := { dst := some 53, op := Op.fieldAddr 24 (Operand.tmp 52) 2, type := 0, pos := "edits.go:104", after := #[{ on := 13, ground := Ground.data }, { on := 0, ground := Ground.phase }, { on := 1, ground := Ground.phase }, { on := 2, ground := Ground.phase }, { on := 3, ground := Ground.phase }, { on := 4, ground := Ground.phase }, { on := 5, ground := Ground.phase }, { on := 6, ground := Ground.phase }, { on := 7, ground := Ground.phase }, { on := 8, ground := Ground.phase }, { on := 9, ground := Ground.phase }, { on := 10, ground := Ground.phase }, { on := 11, ground := Ground.phase }, { on := 12, ground := Ground.phase }], guard := none }) (v := ?_) rfl (by kernel_rfl) (by kernel_rfl) (by kernel_rfl) (by rfl) (fun _ _ _ h => h) (Or.inl ⟨by rfl, ?_⟩) (by assumption) ?_
        rotate_left
        · (intro w; go_simp); (first | done | with_reducible rfl)
        try simp only [Act.put, List.setIfInBounds_toArray, List.set_cons_zero, List.set_cons_succ]
        refine wpAnyZ_ready (rs := [15]) (by kernel_rfl) (by simp) ?_
        refine AllReadyZ.last (o := { dst := none, op := Op.store 3 (Operand.tmp 53) (Operand.tmp 51), type := 0, pos := "edits.go:104", after := #[{ on := 14, ground := Ground.data }, { on := 12, ground := Ground.data }, { on := 0, ground := Ground.phase }, { on := 1, ground := Ground.phase }, { on := 2, ground := Ground.phase }, { on := 3, ground := Ground.phase }, { on := 4, ground := Ground.phase }, { on := 5, ground := Ground.phase }, { on := 6, ground := Ground.phase }, { on := 7, ground := Ground.phase }, { on := 8, ground := Ground.phase }, { on := 9, ground := Ground.phase }, { on := 10, ground := Ground.phase }, { on := 11, ground := Ground.phase }, { on := 12, ground := Ground.phase }], guard := none }) rfl (fun K hK => ?_) AllReadyZ.nil
        have f9 := (HX.out.below HB.out).free 2
        have m9 := (HX.out.below HB.out).cell 2
        go_simp
        refine hK.out _ _ ?_
        clear hK K
        refine wpAny_done (by kernel_rfl) ?_ _
        go_wp2_with fail
        go_ret
        have h5 := (HO.out.below HB.out).box (HX.out.below HB.out) HH.out.b0 2 (.int .i64 (max next (IntKind.i64.wrap (lo + 1))))
        have h6 := h5.out (log := log) (next := max next (IntKind.i64.wrap (lo + 1))) (b := b) (by rw [List.length_set, HH.out.cl.len]; exact (HX.out.below HB.out).set 2 _)
        rw [tbs_set] at h6
        exact .inr ⟨HS1.out, rfl, by rw [if_neg HE.out, HLO.out]; exact h6, (HKP.out.below HB.out).box 2 _⟩

end Go.Proofs.Ytfcmjgcjmldpcaa
