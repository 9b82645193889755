/- Layer 16: clone, by a contract. -/
import Derived.Test.YtfcmjgcjmldpcaaEditsJ
import Derived.Test.YtfcmjgcjmldpcaaLast
import Derived.Deep.RegionHeld
namespace Go.Proofs.Ytfcmjgcjmldpcaa
set_option linter.unusedVariables false
set_option linter.unusedSimpArgs false
open Go Go.RowKit
attribute [local go_sem ↓] run_index_S
attribute [local go_sem] S_append S_extract

theorem BkIn.set {C : Array Value} {T : TypeId} {w : World} {b : Nat} (h : BkIn C T w b) (i : Nat) (v : Value) : BkIn (C.setIfInBounds i v) T (w.setCell ⟨b, i, none⟩ v) b := by
  unfold BkIn at *
  simp [World.setCell, Array.getElem?_modify, h]
theorem BkIn.other {C : Array Value} {T : TypeId} {w : World} {b : Nat} (h : BkIn C T w b) {c : Nat} (hne : b ≠ c) (i : Nat) (v : Value) : BkIn C T (w.setCell ⟨c, i, none⟩ v) b := by
  unfold BkIn at *
  rw [Below.heap_setCell _ _ _ _ hne]; exact h
theorem BkIn.free {C : Array Value} {T : TypeId} {w : World} {b : Nat} (h : BkIn C T w b) (j : Nat) : w.frozen? ⟨b, j, none⟩ = false := by
  unfold BkIn at h
  simp [World.frozen?, h]
theorem below_row16 {B : Nat} {a w : World} (h : Below B a w) {b : Nat} (hb : B ≤ b) (C : Array Value) : Below B a (w.setRow b C) :=
  h.trans ⟨rfl, rfl, rfl, by simp [World.setRow], fun k hk => by simp only [World.setRow, Array.getElem?_modify]; rw [if_neg (by omega)]⟩
theorem own_row16 {w : World} {B sz : Nat} {e : TypeId} {v : Value} {n : Nat} {xs : List Value} (h : w.ownsRow B e sz v n xs) {r : Nat} (hr : v.ownBlock ≠ some r) (C : Array Value) : (w.setRow r C).ownsRow B e sz v n xs := by
  refine ⟨h.1, ?_⟩
  rcases h.2 with hc | ⟨g, cap, cur, rfl, hBg, hgg, rest⟩
  · exact .inl hc
  · refine .inr ⟨g, cap, cur, rfl, hBg, ?_, rest⟩
    have hne : g ≠ r := fun e => hr (by rw [← e]; rfl)
    simp only [World.setRow, Array.getElem?_modify]
    rw [if_neg (Ne.symm hne)]; exact hgg
theorem own_of_blk {w : World} {C : Array Value} {T : TypeId} {b : Nat} (h : BkIn C T w b) {B sz : Nat} {e : TypeId} {v : Value} {n : Nat} {xs : List Value} (k : w.ownsRow B e sz v n xs) (hne : T ≠ e) : v.ownBlock ≠ some b := by
  intro hx
  rcases k.2 with ⟨rfl, _⟩ | ⟨g, cap, cur, rfl, _, hg, _⟩
  · cases hx
  · simp only [Value.ownBlock, Option.some.injEq] at hx
    subst hx
    unfold BkIn at h
    rw [hg] at h
    simp at h
    exact hne h.2.symm
theorem ClI.rowPut {w0 w : World} {k : Nat} {Rs Rk : List Rt} {g c : Nat} (h : ClI w0 k Rs Rk g c w) {b : Nat} (hb : b < g) (hb0 : w0.heap.size ≤ b) (C : Array Value) {D : Array Value} {T : TypeId} (hD : BkIn D T w b) (hT : T ≠ 3) : ClI w0 k Rs Rk g c (w.setRow b C) :=
  ⟨h.len, h.same, own_row16 h.row (by simp [Value.ownBlock]; omega) _, h.old, fun j hj => own_row16 (h.own j hj) (own_of_blk hD (h.own j hj) hT) _, h.dis, below_row16 h.bel hb0 _⟩
theorem ClI.put {w0 w : World} {k : Nat} {Rs Rk : List Rt} {g c : Nat} (h : ClI w0 k Rs Rk g c w) {b : Nat} (hb : b < g) (hb0 : w0.heap.size ≤ b) (v : Value) (hk : k = 0 := by rfl) : ClI w0 k Rs Rk g c (w.setCell ⟨b, 0, none⟩ v) :=
  ⟨h.len, h.same, ownsRow_setCell_other h.row (by simp [Value.ownBlock]; omega) _, h.old, fun j hj => absurd hj (by omega), fun i j _ hj => absurd hj (by omega), h.bel.setCell (by exact hb0) _⟩
def Clone16 (Rs : List Rt) (log next : Int) (w : World) (e : Ending) (w' : World) : Prop := ∃ Rk g c, e = .returned (stV (some ⟨g, 0, none⟩) Rs.length c log next) ∧ ClI w Rs.length Rs Rk g c w'
set_option maxHeartbeats 4000000 in
set_option maxRecDepth 100000 in
theorem clone16_any (Rs : List Rt) (hne : Rs ≠ []) (hn : Rs.length ≤ 16) (hl : ∀ r, r ∈ Rs → r.l.length ≤ 100000) (ao : Option Addr) (cap : Nat) (log next : Int) (w : World) (h : TbsAt w ao Rs) :
    Calls Try.prog 30 #[stV ao Rs.length cap log next] w (Clone16 Rs log next w) := by
  have HA := Lib.hid h
  have HL := Lib.hid hl
  have hp : 0 < Rs.length := List.length_pos_iff.2 hne
  clear h hl
  unfold stV
  go_enter Try.func30, Try.ntmps30
  obtain ⟨w1, hw1⟩ : ∃ x, x = (w.alloc (.cells #[.slice ao Rs.length cap, .int .i64 log, .int .i64 next] 24)).alloc (.cells #[.slice none 0 0, .int .i64 0, .int .i64 0] 24) := ⟨_, rfl⟩
  have hb1 : Below w.heap.size w w1 := by rw [hw1]; exact bel_two _ _ _
  have hs1 : w1.heap.size = w.heap.size + 2 := by rw [hw1]; simp
  have HS1 := Lib.hid (show BkIn (stA ao Rs.length cap log next) 24 w1 w.heap.size from by rw [hw1]; exact (bkIn_new _ _ w).below ((Below.refl _ _).alloc (Nat.le_refl _) _))
  have HZ1 := Lib.hid (show BkIn #[.slice none 0 0, .int .i64 0, .int .i64 0] 24 w1 (w.heap.size + 1) from by rw [hw1]; have := bkIn_new #[.slice none 0 0, .int .i64 0, .int .i64 0] 24 (w.alloc (.cells #[.slice ao Rs.length cap, .int .i64 log, .int .i64 next] 24)); simpa using this)
  have CT := Lib.hid (cloneT_any Rs hne (by omega) ao cap w1 (HA.out.below hb1))
  go_wp2_with fail
  rw [← hw1]
  with_reducible refine (CT.out).mono ?_
  rintro e w2 ⟨ao2, c, rfl, hown, hb2⟩
  obtain ⟨g, rfl⟩ : ∃ g, ao2 = some ⟨g, 0, none⟩ := by obtain ⟨g, e, _⟩ := own_cell16 hp hown; exact ⟨g, e⟩
  have hgl := hown.lt g rfl
  have HS2 := Lib.hid (HS1.out.below hb2)
  have HZ2 := Lib.hid (HZ1.out.below hb2)
  have HC2 := Lib.hid (show ClI w 0 Rs Rs g c w2 from ⟨rfl, rfl, own_base16 hown (by omega), fun _ _ => rfl, fun j hj => absurd hj (by omega), fun i j _ hj => absurd hj (by omega), hb1.trans (hb2.mono (by omega))⟩)
  have HG := Lib.hid (show w.heap.size + 2 ≤ g from by omega)
  clear CT HS1 HZ1 hb1 hb2 hown hgl hw1 hs1
  have f0 := HS2.out.free 0
  have m0 := HS2.out.cell 0
  go_wp2_with fail
  have HS3 := Lib.hid (show BkIn #[.slice (some ⟨g, 0, none⟩) Rs.length c, .int .i64 log, .int .i64 next] 24 (w2.setCell ⟨w.heap.size, 0, none⟩ (.slice (some ⟨g, 0, none⟩) Rs.length c)) w.heap.size from HS2.out.set 0 _)
  have HZ3 := Lib.hid (show BkIn #[.slice none 0 0, .int .i64 0, .int .i64 0] 24 (w2.setCell ⟨w.heap.size, 0, none⟩ (.slice (some ⟨g, 0, none⟩) Rs.length c)) (w.heap.size + 1) from HZ2.out.other (by omega) 0 _)
  have HC3 := Lib.hid (show ClI w 0 Rs Rs g c (w2.setCell ⟨w.heap.size, 0, none⟩ (.slice (some ⟨g, 0, none⟩) Rs.length c)) from HC2.out.put (by have := HG.out; omega) (Nat.le_refl _) _)
  generalize w2.setCell ⟨w.heap.size, 0, none⟩ (.slice (some ⟨g, 0, none⟩) Rs.length c) = w3 at *
  clear HS2 HZ2 HC2 f0 m0
  have n0 := HS3.out.cell 0
  have n1 : w3.cell? ⟨w.heap.size, 0, none⟩ = some (.slice (some ⟨g, 0, none⟩) Rs.length c) := n0
  clear n0
  go_wp2_with fail
  clear n1
  go_loopw [11] (fun i wr => ∃ (k : Nat) (Rk : List Rt), k ≤ Rs.length ∧ i = .int .i64 k ∧ Hid (ClI w k Rs Rk g c wr) ∧ Hid (BkIn #[.slice (some ⟨g, 0, none⟩) Rs.length c, .int .i64 log, .int .i64 next] 24 wr w.heap.size) ∧ Hid (BkIn #[.slice none 0 0, .int .i64 0, .int .i64 0] 24 wr (w.heap.size + 1))) (fun i _ => Rs.length - (intOf i).toNat)
  case atStart => exact ⟨0, Rs, Nat.zero_le _, rfl, HC3, HS3, HZ3⟩
  case round =>
    obtain ⟨k, Rk, hk, rfl, HCk, HSk, HZk⟩ := hrel
    clear HS3 HZ3 HC3
    by_cases hlt : k < Rs.length
    · have hki : (k : Int) < (Rs.length : Int) := by omega
      have hkr : k < Rk.length := by rw [HCk.out.len]; exact hlt
      have HX := Lib.hid (show ∀ x, Below wr.heap.size wr x → x.cell? ⟨w.heap.size, 0, none⟩ = some (.slice (some ⟨g, 0, none⟩) Rs.length c) ∧ x.cell? ⟨g, k * 2 + 1, none⟩ = some (.slice (Rs.getD k rt0).o (Rs.getD k rt0).l.length (Rs.getD k rt0).k) from fun x hx => ⟨(HSk.out.below hx).cell 0, by
        have h1 := (HCk.out.below hx).row.cellAt (k * 2 + 1) (by omega)
        rw [h1, tbC_get Rk k 1 hkr (by omega), HCk.out.old k (Nat.le_refl _)]; rfl⟩)
      have CI := Lib.hid (show ∀ x, Below wr.heap.size wr x → Calls Try.prog 48 #[.slice (Rs.getD k rt0).o (Rs.getD k rt0).l.length (Rs.getD k rt0).k] x (CloneI (Rs.getD k rt0).l x) from fun x hx => cloneI_any _ (HL.out _ (Ed.gD_mem hlt)) _ _ x (((HA.out.off k hlt).elim fun _ h => h.elim fun _ h => h.2.2.2).below HCk.out.bel |>.below hx))
      have HST := Lib.hid (fun (x y : World) (hx : Below wr.heap.size wr x) (hy : Below x.heap.size x y) (a : Option Addr) (c' : Nat) hown => (HCk.out.below hx).step (ao := a) (c' := c') hlt hy hown)
      have HLT := Lib.hid hlt
      generalize hro : (Rs.getD k rt0).o = ro at *
      generalize hrk : (Rs.getD k rt0).k = rk at *
      generalize hrl : (Rs.getD k rt0).l = rl at *
      generalize hrf : (Rs.getD k rt0).f = rf at *
      clear hro hrk hrl hrf
      go_wp2_with fail
      have HB := Lib.hid (Below.refl wr.heap.size wr)
      refine wp_region_Z (S := fun V => V.cell? ⟨w.heap.size, 0, none⟩ = some (.slice (some ⟨g, 0, none⟩) Rs.length c) ∧ V.cell? ⟨g, k * 2 + 1, none⟩ = some (.slice ro rl.length rk)) 12 (by kernel_rfl) ?_ (fun hHeld => ?_)
      · exact HX.out _ HB.out.drew
      replace HB := Lib.hid HB.out.drew
      obtain ⟨wd, hwd⟩ : ∃ x, x = World.drew wr := ⟨_, rfl⟩
      rw [← hwd] at HB hHeld ⊢
      clear hwd
      refine wpAnyZ_takeY (i := 0) (oi := { dst := some 14, op := Op.fieldAddr 24 (Operand.tmp 1) 0, type := 0, pos := "edits.go:46", after := #[], guard := none }) (v := ?_) rfl (by kernel_rfl) (by kernel_rfl) (by kernel_rfl) (by rfl) (fun _ _ _ h => h) (Or.inl ⟨by rfl, ?_⟩) (by assumption) ?_
      rotate_left
      · (intro w; go_simp); (first | done | with_reducible rfl)
      try simp only [Act.put, List.setIfInBounds_toArray, List.set_cons_zero, List.set_cons_succ]
      refine wpAnyZ_take (i := 1) (oi := { dst := some 15, op := Op.load 22 (Operand.tmp 14), type := 22, pos := "edits.go:46", after := #[{ on := 0, ground := Ground.data }], guard := none }) (v := ?_) [10, 11, 12] rfl (by kernel_rfl) (by kernel_rfl) (by kernel_rfl) (by kernel_rfl) (fun _ _ _ h => h) (Or.inl ⟨by rfl, ?_⟩) (by assumption) ?_
      rotate_left
      · (intro w hSw; (try dsimp only at hSw); go_simp); (first | done | with_reducible rfl)
      try simp only [Act.put, List.setIfInBounds_toArray, List.set_cons_zero, List.set_cons_succ]
      refine wpAnyZ_takeY (i := 2) (oi := { dst := some 16, op := Op.move (Operand.tmp 3), type := 3, pos := "edits.go:46", after := #[], guard := none }) (v := ?_) rfl (by kernel_rfl) (by kernel_rfl) (by kernel_rfl) (by rfl) (fun _ _ _ h => h) (Or.inl ⟨by rfl, ?_⟩) (by assumption) ?_
      rotate_left
      · (intro w; go_simp); (first | done | with_reducible rfl)
      try simp only [Act.put, List.setIfInBounds_toArray, List.set_cons_zero, List.set_cons_succ]
      refine wpAnyZ_takeY (i := 3) (oi := { dst := some 17, op := Op.fieldAddr 24 (Operand.tmp 1) 0, type := 0, pos := "edits.go:46", after := #[], guard := none }) (v := ?_) rfl (by kernel_rfl) (by kernel_rfl) (by kernel_rfl) (by rfl) (fun _ _ _ h => h) (Or.inl ⟨by rfl, ?_⟩) (by assumption) ?_
      rotate_left
      · (intro w; go_simp); (first | done | with_reducible rfl)
      try simp only [Act.put, List.setIfInBounds_toArray, List.set_cons_zero, List.set_cons_succ]
      refine wpAnyZ_take (i := 4) (oi := { dst := some 18, op := Op.load 22 (Operand.tmp 17), type := 22, pos := "edits.go:46", after := #[{ on := 3, ground := Ground.data }], guard := none }) (v := ?_) [6, 7, 8, 9, 10, 11, 12] rfl (by kernel_rfl) (by kernel_rfl) (by kernel_rfl) (by kernel_rfl) (fun _ _ _ h => h) (Or.inl ⟨by rfl, ?_⟩) (by assumption) ?_
      rotate_left
      · (intro w hSw; (try dsimp only at hSw); go_simp); (first | done | with_reducible rfl)
      try simp only [Act.put, List.setIfInBounds_toArray, List.set_cons_zero, List.set_cons_succ]
      refine wpAnyZ_takeY (i := 5) (oi := { dst := some 19, op := Op.move (Operand.tmp 3), type := 3, pos := "edits.go:46", after := #[], guard := none }) (v := ?_) rfl (by kernel_rfl) (by kernel_rfl) (by kernel_rfl) (by rfl) (fun _ _ _ h => h) (Or.inl ⟨by rfl, ?_⟩) (by assumption) ?_
      rotate_left
      · (intro w; go_simp); (first | done | with_reducible rfl)
      try simp only [Act.put, List.setIfInBounds_toArray, List.set_cons_zero, List.set_cons_succ]
      refine wpAnyZ_takeY (i := 6) (oi := { dst := some 20, op := Op.indexAddr 22 (Operand.tmp 18) (Operand.tmp 19), type := 0, pos := "edits.go:46", after := #[{ on := 4, ground := Ground.data }, { on := 5, ground := Ground.data }], guard := none }) (v := ?_) rfl (by kernel_rfl) (by kernel_rfl) (by kernel_rfl) (by rfl) (fun _ _ _ h => h) (Or.inl ⟨by rfl, ?_⟩) (by assumption) ?_
      rotate_left
      · (intro w; go_simp); (first | done | with_reducible rfl)
      try simp only [Act.put, List.setIfInBounds_toArray, List.set_cons_zero, List.set_cons_succ]
      refine wpAnyZ_takeY (i := 7) (oi := { dst := some 21, op := Op.fieldAddr 41 (Operand.tmp 20) 1, type := 0, pos := "edits.go:46", after := #[{ on := 6, ground := Ground.data }], guard := none }) (v := ?_) rfl (by kernel_rfl) (by kernel_rfl) (by kernel_rfl) (by rfl) (fun _ _ _ h => h) (Or.inl ⟨by rfl, ?_⟩) (by assumption) ?_
      rotate_left
      · (intro w; go_simp); (first | done | with_reducible rfl)
      try simp only [Act.put, List.setIfInBounds_toArray, List.set_cons_zero, List.set_cons_succ]
      refine wpAnyZ_take (i := 8) (oi := { dst := some 22, op := Op.load 25 (Operand.tmp 21), type := 25, pos := "edits.go:46", after := #[{ on := 7, ground := Ground.data }], guard := none }) (v := ?_) [9, 10, 11, 12] rfl (by kernel_rfl) (by kernel_rfl) (by kernel_rfl) (by kernel_rfl) (fun _ _ _ h => h) (Or.inl ⟨by rfl, ?_⟩) (by assumption) ?_
      rotate_left
      · (intro w hSw; (try dsimp only at hSw); go_simp); (first | done | with_reducible rfl)
      try simp only [Act.put, List.setIfInBounds_toArray, List.set_cons_zero, List.set_cons_succ]
      refine wpAnyZ_ready (rs := [9]) (by kernel_rfl) (by simp) ?_
      refine AllReadyZ.cons (o := { dst := some 23, op := Op.call { callee := Callee.value (Operand.func 48), args := #[Operand.tmp 22], argTypes := #[25] }, type := 25, pos := "edits.go:46", after := #[{ on := 8, ground := Ground.data }], guard := none }) rfl (by rfl) (fun K hK => ?_) (AllReadyZ.nil)
      have CJ := Lib.hid (CI.out _ HB.out)
      go_simp
      go_at_call 48
      with_reducible refine (CJ.out).mono ?_
      rintro e w8 ⟨a8, c8, rfl, hown8, hb8⟩
      have HN := Lib.hid (HST.out _ _ HB.out hb8 _ _ hown8)
      have HF8 := Lib.hid (hown8)
      replace HB := Lib.hid (below_step HB.out hb8)
      clear hown8 hb8 CJ CI
      go_wp2_with fail
      refine hK.out _ _ ?_ (fun hHeld => ?_)
      · exact HX.out _ HB.out
      clear hK K
      try simp only [Act.put, List.setIfInBounds_toArray, List.set_cons_zero, List.set_cons_succ]
      refine wpAnyZ_takeY (i := 10) (oi := { dst := some 24, op := Op.indexAddr 22 (Operand.tmp 15) (Operand.tmp 16), type := 0, pos := "edits.go:46", after := #[{ on := 1, ground := Ground.data }, { on := 2, ground := Ground.data }, { on := 0, ground := Ground.phase }, { on := 1, ground := Ground.phase }, { on := 2, ground := Ground.phase }, { on := 3, ground := Ground.phase }, { on := 4, ground := Ground.phase }, { on := 5, ground := Ground.phase }, { on := 6, ground := Ground.phase }, { on := 7, ground := Ground.phase }, { on := 8, ground := Ground.phase }, { on := 9, ground := Ground.phase }], guard := none }) (v := ?_) rfl (by kernel_rfl) (by kernel_rfl) (by kernel_rfl) (by rfl) (fun _ _ _ h => h) (Or.inl ⟨by rfl, ?_⟩) (by assumption) ?_
      rotate_left
      · (intro w; go_simp); (first | done | with_reducible rfl)
      try simp only [Act.put, List.setIfInBounds_toArray, List.set_cons_zero, List.set_cons_succ]
      refine wpAnyZ_takeY (i := 11) (oi := { dst := some 25, op := Op.fieldAddr 41 (Operand.tmp 24) 1, type := 0, pos := "edits.go:46", after := #[{ on := 10, ground := Ground.data }, { on := 0, ground := Ground.phase }, { on := 1, ground := Ground.phase }, { on := 2, ground := Ground.phase }, { on := 3, ground := Ground.phase }, { on := 4, ground := Ground.phase }, { on := 5, ground := Ground.phase }, { on := 6, ground := Ground.phase }, { on := 7, ground := Ground.phase }, { on := 8, ground := Ground.phase }, { on := 9, ground := Ground.phase }], guard := none }) (v := ?_) rfl (by kernel_rfl) (by kernel_rfl) (by kernel_rfl) (by rfl) (fun _ _ _ h => h) (Or.inl ⟨by rfl, ?_⟩) (by assumption) ?_
      rotate_left
      · (intro w; go_simp); (first | done | with_reducible rfl)
      try simp only [Act.put, List.setIfInBounds_toArray, List.set_cons_zero, List.set_cons_succ]
      refine wpAnyZ_ready (rs := [12]) (by kernel_rfl) (by simp) ?_
      refine AllReadyZ.last (o := { dst := none, op := Op.store 25 (Operand.tmp 25) (Operand.tmp 23), type := 0, pos := "edits.go:46", after := #[{ on := 11, ground := Ground.data }, { on := 9, ground := Ground.data }, { on := 9, ground := Ground.chain }, { on := 0, ground := Ground.phase }, { on := 1, ground := Ground.phase }, { on := 2, ground := Ground.phase }, { on := 3, ground := Ground.phase }, { on := 4, ground := Ground.phase }, { on := 5, ground := Ground.phase }, { on := 6, ground := Ground.phase }, { on := 7, ground := Ground.phase }, { on := 8, ground := Ground.phase }, { on := 9, ground := Ground.phase }], guard := none }) rfl (fun K hK => ?_) AllReadyZ.nil
      have f8 := (HCk.out.below HB.out).row.frozenAt (k * 2 + 1)
      have m8 := (HX.out _ HB.out).2
      go_simp
      refine hK.out _ _ ?_
      clear hK K
      refine wpAny_done (by kernel_rfl) ?_ _
      have HS9 := Lib.hid (show BkIn #[.slice (some ⟨g, 0, none⟩) Rs.length c, .int .i64 log, .int .i64 next] 24 (w8.setCell ⟨g, k * 2 + 1, none⟩ (.slice a8 rl.length c8)) w.heap.size from (HSk.out.below HB.out).other (by have := HG.out; omega) _ _)
      have HZ9 := Lib.hid (show BkIn #[.slice none 0 0, .int .i64 0, .int .i64 0] 24 (w8.setCell ⟨g, k * 2 + 1, none⟩ (.slice a8 rl.length c8)) (w.heap.size + 1) from (HZk.out.below HB.out).other (by have := HG.out; omega) _ _)
      have hk16 : k < 16 := by have := HLT.out; omega
      clear HX HST HF8 HB hHeld
      generalize w8.setCell ⟨g, k * 2 + 1, none⟩ (.slice a8 rl.length c8) = w9 at *
      go_wp2_with fail
      go_roundw
      case rel => exact ⟨k + 1, _, by have := HLT.out; omega, by go_num, HN, HS9, HZ9⟩
      case measure => have := HLT.out; simp [intOf]; omega
    · obtain rfl : k = Rs.length := by omega
      have s0 : wr.cell? ⟨w.heap.size, 0, none⟩ = some (.slice (some ⟨g, 0, none⟩) Rs.length c) := HSk.out.cell 0
      have s1 : wr.cell? ⟨w.heap.size, 1, none⟩ = some (.int .i64 log) := HSk.out.cell 1
      have s2 : wr.cell? ⟨w.heap.size, 2, none⟩ = some (.int .i64 next) := HSk.out.cell 2
      go_wp2_with (refine wpList_store_row rfl 24 _ _ rfl (w.heap.size + 1) _ rfl rfl 24 _ HZk.out ?_ rfl (by simp [Value.oneCell']) ?_; kernel_rfl)
      have HR9 := Lib.hid (load_st rfl (setRow_heap wr (w.heap.size + 1) _ _ _ _ HZk.out : BkIn #[.slice (some ⟨g, 0, none⟩) Rs.length c, .int .i64 log, .int .i64 next] 24 (wr.setRow (w.heap.size + 1) #[.slice (some ⟨g, 0, none⟩) Rs.length c, .int .i64 log, .int .i64 next]) (w.heap.size + 1)))
      have HC9 := Lib.hid (HCk.out.rowPut (b := w.heap.size + 1) (by have := HG.out; omega) (by omega) #[.slice (some ⟨g, 0, none⟩) Rs.length c, .int .i64 log, .int .i64 next] HZk.out (by decide))
      go_wp2_with fail
      exact bodyPost_ret (ret_st1 rfl _ _ (w.heap.size + 1) rfl HR9.out) rfl ⟨Rk, g, c, rfl, HC9.out⟩

end Go.Proofs.Ytfcmjgcjmldpcaa
