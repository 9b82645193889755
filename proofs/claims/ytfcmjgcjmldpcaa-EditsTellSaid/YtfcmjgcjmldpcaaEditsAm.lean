/- Layer 16: the document's tablet, kind 3, by a contract (gentablet.py). -/
import Derived.Test.YtfcmjgcjmldpcaaEditsAk
namespace Go.Proofs.Ytfcmjgcjmldpcaa
set_option linter.unusedVariables false
set_option linter.unusedSimpArgs false
open Go Go.RowKit
attribute [local go_sem ↓] run_index_S
attribute [local go_sem] S_append S_extract

theorem cellsAt_take {w w0 : World} {g c : Nat} {Rk : List Rt} (h : Own16 w0 g c Rk w) (k : Nat) : CellsAt w ⟨g, 0, none⟩ (Rk.take k) := fun j u hu => by
  rw [Addr.add_lit, Nat.zero_add]
  rw [tbC_take, List.getElem?_take] at hu
  split at hu
  · have hj : j < Rk.length * 2 := by rw [← tbC_length]; exact (List.getElem?_eq_some_iff.1 hu).1
    rw [h.row.cellAt j hj, hu]
  · cases hu
theorem cellsAt_drop {w w0 : World} {g c : Nat} {Rk : List Rt} (h : Own16 w0 g c Rk w) (k : Nat) : CellsAt w ⟨g, k * 2, none⟩ (Rk.drop k) := fun j u hu => by
  rw [Addr.add_lit]
  rw [tbC_drop, List.getElem?_drop] at hu
  have hj : k * 2 + j < Rk.length * 2 := by rw [← tbC_length]; exact (List.getElem?_eq_some_iff.1 hu).1
  rw [h.row.cellAt _ hj, hu]
theorem cellsAt_nil (w : World) (a : Addr) : CellsAt w a [] := fun j u hu => by simp [tbC] at hu
theorem CellsAt.below {w w' : World} {a : Addr} {L : List Rt} (h : CellsAt w a L) (hb : Below w.heap.size w w') : CellsAt w' a L := fun j u hu => by
  have h1 := h j u hu
  exact (hb.cell (p := a.add j) (cell_lt h1)).trans h1
theorem own_kept16 {w w' : World} {B n n' sz : Nat} {v v' : Value} {xs xs' : List Value} (h : w.ownsRow B 3 1 v n xs) (hr : w.ownsRow n' 41 sz v' B xs') : True := trivial
theorem OwnN.kept {w w' : World} {B B' n sz : Nat} {v : Value} {xs : List Value} {r : Rt} (h : OwnN B w r) (hr : w.ownsRow B' 41 sz v n xs) (hg : w.grownBy w' v.ownBlock) : OwnN B w' r := by
  refine World.ownsRow.kept h hg ?_
  cases q : v.ownBlock with
  | none =>
    cases q2 : (Value.slice r.o r.l.length r.k).ownBlock with
    | none => exact .inl rfl
    | some x => exact .inr (by simp)
  | some x => exact .inr (own_apart16 hr h (by decide) q)
set_option maxHeartbeats 4000000 in
set_option maxRecDepth 100000 in
theorem refTablet_three (w0 : World) (b g c : Nat) (Rs Rk : List Rt) (log next : Int) (so : Option Addr) (sc : Nat) (y : Re) (k : Nat) (hq : RtQ w0 Rs Rk so y k) (hkd : y.kind = 3) (w : World) (h : Ahd w0 b g c Rs Rk log next w) :
    Calls Try.prog 33 #[.pointer (some ⟨b, 0, none⟩), .agg #[.slice so Rs.length sc, .int .i64 log, .int .i64 next], .agg (edA y)] w (EditR w0 w b ⟨tbs Rk, log, next⟩ y) := by
  obtain ⟨kind, at_, file, fs, fo, fk, key⟩ := y
  have hat := hq.yat
  simp only at hkd hat
  subst hkd
  subst hat
  have HQ := Lib.hid hq
  have HFL := Lib.hid hq.fok
  have hfl := hq.fl
  simp only at hfl
  have hk := hq.kn
  have hn16 := hq.n16
  have hlen : Rk.length = Rs.length := h.cl.len
  obtain ⟨w1, hw1⟩ : ∃ x, x = (w.alloc (.cells #[.slice so Rs.length sc, .int .i64 log, .int .i64 next] 24)).alloc (.cells #[.int .i64 3, .int .i64 k, .int .i64 file, .slice fo fs.length fk, .string (S key)] 27) := ⟨_, rfl⟩
  have HI := Lib.hid (show RtI w0 w b g c Rs Rk log next so sc ⟨3, k, file, fs, fo, fk, key⟩ w.heap.size w1 from by
    have hb2 : Below w.heap.size w w1 := by rw [hw1]; exact bel_two _ _ _
    refine ⟨h.below hb2, (Kp.refl b w).below hb2, by rw [hw1]; exact (bkIn_new _ _ w).below ((Below.refl _ _).alloc (Nat.le_refl _) _), ?_, h.bx.lt⟩
    rw [hw1]
    exact bkIn_put16 _ _ (by simp))
  have HSA := Lib.hid (same_at h.cl.same k)
  obtain ⟨gs, os, rfl, ct⟩ := hq.at_.off k hk
  have HT := Lib.hid ct
  have HED := Lib.hid (edit_in (s := ⟨tbs Rk, log, next⟩) (e := (⟨3, k, file, fs, fo, fk, key⟩ : Re).ed) (k := k) (by simp [Re.ed]) rfl (by simp only [tbs_length]; rw [hlen]; exact hk))
  simp only [Re.ed, setT_tbs, tbs_at, tbs_length, Rt.tb] at HED
  have HLEN := Lib.hid hlen
  have HMEM := Lib.hid (Ed.gD_mem (d := rt0) hk)
  have hki : (k : Int) < (Rs.length : Int) := by omega
  have hki2 : (k : Int) < (Rk.length : Int) := by omega
  unfold edA
  simp only
  clear ct hq h hlen
  generalize hrs : Rs.getD k rt0 = rs at *
  obtain ⟨sf, sl, sro, srk⟩ := rs
  have HRS := Lib.hid hrs
  clear hrs
  have G0 := Lib.hid (show ∃ G, G = w.heap.size from ⟨_, rfl⟩)
  have e1 : w1.cell? ⟨w.heap.size + 1, 1, none⟩ = some (.int .i64 k) := HI.out.eb.cell 1
  have e0 : w1.cell? ⟨w.heap.size + 1, 0, none⟩ = some (.int .i64 3) := HI.out.eb.cell 0
  have s0 : w1.cell? ⟨w.heap.size, 0, none⟩ = some (.slice (some ⟨gs, os, none⟩) Rs.length sc) := HI.out.sb.cell 0
  have o1 : w1.cell? ⟨gs, os + k * 2 + 1, none⟩ = some (.slice sro sl.length srk) := (HT.out.below HI.out.ah.cl.bel).2.1
  rw [hw1] at e0 e1 s0 o1
  go_enter Try.func33, Try.ntmps33
  go_wp2_with fail
  rw [← hw1]
  clear hw1 e0 e1 s0 o1
  generalize w.heap.size = G at *
  obtain ⟨i0, zz, hi0, hz0, h01, h02, h03⟩ := infoN_parts
  obtain ⟨i1, z1, hi1, hz1, h11, h12, h13⟩ := infoTb_parts
  have hlen : Rk.length = Rs.length := HLEN.out
  have hcap : Rk.length ≤ c := by rw [hlen]; exact own_cap16 HI.out.ah.cl.row
  have hkk : k < Rk.length := by omega
  clear hlen
  have ek1 : IntKind.i64.wrap ((k : Int) + 1) = (k : Int) + 1 := IntWalk.i64_in _ (by omega)
  have hj1 : ((k : Int) + 1).toNat = k + 1 := by omega
  have b1 : (k : Int) + 1 ≤ (c : Int) := by omega
  have b2 : (0 : Int) ≤ (k : Int) + 1 := by omega
  have b3 : (k : Int) + 1 ≤ (Rk.length : Int) := by omega
  have hn2 : Rk.length ≤ 16 := by rw [HLEN.out]; exact hn16
  have HB := Lib.hid ((Below.refl w1.heap.size w1).drew)
  have HI1 := Lib.hid HI.out
  have FIN := Lib.hid (show ∀ (g9 c9 : Nat) (x : World) (a6 : Option Addr) (c6 : Nat) {y : World} {a8 : Option Addr} {c8 : Nat}, y.ownsRow w1.heap.size 41 2 (.slice a8 (k + 1 + 1) c8) (k + 1 + 1) (tbC (Rk.take (k + 1)) ++ tbC [⟨key, sl, a6, c6⟩]) → OwnN w1.heap.size y ⟨key, sl, a6, c6⟩ → Below w1.heap.size w1 y → x.ownsRow w1.heap.size 41 2 (.slice (some ⟨g9, 0, none⟩) (k + 1 + 1 + (Rk.length - (k + 1))) c9) (k + 1 + 1 + (Rk.length - (k + 1))) (tbC (Rk.take (k + 1)) ++ tbC [⟨key, sl, a6, c6⟩] ++ tbC (Rk.drop (k + 1))) → y.grownBy x (Value.slice a8 (k + 1 + 1) c8).ownBlock → BkIn #[.slice (some ⟨g, 0, none⟩) Rs.length c, .int .i64 log, .int .i64 next] 24 x b → Kp b w x → w0.heap.size ≤ b → EdOut w0 b (tbs (splitL Rk k ⟨key, sl, a6, c6⟩)) log next (x.setCell ⟨b, 0, none⟩ (.slice (some ⟨g9, 0, none⟩) (k + 1 + 1 + (Rk.length - (k + 1))) c9)) ∧ Kp b w (x.setCell ⟨b, 0, none⟩ (.slice (some ⟨g9, 0, none⟩) (k + 1 + 1 + (Rk.length - (k + 1))) c9)) from fun g9 c9 x a6 c6 y a8 c8 hL hN hB ho hg hbx hkp hb0 => by
    have hln : (splitL Rk k ⟨key, sl, a6, c6⟩).length = k + 1 + 1 + (Rk.length - (k + 1)) := by rw [splitL_len _ _ _ (by omega)]; omega
    have hB9 := hB.grown hg hB.size (fun q hq => (hL.lt q hq).1)
    have hO := HI1.out.ah.own.below hB9
    have hrow : x.ownsRow w0.heap.size 41 2 (.slice (some ⟨g9, 0, none⟩) (splitL Rk k ⟨key, sl, a6, c6⟩).length c9) (splitL Rk k ⟨key, sl, a6, c6⟩).length (tbC (splitL Rk k ⟨key, sl, a6, c6⟩)) := by
      rw [hln, splitC]
      have := own_base16 ho HI1.out.ah.cl.bel.size
      rw [tbC_one] at this
      exact this
    have hown : Own16 w0 g9 c9 (splitL Rk k ⟨key, sl, a6, c6⟩) x := ⟨hrow, fun r hr => by
      unfold splitL at hr
      rcases List.mem_append.1 hr with hr | hr
      · exact hO.own r (List.mem_of_mem_take hr)
      · rcases List.mem_cons.1 hr with rfl | hr
        · exact own_base16 (hN.kept hL hg) HI1.out.ah.cl.bel.size
        · exact hO.own r (List.mem_of_mem_drop hr), hO.bel⟩
    refine ⟨(hown.box hbx hb0 0 _).out (c := c9) ?_, hkp.box 0 _⟩
    have := hbx.set 0 (.slice (some ⟨g9, 0, none⟩) (k + 1 + 1 + (Rk.length - (k + 1))) c9)
    rw [hln]
    simpa using this)
  replace HI := Lib.hid (HI.out.below (Below.refl _ w1).drew)
  refine wp_region_held_drew (S := fun V => V.cell? ⟨b, 0, none⟩ = some (.slice (some ⟨g, 0, none⟩) Rk.length c) ∧ V.cell? ⟨G + 1, 1, none⟩ = some (.int .i64 k)) (by kernel_rfl) ?_ (fun hHeld => ?_)
  · exact ⟨by rw [HLEN.out]; exact HI.out.ah.bx.cell 0, HI.out.eb.cell 1⟩
  obtain ⟨wd, hwd⟩ : ∃ x, x = World.drew w1 := ⟨_, rfl⟩
  rw [← hwd] at HI HB hHeld ⊢
  clear hwd
  refine wpAnyH_take (i := 0) (oi := { dst := some 109, op := Op.move (Operand.tmp 0), type := 59, pos := "ref.go:98", after := #[], guard := none }) (v := ?_) rfl (by kernel_rfl) (by kernel_rfl) (by kernel_rfl) (fun _ _ _ h => h) (Or.inl ⟨by rfl, ?_⟩) (by assumption) ?_
  rotate_left
  · (intro w hSw; (try dsimp only at hSw); go_simp); (first | done | with_reducible rfl)
  try simp only [Act.put, List.setIfInBounds_toArray, List.set_cons_zero, List.set_cons_succ]
  refine wpAnyH_take (i := 1) (oi := { dst := some 110, op := Op.nilCheck (Operand.tmp 109), type := 0, pos := "ref.go:98", after := #[{ on := 0, ground := Ground.data }], guard := none }) (v := ?_) rfl (by kernel_rfl) (by kernel_rfl) (by kernel_rfl) (fun _ _ _ h => h) (Or.inl ⟨by rfl, ?_⟩) (by assumption) ?_
  rotate_left
  · (intro w hSw; (try dsimp only at hSw); go_simp); (first | done | with_reducible rfl)
  try simp only [Act.put, List.setIfInBounds_toArray, List.set_cons_zero, List.set_cons_succ]
  refine wpAnyH_take (i := 2) (oi := { dst := some 111, op := Op.fieldAddr 24 (Operand.tmp 110) 0, type := 0, pos := "ref.go:98", after := #[{ on := 1, ground := Ground.data }], guard := none }) (v := ?_) rfl (by kernel_rfl) (by kernel_rfl) (by kernel_rfl) (fun _ _ _ h => h) (Or.inl ⟨by rfl, ?_⟩) (by assumption) ?_
  rotate_left
  · (intro w hSw; (try dsimp only at hSw); go_simp); (first | done | with_reducible rfl)
  try simp only [Act.put, List.setIfInBounds_toArray, List.set_cons_zero, List.set_cons_succ]
  refine wpAnyH_take (i := 3) (oi := { dst := some 112, op := Op.load 22 (Operand.tmp 111), type := 22, pos := "ref.go:98", after := #[{ on := 2, ground := Ground.data }], guard := none }) (v := ?_) rfl (by kernel_rfl) (by kernel_rfl) (by kernel_rfl) (fun _ _ _ h => h) (Or.inl ⟨by rfl, ?_⟩) (by assumption) ?_
  rotate_left
  · (intro w hSw; (try dsimp only at hSw); go_simp); (first | done | with_reducible rfl)
  try simp only [Act.put, List.setIfInBounds_toArray, List.set_cons_zero, List.set_cons_succ]
  refine wpAnyH_take (i := 4) (oi := { dst := some 113, op := Op.fieldAddr 27 (Operand.tmp 5) 1, type := 0, pos := "ref.go:98", after := #[], guard := none }) (v := ?_) rfl (by kernel_rfl) (by kernel_rfl) (by kernel_rfl) (fun _ _ _ h => h) (Or.inl ⟨by rfl, ?_⟩) (by assumption) ?_
  rotate_left
  · (intro w hSw; (try dsimp only at hSw); go_simp); (first | done | with_reducible rfl)
  try simp only [Act.put, List.setIfInBounds_toArray, List.set_cons_zero, List.set_cons_succ]
  refine wpAnyH_take (i := 5) (oi := { dst := some 114, op := Op.load 3 (Operand.tmp 113), type := 3, pos := "ref.go:98", after := #[{ on := 4, ground := Ground.data }], guard := none }) (v := ?_) rfl (by kernel_rfl) (by kernel_rfl) (by kernel_rfl) (fun _ _ _ h => h) (Or.inl ⟨by rfl, ?_⟩) (by assumption) ?_
  rotate_left
  · (intro w hSw; (try dsimp only at hSw); go_simp); (first | done | with_reducible rfl)
  try simp only [Act.put, List.setIfInBounds_toArray, List.set_cons_zero, List.set_cons_succ]
  refine wpAnyH_take (i := 6) (oi := { dst := some 115, op := Op.binOp BinOp.add 3 (Operand.tmp 114) (Operand.const (Value.int IntKind.i64 1)) 3, type := 3, pos := "ref.go:98", after := #[{ on := 5, ground := Ground.data }], guard := none }) (v := ?_) rfl (by kernel_rfl) (by kernel_rfl) (by kernel_rfl) (fun _ _ _ h => h) (Or.inl ⟨by rfl, ?_⟩) (by assumption) ?_
  rotate_left
  · (intro w hSw; (try dsimp only at hSw); go_simp); (first | done | with_reducible rfl)
  try simp only [Act.put, List.setIfInBounds_toArray, List.set_cons_zero, List.set_cons_succ]
  refine wpAnyH_take (i := 7) (oi := { dst := some 116, op := Op.slice 22 (Operand.tmp 112) none (some (Operand.tmp 115)) none, type := 22, pos := "ref.go:98", after := #[{ on := 3, ground := Ground.data }, { on := 6, ground := Ground.data }], guard := none }) (v := ?_) rfl (by kernel_rfl) (by kernel_rfl) (by kernel_rfl) (fun _ _ _ h => h) (Or.inl ⟨by rfl, ?_⟩) (by assumption) ?_
  rotate_left
  · (intro w hSw; (try dsimp only at hSw); go_simp); (first | done | with_reducible rfl)
  try simp only [Act.put, List.setIfInBounds_toArray, List.set_cons_zero, List.set_cons_succ]
  refine wpAnyH_ready (rs := [8]) (by kernel_rfl) (by simp) ?_
  refine AllReadyH.cons (o := { dst := some 117, op := Op.call { callee := Callee.builtin Builtin.append, args := #[Operand.const (Value.slice none 0 0), Operand.tmp 116], argTypes := #[22, 22] }, type := 22, pos := "ref.go:98", after := #[{ on := 7, ground := Ground.data }], guard := none }) rfl (fun K hK => ?_) (AllReadyH.nil)
  refine step_append_tabs (by rfl) _ _ 22 (by rfl) w1.heap.size i1 z1 Try.underlying22 hi1 hz1 h11 h12 h13 (.slice none 0 0) 0 [] (by rfl) (World.ownsRow_nil _ _ _ _) ⟨g, 0, none⟩ c (k + 1) (Rk.take (k + 1)) (by rfl) (by rw [List.length_take]; omega) (cellsAt_take HI.out.ah.own (k + 1)) (by omega) HB.out.size ?_
  intro v5 w5 ho5 hg5
  rw [Nat.zero_add, List.nil_append] at ho5
  obtain ⟨a5, c5, rfl⟩ := own_shape16 ho5
  have hb5 := (Below.refl wd.heap.size wd).grown hg5 (Nat.le_refl _) (fun q hq => by cases hq)
  have HL := Lib.hid ho5
  replace HI := Lib.hid (HI.out.below hb5)
  replace HB := Lib.hid (below_step HB.out hb5)
  clear ho5 hg5 hb5
  have HSS := Lib.hid (show w5.cell? ⟨b, 0, none⟩ = some (.slice (some ⟨g, 0, none⟩) Rk.length c) ∧ w5.cell? ⟨G + 1, 1, none⟩ = some (.int .i64 k) from ⟨by rw [HLEN.out]; exact HI.out.ah.bx.cell 0, HI.out.eb.cell 1⟩)
  refine hK.out _ _ ?_ (fun hHeld => ?_)
  · exact HSS.out
  clear hK K
  try simp only [Act.put, List.setIfInBounds_toArray, List.set_cons_zero, List.set_cons_succ]
  refine wpAnyH_take (i := 9) (oi := { dst := some 9, op := Op.assign (Operand.tmp 117), type := 22, pos := "ref.go:98", after := #[{ on := 8, ground := Ground.data }, { on := 8, ground := Ground.chain }, { on := 0, ground := Ground.phase }, { on := 1, ground := Ground.phase }, { on := 2, ground := Ground.phase }, { on := 3, ground := Ground.phase }, { on := 4, ground := Ground.phase }, { on := 5, ground := Ground.phase }, { on := 6, ground := Ground.phase }, { on := 7, ground := Ground.phase }, { on := 8, ground := Ground.phase }], guard := none }) (v := ?_) rfl (by kernel_rfl) (by kernel_rfl) (by kernel_rfl) (fun _ _ _ h => h) (Or.inl ⟨by rfl, ?_⟩) (by assumption) ?_
  rotate_left
  · (intro w hSw; (try dsimp only at hSw); go_simp); (first | done | with_reducible rfl)
  refine wpAnyH_done (by kernel_rfl) ?_ _
  go_wp2_with fail
  clear hHeld HSS
  replace HL := Lib.hid (own_below16 HL.out (Below.refl _ w5).drew)
  replace HI := Lib.hid (HI.out.below (Below.refl _ w5).drew)
  replace HB := Lib.hid (HB.out.drew)
  refine wp_region_held_drew (S := fun V => V.cell? ⟨G + 1, 4, none⟩ = some (.string (S key))) (by kernel_rfl) ?_ (fun hHeld => ?_)
  · exact HI.out.eb.cell 4
  obtain ⟨wd, hwd⟩ : ∃ x, x = World.drew w5 := ⟨_, rfl⟩
  rw [← hwd] at HI HB HL hHeld ⊢
  clear hwd
  refine wpAnyH_take (i := 0) (oi := { dst := some 118, op := Op.move (Operand.tmp 9), type := 22, pos := "ref.go:99", after := #[], guard := none }) (v := ?_) rfl (by kernel_rfl) (by kernel_rfl) (by kernel_rfl) (fun _ _ _ h => h) (Or.inl ⟨by rfl, ?_⟩) (by assumption) ?_
  rotate_left
  · (intro w hSw; (try dsimp only at hSw); go_simp); (first | done | with_reducible rfl)
  try simp only [Act.put, List.setIfInBounds_toArray, List.set_cons_zero, List.set_cons_succ]
  refine wpAnyH_take (i := 1) (oi := { dst := some 119, op := Op.fieldAddr 27 (Operand.tmp 5) 4, type := 0, pos := "ref.go:99", after := #[], guard := none }) (v := ?_) rfl (by kernel_rfl) (by kernel_rfl) (by kernel_rfl) (fun _ _ _ h => h) (Or.inl ⟨by rfl, ?_⟩) (by assumption) ?_
  rotate_left
  · (intro w hSw; (try dsimp only at hSw); go_simp); (first | done | with_reducible rfl)
  try simp only [Act.put, List.setIfInBounds_toArray, List.set_cons_zero, List.set_cons_succ]
  refine wpAnyH_take (i := 2) (oi := { dst := some 120, op := Op.load 9 (Operand.tmp 119), type := 9, pos := "ref.go:99", after := #[{ on := 1, ground := Ground.data }], guard := none }) (v := ?_) rfl (by kernel_rfl) (by kernel_rfl) (by kernel_rfl) (fun _ _ _ h => h) (Or.inl ⟨by rfl, ?_⟩) (by assumption) ?_
  rotate_left
  · (intro w hSw; (try dsimp only at hSw); go_simp); (first | done | with_reducible rfl)
  try simp only [Act.put, List.setIfInBounds_toArray, List.set_cons_zero, List.set_cons_succ]
  refine wpAnyH_take (i := 3) (oi := { dst := some 121, op := Op.move (Operand.tmp 7), type := 25, pos := "ref.go:99", after := #[], guard := none }) (v := ?_) rfl (by kernel_rfl) (by kernel_rfl) (by kernel_rfl) (fun _ _ _ h => h) (Or.inl ⟨by rfl, ?_⟩) (by assumption) ?_
  rotate_left
  · (intro w hSw; (try dsimp only at hSw); go_simp); (first | done | with_reducible rfl)
  try simp only [Act.put, List.setIfInBounds_toArray, List.set_cons_zero, List.set_cons_succ]
  refine wpAnyH_ready (rs := [4]) (by kernel_rfl) (by simp) ?_
  refine AllReadyH.cons (o := { dst := some 122, op := Op.call { callee := Callee.builtin Builtin.append, args := #[Operand.const (Value.slice none 0 0), Operand.tmp 121], argTypes := #[25, 25] }, type := 25, pos := "ref.go:99", after := #[{ on := 3, ground := Ground.data }], guard := none }) rfl (fun K hK => ?_) (AllReadyH.nil)
  refine step_append_nums16 (by rfl) _ _ 25 (by rfl) w1.heap.size i0 zz Try.underlying25 hi0 hz0 h01 h02 h03 (.slice none 0 0) 0 [] (by rfl) (World.ownsRow_nil _ _ _ _) sro srk sl.length sl (by rfl) rfl (HT.out.2.2.below HI.out.ah.cl.bel) (by have := (HQ.out.up _ HMEM.out).1; simp only at this; omega) HB.out.size ?_
  intro v6 w6 ho6 hg6
  rw [Nat.zero_add, List.nil_append] at ho6
  obtain ⟨a6, c6, rfl⟩ := own_shape16 ho6
  have hb6 := (Below.refl wd.heap.size wd).grown hg6 (Nat.le_refl _) (fun q hq => by cases hq)
  have HN6 := Lib.hid (show OwnN w1.heap.size w6 ⟨key, sl, a6, c6⟩ from ho6)
  replace HL := Lib.hid (own_below16 HL.out hb6)
  replace HI := Lib.hid (HI.out.below hb6)
  replace HB := Lib.hid (below_step HB.out hb6)
  clear ho6 hg6 hb6
  refine hK.out _ _ ?_ (fun hHeld => ?_)
  · exact HI.out.eb.cell 4
  clear hK K
  try simp only [Act.put, List.setIfInBounds_toArray, List.set_cons_zero, List.set_cons_succ]
  refine wpAnyH_take (i := 5) (oi := { dst := some 123, op := Op.build 41 #[(0, Operand.tmp 120), (1, Operand.tmp 122)], type := 41, pos := "ref.go:99", after := #[{ on := 2, ground := Ground.data }, { on := 4, ground := Ground.data }], guard := none }) (v := ?_) rfl (by kernel_rfl) (by kernel_rfl) (by kernel_rfl) (fun _ _ _ h => h) (Or.inl ⟨by rfl, ?_⟩) (by assumption) ?_
  rotate_left
  · (intro w hSw; (try dsimp only at hSw); go_simp); (first | done | with_reducible rfl)
  try simp only [Act.put, List.setIfInBounds_toArray, List.set_cons_zero, List.set_cons_succ]
  refine wpAnyH_ready (rs := [6]) (by kernel_rfl) (by simp) ?_
  refine AllReadyH.cons (o := { dst := some 124, op := Op.buildSlice 22 1 #[(0, Operand.tmp 123)], type := 22, pos := "ref.go:99", after := #[{ on := 5, ground := Ground.data }], guard := none }) rfl (fun K hK => ?_) (AllReadyH.nil)
  go_simp
  have hb7 := (Below.refl w6.heap.size w6).alloc (Nat.le_refl _) (.cells #[.string (S key), .slice a6 sl.length c6] 41)
  have HX7 := Lib.hid (bkIn_new #[.string (S key), .slice a6 sl.length c6] 41 w6)
  replace HN6 := Lib.hid (show OwnN w1.heap.size _ ⟨key, sl, a6, c6⟩ from own_below16 HN6.out hb7)
  replace HL := Lib.hid (own_below16 HL.out hb7)
  replace HI := Lib.hid (HI.out.below hb7)
  replace HB := Lib.hid (below_step HB.out hb7)
  clear hb7
  generalize (World.alloc w6 (.cells #[.string (S key), .slice a6 sl.length c6] 41)) = w7 at *
  refine hK.out _ _ ?_ (fun hHeld => ?_)
  · exact HI.out.eb.cell 4
  clear hK K
  try simp only [Act.put, List.setIfInBounds_toArray, List.set_cons_zero, List.set_cons_succ]
  refine wpAnyH_ready (rs := [7]) (by kernel_rfl) (by simp) ?_
  refine AllReadyH.cons (o := { dst := some 125, op := Op.call { callee := Callee.builtin Builtin.append, args := #[Operand.tmp 118, Operand.tmp 124], argTypes := #[22, 22] }, type := 22, pos := "ref.go:99", after := #[{ on := 0, ground := Ground.data }, { on := 6, ground := Ground.data }, { on := 4, ground := Ground.chain }], guard := none }) rfl (fun K hK => ?_) (AllReadyH.nil)
  refine step_append_tabs (by rfl) _ _ 22 (by rfl) w1.heap.size i1 z1 Try.underlying22 hi1 hz1 h11 h12 h13 (.slice a5 (k + 1) c5) (k + 1) (tbC (Rk.take (k + 1))) (by rfl) HL.out ⟨w6.heap.size, 0, none⟩ 1 1 [⟨key, sl, a6, c6⟩] (by rfl) rfl (cellsAt_one HX7.out) (by omega) HB.out.size ?_
  intro v8 w8 ho8 hg8
  obtain ⟨a8, c8, rfl⟩ := own_shape16 ho8
  replace HN6 := Lib.hid (HN6.out.kept HL.out hg8)
  have HB8 := Lib.hid (HB.out.grown hg8 HB.out.size (fun q hq => (HL.out.lt q hq).1))
  replace HL := Lib.hid ho8
  replace HB := Lib.hid HB8.out
  replace HI := Lib.hid (HI1.out.below HB.out)
  clear ho8 hg8 HX7 HB8
  refine hK.out _ _ ?_ (fun hHeld => ?_)
  · exact HI.out.eb.cell 4
  clear hK K
  try simp only [Act.put, List.setIfInBounds_toArray, List.set_cons_zero, List.set_cons_succ]
  refine wpAnyH_take (i := 8) (oi := { dst := some 9, op := Op.assign (Operand.tmp 125), type := 22, pos := "ref.go:99", after := #[{ on := 7, ground := Ground.data }, { on := 7, ground := Ground.chain }, { on := 0, ground := Ground.phase }, { on := 1, ground := Ground.phase }, { on := 2, ground := Ground.phase }, { on := 3, ground := Ground.phase }, { on := 4, ground := Ground.phase }, { on := 5, ground := Ground.phase }, { on := 6, ground := Ground.phase }, { on := 7, ground := Ground.phase }], guard := none }) (v := ?_) rfl (by kernel_rfl) (by kernel_rfl) (by kernel_rfl) (fun _ _ _ h => h) (Or.inl ⟨by rfl, ?_⟩) (by assumption) ?_
  rotate_left
  · (intro w hSw; (try dsimp only at hSw); go_simp); (first | done | with_reducible rfl)
  refine wpAnyH_done (by kernel_rfl) ?_ _
  go_wp2_with fail
  clear hHeld
  by_cases hlast : k + 1 < Rk.length
  · have q0 : ¬ (c = k + 1) := by omega
    replace HL := Lib.hid (own_below16 HL.out (Below.refl _ w8).drew)
    replace HN6 := Lib.hid (show OwnN w1.heap.size _ ⟨key, sl, a6, c6⟩ from own_below16 HN6.out (Below.refl _ w8).drew)
    replace HI := Lib.hid (HI.out.below (Below.refl _ w8).drew)
    replace HB := Lib.hid (HB.out.drew)
    refine wp_region_Z (S := fun V => V.cell? ⟨b, 0, none⟩ = some (.slice (some ⟨g, 0, none⟩) Rk.length c) ∧ V.cell? ⟨G + 1, 1, none⟩ = some (.int .i64 k)) 13 (by kernel_rfl) ?_ (fun hHeld => ?_)
    · exact ⟨by rw [HLEN.out]; exact HI.out.ah.bx.cell 0, HI.out.eb.cell 1⟩
    obtain ⟨wd, hwd⟩ : ∃ x, x = World.drew w8 := ⟨_, rfl⟩
    rw [← hwd] at HI HB HL HN6 hHeld ⊢
    clear hwd
    have HSS := Lib.hid (show wd.cell? ⟨b, 0, none⟩ = some (.slice (some ⟨g, 0, none⟩) Rk.length c) ∧ wd.cell? ⟨G + 1, 1, none⟩ = some (.int .i64 k) from ⟨by rw [HLEN.out]; exact HI.out.ah.bx.cell 0, HI.out.eb.cell 1⟩)
    refine wpAnyZ_takeY (i := 0) (oi := { dst := some 126, op := Op.move (Operand.tmp 0), type := 59, pos := "ref.go:100", after := #[], guard := none }) (v := ?_) rfl (by kernel_rfl) (by kernel_rfl) (by kernel_rfl) (by rfl) (fun _ _ _ h => h) (Or.inl ⟨by rfl, ?_⟩) (by assumption) ?_
    rotate_left
    · (intro w; go_simp); (first | done | with_reducible rfl)
    try simp only [Act.put, List.setIfInBounds_toArray, List.set_cons_zero, List.set_cons_succ]
    refine wpAnyZ_takeY (i := 1) (oi := { dst := some 127, op := Op.move (Operand.tmp 9), type := 22, pos := "ref.go:100", after := #[], guard := none }) (v := ?_) rfl (by kernel_rfl) (by kernel_rfl) (by kernel_rfl) (by rfl) (fun _ _ _ h => h) (Or.inl ⟨by rfl, ?_⟩) (by assumption) ?_
    rotate_left
    · (intro w; go_simp); (first | done | with_reducible rfl)
    try simp only [Act.put, List.setIfInBounds_toArray, List.set_cons_zero, List.set_cons_succ]
    refine wpAnyZ_takeY (i := 2) (oi := { dst := some 128, op := Op.move (Operand.tmp 0), type := 59, pos := "ref.go:100", after := #[], guard := none }) (v := ?_) rfl (by kernel_rfl) (by kernel_rfl) (by kernel_rfl) (by rfl) (fun _ _ _ h => h) (Or.inl ⟨by rfl, ?_⟩) (by assumption) ?_
    rotate_left
    · (intro w; go_simp); (first | done | with_reducible rfl)
    try simp only [Act.put, List.setIfInBounds_toArray, List.set_cons_zero, List.set_cons_succ]
    refine wpAnyZ_takeY (i := 3) (oi := { dst := some 129, op := Op.nilCheck (Operand.tmp 128), type := 0, pos := "ref.go:100", after := #[{ on := 2, ground := Ground.data }], guard := none }) (v := ?_) rfl (by kernel_rfl) (by kernel_rfl) (by kernel_rfl) (by rfl) (fun _ _ _ h => h) (Or.inl ⟨by rfl, ?_⟩) (by assumption) ?_
    rotate_left
    · (intro w; go_simp); (first | done | with_reducible rfl)
    try simp only [Act.put, List.setIfInBounds_toArray, List.set_cons_zero, List.set_cons_succ]
    refine wpAnyZ_takeY (i := 4) (oi := { dst := some 130, op := Op.fieldAddr 24 (Operand.tmp 129) 0, type := 0, pos := "ref.go:100", after := #[{ on := 3, ground := Ground.data }], guard := none }) (v := ?_) rfl (by kernel_rfl) (by kernel_rfl) (by kernel_rfl) (by rfl) (fun _ _ _ h => h) (Or.inl ⟨by rfl, ?_⟩) (by assumption) ?_
    rotate_left
    · (intro w; go_simp); (first | done | with_reducible rfl)
    try simp only [Act.put, List.setIfInBounds_toArray, List.set_cons_zero, List.set_cons_succ]
    refine wpAnyZ_take (i := 5) (oi := { dst := some 131, op := Op.load 22 (Operand.tmp 130), type := 22, pos := "ref.go:100", after := #[{ on := 4, ground := Ground.data }], guard := none }) (v := ?_) [9, 10, 11, 12, 13] rfl (by kernel_rfl) (by kernel_rfl) (by kernel_rfl) (by kernel_rfl) (fun _ _ _ h => h) (Or.inl ⟨by rfl, ?_⟩) (by assumption) ?_
    rotate_left
    · (intro w hSw; (try dsimp only at hSw); go_simp); (first | done | with_reducible rfl)
    try simp only [Act.put, List.setIfInBounds_toArray, List.set_cons_zero, List.set_cons_succ]
    refine wpAnyZ_takeY (i := 6) (oi := { dst := some 132, op := Op.fieldAddr 27 (Operand.tmp 5) 1, type := 0, pos := "ref.go:100", after := #[], guard := none }) (v := ?_) rfl (by kernel_rfl) (by kernel_rfl) (by kernel_rfl) (by rfl) (fun _ _ _ h => h) (Or.inl ⟨by rfl, ?_⟩) (by assumption) ?_
    rotate_left
    · (intro w; go_simp); (first | done | with_reducible rfl)
    try simp only [Act.put, List.setIfInBounds_toArray, List.set_cons_zero, List.set_cons_succ]
    refine wpAnyZ_take (i := 7) (oi := { dst := some 133, op := Op.load 3 (Operand.tmp 132), type := 3, pos := "ref.go:100", after := #[{ on := 6, ground := Ground.data }], guard := none }) (v := ?_) [8, 9, 10, 11, 12, 13] rfl (by kernel_rfl) (by kernel_rfl) (by kernel_rfl) (by kernel_rfl) (fun _ _ _ h => h) (Or.inl ⟨by rfl, ?_⟩) (by assumption) ?_
    rotate_left
    · (intro w hSw; (try dsimp only at hSw); go_simp); (first | done | with_reducible rfl)
    try simp only [Act.put, List.setIfInBounds_toArray, List.set_cons_zero, List.set_cons_succ]
    refine wpAnyZ_takeY (i := 8) (oi := { dst := some 134, op := Op.binOp BinOp.add 3 (Operand.tmp 133) (Operand.const (Value.int IntKind.i64 1)) 3, type := 3, pos := "ref.go:100", after := #[{ on := 7, ground := Ground.data }], guard := none }) (v := ?_) rfl (by kernel_rfl) (by kernel_rfl) (by kernel_rfl) (by rfl) (fun _ _ _ h => h) (Or.inl ⟨by rfl, ?_⟩) (by assumption) ?_
    rotate_left
    · (intro w; go_simp); (first | done | with_reducible rfl)
    try simp only [Act.put, List.setIfInBounds_toArray, List.set_cons_zero, List.set_cons_succ]
    refine wpAnyZ_takeY (i := 9) (oi := { dst := some 135, op := Op.slice 22 (Operand.tmp 131) (some (Operand.tmp 134)) none none, type := 22, pos := "ref.go:100", after := #[{ on := 5, ground := Ground.data }, { on := 8, ground := Ground.data }], guard := none }) (v := ?_) rfl (by kernel_rfl) (by kernel_rfl) (by kernel_rfl) (by rfl) (fun _ _ _ h => h) (Or.inl ⟨by rfl, ?_⟩) (by assumption) ?_
    rotate_left
    · (intro w; go_simp); (first | done | with_reducible rfl)
    try simp only [Act.put, List.setIfInBounds_toArray, List.set_cons_zero, List.set_cons_succ]
    refine wpAnyZ_ready (rs := [10]) (by kernel_rfl) (by simp) ?_
    refine AllReadyZ.cons (o := { dst := some 136, op := Op.call { callee := Callee.builtin Builtin.append, args := #[Operand.tmp 127, Operand.tmp 135], argTypes := #[22, 22] }, type := 22, pos := "ref.go:100", after := #[{ on := 1, ground := Ground.data }, { on := 9, ground := Ground.data }], guard := none }) rfl (by rfl) (fun K hK => ?_) (AllReadyZ.nil)
    refine step_append_tabs (by rfl) _ _ 22 (by rfl) w1.heap.size i1 z1 Try.underlying22 hi1 hz1 h11 h12 h13 (.slice a8 (k + 1 + 1) c8) (k + 1 + 1) (tbC (Rk.take (k + 1)) ++ tbC [⟨key, sl, a6, c6⟩]) (by rfl) HL.out ⟨g, (k + 1) * 2, none⟩ (c - (k + 1)) (Rk.length - (k + 1)) (Rk.drop (k + 1)) (by simp [Act.eval, Act.put, q0]) (by rw [List.length_drop]) (cellsAt_drop HI.out.ah.own (k + 1)) (by omega) HB.out.size ?_
    intro v9 w9 ho9 hg9
    obtain ⟨a9, c9, rfl⟩ := own_shape16 ho9
    obtain ⟨g9, rfl, _⟩ := own_cell16 (by omega) ho9
    have HF := Lib.hid (FIN.out g9 c9 w9 a6 c6 HL.out HN6.out HB.out ho9 hg9)
    have HB9 := Lib.hid (HB.out.grown hg9 HB.out.size (fun q hq => (HL.out.lt q hq).1))
    replace HB := Lib.hid HB9.out
    replace HI := Lib.hid (HI1.out.below HB.out)
    clear ho9 hg9 HB9
    refine hK.out _ _ ?_ (fun hHeld => ?_)
    · exact ⟨by rw [HLEN.out]; exact HI.out.ah.bx.cell 0, HI.out.eb.cell 1⟩
    clear hK K
    try simp only [Act.put, List.setIfInBounds_toArray, List.set_cons_zero, List.set_cons_succ]
    refine wpAnyZ_takeY (i := 11) (oi := { dst := some 137, op := Op.nilCheck (Operand.tmp 126), type := 0, pos := "ref.go:100", after := #[{ on := 0, ground := Ground.data }, { on := 0, ground := Ground.phase }, { on := 1, ground := Ground.phase }, { on := 2, ground := Ground.phase }, { on := 3, ground := Ground.phase }, { on := 4, ground := Ground.phase }, { on := 5, ground := Ground.phase }, { on := 6, ground := Ground.phase }, { on := 7, ground := Ground.phase }, { on := 8, ground := Ground.phase }, { on := 9, ground := Ground.phase }, { on := 10, ground := Ground.phase }], guard := none }) (v := ?_) rfl (by kernel_rfl) (by kernel_rfl) (by kernel_rfl) (by rfl) (fun _ _ _ h => h) (Or.inl ⟨by rfl, ?_⟩) (by assumption) ?_
    rotate_left
    · (intro w; go_simp); (first | done | with_reducible rfl)
    try simp only [Act.put, List.setIfInBounds_toArray, List.set_cons_zero, List.set_cons_succ]
    refine wpAnyZ_takeY (i := 12) (oi := { dst := some 138, op := Op.fieldAddr 24 (Operand.tmp 137) 0, type := 0, pos := "ref.go:100", after := #[{ on := 11, ground := Ground.data }, { on := 0, ground := Ground.phase }, { on := 1, ground := Ground.phase }, { on := 2, ground := Ground.phase }, { on := 3, ground := Ground.phase }, { on := 4, ground := Ground.phase }, { on := 5, ground := Ground.phase }, { on := 6, ground := Ground.phase }, { on := 7, ground := Ground.phase }, { on := 8, ground := Ground.phase }, { on := 9, ground := Ground.phase }, { on := 10, ground := Ground.phase }], guard := none }) (v := ?_) rfl (by kernel_rfl) (by kernel_rfl) (by kernel_rfl) (by rfl) (fun _ _ _ h => h) (Or.inl ⟨by rfl, ?_⟩) (by assumption) ?_
    rotate_left
    · (intro w; go_simp); (first | done | with_reducible rfl)
    try simp only [Act.put, List.setIfInBounds_toArray, List.set_cons_zero, List.set_cons_succ]
    refine wpAnyZ_ready (rs := [13]) (by kernel_rfl) (by simp) ?_
    refine AllReadyZ.last (o := { dst := none, op := Op.store 22 (Operand.tmp 138) (Operand.tmp 136), type := 0, pos := "ref.go:100", after := #[{ on := 12, ground := Ground.data }, { on := 10, ground := Ground.data }, { on := 10, ground := Ground.chain }, { on := 0, ground := Ground.phase }, { on := 1, ground := Ground.phase }, { on := 2, ground := Ground.phase }, { on := 3, ground := Ground.phase }, { on := 4, ground := Ground.phase }, { on := 5, ground := Ground.phase }, { on := 6, ground := Ground.phase }, { on := 7, ground := Ground.phase }, { on := 8, ground := Ground.phase }, { on := 9, ground := Ground.phase }, { on := 10, ground := Ground.phase }], guard := none }) rfl (fun K hK => ?_) AllReadyZ.nil
    have f9 := HI.out.ah.bx.free 0
    have m9 : w9.cell? ⟨b, 0, none⟩ = some (.slice (some ⟨g, 0, none⟩) Rk.length c) := by rw [HLEN.out]; exact HI.out.ah.bx.cell 0
    go_simp
    refine hK.out _ _ ?_
    clear hK K
    refine wpAny_done (by kernel_rfl) ?_ _
    have HG := Lib.hid (HF.out HI.out.ah.bx HI.out.kp HI.out.ah.b0)
    clear HF
    go_wp2_with fail
    go_ret
    have HE2 := Lib.hid (HED.out.trans ((if_neg (by decide)).trans ((if_neg (by decide)).trans (if_pos (by trivial)))))
    have h9 := HG.out
    rw [tbs_splitL] at h9
    rw [show ((Rk.getD k rt0).l) = sl from HSA.out.2] at HE2
    exact .inr ⟨_, _, HE2.out, rfl, h9, .inl rfl⟩
  · have e9 : Rk.drop (k + 1) = [] := List.drop_eq_nil_of_le (by omega)
    rw [e9, show tbC ([] : List Rt) = [] from rfl] at FIN
    by_cases q0 : c = k + 1
    · have q0 := q0
      replace HL := Lib.hid (own_below16 HL.out (Below.refl _ w8).drew)
      replace HN6 := Lib.hid (show OwnN w1.heap.size _ ⟨key, sl, a6, c6⟩ from own_below16 HN6.out (Below.refl _ w8).drew)
      replace HI := Lib.hid (HI.out.below (Below.refl _ w8).drew)
      replace HB := Lib.hid (HB.out.drew)
      refine wp_region_Z (S := fun V => V.cell? ⟨b, 0, none⟩ = some (.slice (some ⟨g, 0, none⟩) Rk.length c) ∧ V.cell? ⟨G + 1, 1, none⟩ = some (.int .i64 k)) 13 (by kernel_rfl) ?_ (fun hHeld => ?_)
      · exact ⟨by rw [HLEN.out]; exact HI.out.ah.bx.cell 0, HI.out.eb.cell 1⟩
      obtain ⟨wd, hwd⟩ : ∃ x, x = World.drew w8 := ⟨_, rfl⟩
      rw [← hwd] at HI HB HL HN6 hHeld ⊢
      clear hwd
      have HSS := Lib.hid (show wd.cell? ⟨b, 0, none⟩ = some (.slice (some ⟨g, 0, none⟩) Rk.length c) ∧ wd.cell? ⟨G + 1, 1, none⟩ = some (.int .i64 k) from ⟨by rw [HLEN.out]; exact HI.out.ah.bx.cell 0, HI.out.eb.cell 1⟩)
      refine wpAnyZ_takeY (i := 0) (oi := { dst := some 126, op := Op.move (Operand.tmp 0), type := 59, pos := "ref.go:100", after := #[], guard := none }) (v := ?_) rfl (by kernel_rfl) (by kernel_rfl) (by kernel_rfl) (by rfl) (fun _ _ _ h => h) (Or.inl ⟨by rfl, ?_⟩) (by assumption) ?_
      rotate_left
      · (intro w; go_simp); (first | done | with_reducible rfl)
      try simp only [Act.put, List.setIfInBounds_toArray, List.set_cons_zero, List.set_cons_succ]
      refine wpAnyZ_takeY (i := 1) (oi := { dst := some 127, op := Op.move (Operand.tmp 9), type := 22, pos := "ref.go:100", after := #[], guard := none }) (v := ?_) rfl (by kernel_rfl) (by kernel_rfl) (by kernel_rfl) (by rfl) (fun _ _ _ h => h) (Or.inl ⟨by rfl, ?_⟩) (by assumption) ?_
      rotate_left
      · (intro w; go_simp); (first | done | with_reducible rfl)
      try simp only [Act.put, List.setIfInBounds_toArray, List.set_cons_zero, List.set_cons_succ]
      refine wpAnyZ_takeY (i := 2) (oi := { dst := some 128, op := Op.move (Operand.tmp 0), type := 59, pos := "ref.go:100", after := #[], guard := none }) (v := ?_) rfl (by kernel_rfl) (by kernel_rfl) (by kernel_rfl) (by rfl) (fun _ _ _ h => h) (Or.inl ⟨by rfl, ?_⟩) (by assumption) ?_
      rotate_left
      · (intro w; go_simp); (first | done | with_reducible rfl)
      try simp only [Act.put, List.setIfInBounds_toArray, List.set_cons_zero, List.set_cons_succ]
      refine wpAnyZ_takeY (i := 3) (oi := { dst := some 129, op := Op.nilCheck (Operand.tmp 128), type := 0, pos := "ref.go:100", after := #[{ on := 2, ground := Ground.data }], guard := none }) (v := ?_) rfl (by kernel_rfl) (by kernel_rfl) (by kernel_rfl) (by rfl) (fun _ _ _ h => h) (Or.inl ⟨by rfl, ?_⟩) (by assumption) ?_
      rotate_left
      · (intro w; go_simp); (first | done | with_reducible rfl)
      try simp only [Act.put, List.setIfInBounds_toArray, List.set_cons_zero, List.set_cons_succ]
      refine wpAnyZ_takeY (i := 4) (oi := { dst := some 130, op := Op.fieldAddr 24 (Operand.tmp 129) 0, type := 0, pos := "ref.go:100", after := #[{ on := 3, ground := Ground.data }], guard := none }) (v := ?_) rfl (by kernel_rfl) (by kernel_rfl) (by kernel_rfl) (by rfl) (fun _ _ _ h => h) (Or.inl ⟨by rfl, ?_⟩) (by assumption) ?_
      rotate_left
      · (intro w; go_simp); (first | done | with_reducible rfl)
      try simp only [Act.put, List.setIfInBounds_toArray, List.set_cons_zero, List.set_cons_succ]
      refine wpAnyZ_take (i := 5) (oi := { dst := some 131, op := Op.load 22 (Operand.tmp 130), type := 22, pos := "ref.go:100", after := #[{ on := 4, ground := Ground.data }], guard := none }) (v := ?_) [9, 10, 11, 12, 13] rfl (by kernel_rfl) (by kernel_rfl) (by kernel_rfl) (by kernel_rfl) (fun _ _ _ h => h) (Or.inl ⟨by rfl, ?_⟩) (by assumption) ?_
      rotate_left
      · (intro w hSw; (try dsimp only at hSw); go_simp); (first | done | with_reducible rfl)
      try simp only [Act.put, List.setIfInBounds_toArray, List.set_cons_zero, List.set_cons_succ]
      refine wpAnyZ_takeY (i := 6) (oi := { dst := some 132, op := Op.fieldAddr 27 (Operand.tmp 5) 1, type := 0, pos := "ref.go:100", after := #[], guard := none }) (v := ?_) rfl (by kernel_rfl) (by kernel_rfl) (by kernel_rfl) (by rfl) (fun _ _ _ h => h) (Or.inl ⟨by rfl, ?_⟩) (by assumption) ?_
      rotate_left
      · (intro w; go_simp); (first | done | with_reducible rfl)
      try simp only [Act.put, List.setIfInBounds_toArray, List.set_cons_zero, List.set_cons_succ]
      refine wpAnyZ_take (i := 7) (oi := { dst := some 133, op := Op.load 3 (Operand.tmp 132), type := 3, pos := "ref.go:100", after := #[{ on := 6, ground := Ground.data }], guard := none }) (v := ?_) [8, 9, 10, 11, 12, 13] rfl (by kernel_rfl) (by kernel_rfl) (by kernel_rfl) (by kernel_rfl) (fun _ _ _ h => h) (Or.inl ⟨by rfl, ?_⟩) (by assumption) ?_
      rotate_left
      · (intro w hSw; (try dsimp only at hSw); go_simp); (first | done | with_reducible rfl)
      try simp only [Act.put, List.setIfInBounds_toArray, List.set_cons_zero, List.set_cons_succ]
      refine wpAnyZ_takeY (i := 8) (oi := { dst := some 134, op := Op.binOp BinOp.add 3 (Operand.tmp 133) (Operand.const (Value.int IntKind.i64 1)) 3, type := 3, pos := "ref.go:100", after := #[{ on := 7, ground := Ground.data }], guard := none }) (v := ?_) rfl (by kernel_rfl) (by kernel_rfl) (by kernel_rfl) (by rfl) (fun _ _ _ h => h) (Or.inl ⟨by rfl, ?_⟩) (by assumption) ?_
      rotate_left
      · (intro w; go_simp); (first | done | with_reducible rfl)
      try simp only [Act.put, List.setIfInBounds_toArray, List.set_cons_zero, List.set_cons_succ]
      refine wpAnyZ_takeY (i := 9) (oi := { dst := some 135, op := Op.slice 22 (Operand.tmp 131) (some (Operand.tmp 134)) none none, type := 22, pos := "ref.go:100", after := #[{ on := 5, ground := Ground.data }, { on := 8, ground := Ground.data }], guard := none }) (v := ?_) rfl (by kernel_rfl) (by kernel_rfl) (by kernel_rfl) (by rfl) (fun _ _ _ h => h) (Or.inl ⟨by rfl, ?_⟩) (by assumption) ?_
      rotate_left
      · (intro w; go_simp); (first | done | with_reducible rfl)
      try simp only [Act.put, List.setIfInBounds_toArray, List.set_cons_zero, List.set_cons_succ]
      refine wpAnyZ_ready (rs := [10]) (by kernel_rfl) (by simp) ?_
      refine AllReadyZ.cons (o := { dst := some 136, op := Op.call { callee := Callee.builtin Builtin.append, args := #[Operand.tmp 127, Operand.tmp 135], argTypes := #[22, 22] }, type := 22, pos := "ref.go:100", after := #[{ on := 1, ground := Ground.data }, { on := 9, ground := Ground.data }], guard := none }) rfl (by rfl) (fun K hK => ?_) (AllReadyZ.nil)
      refine step_append_tabs (by rfl) _ _ 22 (by rfl) w1.heap.size i1 z1 Try.underlying22 hi1 hz1 h11 h12 h13 (.slice a8 (k + 1 + 1) c8) (k + 1 + 1) (tbC (Rk.take (k + 1)) ++ tbC [⟨key, sl, a6, c6⟩]) (by rfl) HL.out _ _ (Rk.length - (k + 1)) [] (by simp [Act.eval, Act.put, q0]; exact ⟨rfl, rfl⟩) (by simp only [List.length_nil]; omega) (cellsAt_nil _ _) (by omega) HB.out.size ?_
      intro v9 w9 ho9 hg9
      obtain ⟨a9, c9, rfl⟩ := own_shape16 ho9
      obtain ⟨g9, rfl, _⟩ := own_cell16 (by omega) ho9
      have HF := Lib.hid (FIN.out g9 c9 w9 a6 c6 HL.out HN6.out HB.out ho9 hg9)
      have HB9 := Lib.hid (HB.out.grown hg9 HB.out.size (fun q hq => (HL.out.lt q hq).1))
      replace HB := Lib.hid HB9.out
      replace HI := Lib.hid (HI1.out.below HB.out)
      clear ho9 hg9 HB9
      refine hK.out _ _ ?_ (fun hHeld => ?_)
      · exact ⟨by rw [HLEN.out]; exact HI.out.ah.bx.cell 0, HI.out.eb.cell 1⟩
      clear hK K
      try simp only [Act.put, List.setIfInBounds_toArray, List.set_cons_zero, List.set_cons_succ]
      refine wpAnyZ_takeY (i := 11) (oi := { dst := some 137, op := Op.nilCheck (Operand.tmp 126), type := 0, pos := "ref.go:100", after := #[{ on := 0, ground := Ground.data }, { on := 0, ground := Ground.phase }, { on := 1, ground := Ground.phase }, { on := 2, ground := Ground.phase }, { on := 3, ground := Ground.phase }, { on := 4, ground := Ground.phase }, { on := 5, ground := Ground.phase }, { on := 6, ground := Ground.phase }, { on := 7, ground := Ground.phase }, { on := 8, ground := Ground.phase }, { on := 9, ground := Ground.phase }, { on := 10, ground := Ground.phase }], guard := none }) (v := ?_) rfl (by kernel_rfl) (by kernel_rfl) (by kernel_rfl) (by rfl) (fun _ _ _ h => h) (Or.inl ⟨by rfl, ?_⟩) (by assumption) ?_
      rotate_left
      · (intro w; go_simp); (first | done | with_reducible rfl)
      try simp only [Act.put, List.setIfInBounds_toArray, List.set_cons_zero, List.set_cons_succ]
      refine wpAnyZ_takeY (i := 12) (oi := { dst := some 138, op := Op.fieldAddr 24 (Operand.tmp 137) 0, type := 0, pos := "ref.go:100", after := #[{ on := 11, ground := Ground.data }, { on := 0, ground := Ground.phase }, { on := 1, ground := Ground.phase }, { on := 2, ground := Ground.phase }, { on := 3, ground := Ground.phase }, { on := 4, ground := Ground.phase }, { on := 5, ground := Ground.phase }, { on := 6, ground := Ground.phase }, { on := 7, ground := Ground.phase }, { on := 8, ground := Ground.phase }, { on := 9, ground := Ground.phase }, { on := 10, ground := Ground.phase }], guard := none }) (v := ?_) rfl (by kernel_rfl) (by kernel_rfl) (by kernel_rfl) (by rfl) (fun _ _ _ h => h) (Or.inl ⟨by rfl, ?_⟩) (by assumption) ?_
      rotate_left
      · (intro w; go_simp); (first | done | with_reducible rfl)
      try simp only [Act.put, List.setIfInBounds_toArray, List.set_cons_zero, List.set_cons_succ]
      refine wpAnyZ_ready (rs := [13]) (by kernel_rfl) (by simp) ?_
      refine AllReadyZ.last (o := { dst := none, op := Op.store 22 (Operand.tmp 138) (Operand.tmp 136), type := 0, pos := "ref.go:100", after := #[{ on := 12, ground := Ground.data }, { on := 10, ground := Ground.data }, { on := 10, ground := Ground.chain }, { on := 0, ground := Ground.phase }, { on := 1, ground := Ground.phase }, { on := 2, ground := Ground.phase }, { on := 3, ground := Ground.phase }, { on := 4, ground := Ground.phase }, { on := 5, ground := Ground.phase }, { on := 6, ground := Ground.phase }, { on := 7, ground := Ground.phase }, { on := 8, ground := Ground.phase }, { on := 9, ground := Ground.phase }, { on := 10, ground := Ground.phase }], guard := none }) rfl (fun K hK => ?_) AllReadyZ.nil
      have f9 := HI.out.ah.bx.free 0
      have m9 : w9.cell? ⟨b, 0, none⟩ = some (.slice (some ⟨g, 0, none⟩) Rk.length c) := by rw [HLEN.out]; exact HI.out.ah.bx.cell 0
      go_simp
      refine hK.out _ _ ?_
      clear hK K
      refine wpAny_done (by kernel_rfl) ?_ _
      have HG := Lib.hid (HF.out HI.out.ah.bx HI.out.kp HI.out.ah.b0)
      clear HF
      go_wp2_with fail
      go_ret
      have HE2 := Lib.hid (HED.out.trans ((if_neg (by decide)).trans ((if_neg (by decide)).trans (if_pos (by trivial)))))
      have h9 := HG.out
      rw [tbs_splitL] at h9
      rw [show ((Rk.getD k rt0).l) = sl from HSA.out.2] at HE2
      exact .inr ⟨_, _, HE2.out, rfl, h9, .inl rfl⟩
    · have q0 := q0
      replace HL := Lib.hid (own_below16 HL.out (Below.refl _ w8).drew)
      replace HN6 := Lib.hid (show OwnN w1.heap.size _ ⟨key, sl, a6, c6⟩ from own_below16 HN6.out (Below.refl _ w8).drew)
      replace HI := Lib.hid (HI.out.below (Below.refl _ w8).drew)
      replace HB := Lib.hid (HB.out.drew)
      refine wp_region_Z (S := fun V => V.cell? ⟨b, 0, none⟩ = some (.slice (some ⟨g, 0, none⟩) Rk.length c) ∧ V.cell? ⟨G + 1, 1, none⟩ = some (.int .i64 k)) 13 (by kernel_rfl) ?_ (fun hHeld => ?_)
      · exact ⟨by rw [HLEN.out]; exact HI.out.ah.bx.cell 0, HI.out.eb.cell 1⟩
      obtain ⟨wd, hwd⟩ : ∃ x, x = World.drew w8 := ⟨_, rfl⟩
      rw [← hwd] at HI HB HL HN6 hHeld ⊢
      clear hwd
      have HSS := Lib.hid (show wd.cell? ⟨b, 0, none⟩ = some (.slice (some ⟨g, 0, none⟩) Rk.length c) ∧ wd.cell? ⟨G + 1, 1, none⟩ = some (.int .i64 k) from ⟨by rw [HLEN.out]; exact HI.out.ah.bx.cell 0, HI.out.eb.cell 1⟩)
      refine wpAnyZ_takeY (i := 0) (oi := { dst := some 126, op := Op.move (Operand.tmp 0), type := 59, pos := "ref.go:100", after := #[], guard := none }) (v := ?_) rfl (by kernel_rfl) (by kernel_rfl) (by kernel_rfl) (by rfl) (fun _ _ _ h => h) (Or.inl ⟨by rfl, ?_⟩) (by assumption) ?_
      rotate_left
      · (intro w; go_simp); (first | done | with_reducible rfl)
      try simp only [Act.put, List.setIfInBounds_toArray, List.set_cons_zero, List.set_cons_succ]
      refine wpAnyZ_takeY (i := 1) (oi := { dst := some 127, op := Op.move (Operand.tmp 9), type := 22, pos := "ref.go:100", after := #[], guard := none }) (v := ?_) rfl (by kernel_rfl) (by kernel_rfl) (by kernel_rfl) (by rfl) (fun _ _ _ h => h) (Or.inl ⟨by rfl, ?_⟩) (by assumption) ?_
      rotate_left
      · (intro w; go_simp); (first | done | with_reducible rfl)
      try simp only [Act.put, List.setIfInBounds_toArray, List.set_cons_zero, List.set_cons_succ]
      refine wpAnyZ_takeY (i := 2) (oi := { dst := some 128, op := Op.move (Operand.tmp 0), type := 59, pos := "ref.go:100", after := #[], guard := none }) (v := ?_) rfl (by kernel_rfl) (by kernel_rfl) (by kernel_rfl) (by rfl) (fun _ _ _ h => h) (Or.inl ⟨by rfl, ?_⟩) (by assumption) ?_
      rotate_left
      · (intro w; go_simp); (first | done | with_reducible rfl)
      try simp only [Act.put, List.setIfInBounds_toArray, List.set_cons_zero, List.set_cons_succ]
      refine wpAnyZ_takeY (i := 3) (oi := { dst := some 129, op := Op.nilCheck (Operand.tmp 128), type := 0, pos := "ref.go:100", after := #[{ on := 2, ground := Ground.data }], guard := none }) (v := ?_) rfl (by kernel_rfl) (by kernel_rfl) (by kernel_rfl) (by rfl) (fun _ _ _ h => h) (Or.inl ⟨by rfl, ?_⟩) (by assumption) ?_
      rotate_left
      · (intro w; go_simp); (first | done | with_reducible rfl)
      try simp only [Act.put, List.setIfInBounds_toArray, List.set_cons_zero, List.set_cons_succ]
      refine wpAnyZ_takeY (i := 4) (oi := { dst := some 130, op := Op.fieldAddr 24 (Operand.tmp 129) 0, type := 0, pos := "ref.go:100", after := #[{ on := 3, ground := Ground.data }], guard := none }) (v := ?_) rfl (by kernel_rfl) (by kernel_rfl) (by kernel_rfl) (by rfl) (fun _ _ _ h => h) (Or.inl ⟨by rfl, ?_⟩) (by assumption) ?_
      rotate_left
      · (intro w; go_simp); (first | done | with_reducible rfl)
      try simp only [Act.put, List.setIfInBounds_toArray, List.set_cons_zero, List.set_cons_succ]
      refine wpAnyZ_take (i := 5) (oi := { dst := some 131, op := Op.load 22 (Operand.tmp 130), type := 22, pos := "ref.go:100", after := #[{ on := 4, ground := Ground.data }], guard := none }) (v := ?_) [9, 10, 11, 12, 13] rfl (by kernel_rfl) (by kernel_rfl) (by kernel_rfl) (by kernel_rfl) (fun _ _ _ h => h) (Or.inl ⟨by rfl, ?_⟩) (by assumption) ?_
      rotate_left
      · (intro w hSw; (try dsimp only at hSw); go_simp); (first | done | with_reducible rfl)
      try simp only [Act.put, List.setIfInBounds_toArray, List.set_cons_zero, List.set_cons_succ]
      refine wpAnyZ_takeY (i := 6) (oi := { dst := some 132, op := Op.fieldAddr 27 (Operand.tmp 5) 1, type := 0, pos := "ref.go:100", after := #[], guard := none }) (v := ?_) rfl (by kernel_rfl) (by kernel_rfl) (by kernel_rfl) (by rfl) (fun _ _ _ h => h) (Or.inl ⟨by rfl, ?_⟩) (by assumption) ?_
      rotate_left
      · (intro w; go_simp); (first | done | with_reducible rfl)
      try simp only [Act.put, List.setIfInBounds_toArray, List.set_cons_zero, List.set_cons_succ]
      refine wpAnyZ_take (i := 7) (oi := { dst := some 133, op := Op.load 3 (Operand.tmp 132), type := 3, pos := "ref.go:100", after := #[{ on := 6, ground := Ground.data }], guard := none }) (v := ?_) [8, 9, 10, 11, 12, 13] rfl (by kernel_rfl) (by kernel_rfl) (by kernel_rfl) (by kernel_rfl) (fun _ _ _ h => h) (Or.inl ⟨by rfl, ?_⟩) (by assumption) ?_
      rotate_left
      · (intro w hSw; (try dsimp only at hSw); go_simp); (first | done | with_reducible rfl)
      try simp only [Act.put, List.setIfInBounds_toArray, List.set_cons_zero, List.set_cons_succ]
      refine wpAnyZ_takeY (i := 8) (oi := { dst := some 134, op := Op.binOp BinOp.add 3 (Operand.tmp 133) (Operand.const (Value.int IntKind.i64 1)) 3, type := 3, pos := "ref.go:100", after := #[{ on := 7, ground := Ground.data }], guard := none }) (v := ?_) rfl (by kernel_rfl) (by kernel_rfl) (by kernel_rfl) (by rfl) (fun _ _ _ h => h) (Or.inl ⟨by rfl, ?_⟩) (by assumption) ?_
      rotate_left
      · (intro w; go_simp); (first | done | with_reducible rfl)
      try simp only [Act.put, List.setIfInBounds_toArray, List.set_cons_zero, List.set_cons_succ]
      refine wpAnyZ_takeY (i := 9) (oi := { dst := some 135, op := Op.slice 22 (Operand.tmp 131) (some (Operand.tmp 134)) none none, type := 22, pos := "ref.go:100", after := #[{ on := 5, ground := Ground.data }, { on := 8, ground := Ground.data }], guard := none }) (v := ?_) rfl (by kernel_rfl) (by kernel_rfl) (by kernel_rfl) (by rfl) (fun _ _ _ h => h) (Or.inl ⟨by rfl, ?_⟩) (by assumption) ?_
      rotate_left
      · (intro w; go_simp); (first | done | with_reducible rfl)
      try simp only [Act.put, List.setIfInBounds_toArray, List.set_cons_zero, List.set_cons_succ]
      refine wpAnyZ_ready (rs := [10]) (by kernel_rfl) (by simp) ?_
      refine AllReadyZ.cons (o := { dst := some 136, op := Op.call { callee := Callee.builtin Builtin.append, args := #[Operand.tmp 127, Operand.tmp 135], argTypes := #[22, 22] }, type := 22, pos := "ref.go:100", after := #[{ on := 1, ground := Ground.data }, { on := 9, ground := Ground.data }], guard := none }) rfl (by rfl) (fun K hK => ?_) (AllReadyZ.nil)
      refine step_append_tabs (by rfl) _ _ 22 (by rfl) w1.heap.size i1 z1 Try.underlying22 hi1 hz1 h11 h12 h13 (.slice a8 (k + 1 + 1) c8) (k + 1 + 1) (tbC (Rk.take (k + 1)) ++ tbC [⟨key, sl, a6, c6⟩]) (by rfl) HL.out _ _ (Rk.length - (k + 1)) [] (by simp [Act.eval, Act.put, q0]; exact ⟨rfl, rfl⟩) (by simp only [List.length_nil]; omega) (cellsAt_nil _ _) (by omega) HB.out.size ?_
      intro v9 w9 ho9 hg9
      obtain ⟨a9, c9, rfl⟩ := own_shape16 ho9
      obtain ⟨g9, rfl, _⟩ := own_cell16 (by omega) ho9
      have HF := Lib.hid (FIN.out g9 c9 w9 a6 c6 HL.out HN6.out HB.out ho9 hg9)
      have HB9 := Lib.hid (HB.out.grown hg9 HB.out.size (fun q hq => (HL.out.lt q hq).1))
      replace HB := Lib.hid HB9.out
      replace HI := Lib.hid (HI1.out.below HB.out)
      clear ho9 hg9 HB9
      refine hK.out _ _ ?_ (fun hHeld => ?_)
      · exact ⟨by rw [HLEN.out]; exact HI.out.ah.bx.cell 0, HI.out.eb.cell 1⟩
      clear hK K
      try simp only [Act.put, List.setIfInBounds_toArray, List.set_cons_zero, List.set_cons_succ]
      refine wpAnyZ_takeY (i := 11) (oi := { dst := some 137, op := Op.nilCheck (Operand.tmp 126), type := 0, pos := "ref.go:100", after := #[{ on := 0, ground := Ground.data }, { on := 0, ground := Ground.phase }, { on := 1, ground := Ground.phase }, { on := 2, ground := Ground.phase }, { on := 3, ground := Ground.phase }, { on := 4, ground := Ground.phase }, { on := 5, ground := Ground.phase }, { on := 6, ground := Ground.phase }, { on := 7, ground := Ground.phase }, { on := 8, ground := Ground.phase }, { on := 9, ground := Ground.phase }, { on := 10, ground := Ground.phase }], guard := none }) (v := ?_) rfl (by kernel_rfl) (by kernel_rfl) (by kernel_rfl) (by rfl) (fun _ _ _ h => h) (Or.inl ⟨by rfl, ?_⟩) (by assumption) ?_
      rotate_left
      · (intro w; go_simp); (first | done | with_reducible rfl)
      try simp only [Act.put, List.setIfInBounds_toArray, List.set_cons_zero, List.set_cons_succ]
      refine wpAnyZ_takeY (i := 12) (oi := { dst := some 138, op := Op.fieldAddr 24 (Operand.tmp 137) 0, type := 0, pos := "ref.go:100", after := #[{ on := 11, ground := Ground.data }, { on := 0, ground := Ground.phase }, { on := 1, ground := Ground.phase }, { on := 2, ground := Ground.phase }, { on := 3, ground := Ground.phase }, { on := 4, ground := Ground.phase }, { on := 5, ground := Ground.phase }, { on := 6, ground := Ground.phase }, { on := 7, ground := Ground.phase }, { on := 8, ground := Ground.phase }, { on := 9, ground := Ground.phase }, { on := 10, ground := Ground.phase }], guard := none }) (v := ?_) rfl (by kernel_rfl) (by kernel_rfl) (by kernel_rfl) (by rfl) (fun _ _ _ h => h) (Or.inl ⟨by rfl, ?_⟩) (by assumption) ?_
      rotate_left
      · (intro w; go_simp); (first | done | with_reducible rfl)
      try simp only [Act.put, List.setIfInBounds_toArray, List.set_cons_zero, List.set_cons_succ]
      refine wpAnyZ_ready (rs := [13]) (by kernel_rfl) (by simp) ?_
      refine AllReadyZ.last (o := { dst := none, op := Op.store 22 (Operand.tmp 138) (Operand.tmp 136), type := 0, pos := "ref.go:100", after := #[{ on := 12, ground := Ground.data }, { on := 10, ground := Ground.data }, { on := 10, ground := Ground.chain }, { on := 0, ground := Ground.phase }, { on := 1, ground := Ground.phase }, { on := 2, ground := Ground.phase }, { on := 3, ground := Ground.phase }, { on := 4, ground := Ground.phase }, { on := 5, ground := Ground.phase }, { on := 6, ground := Ground.phase }, { on := 7, ground := Ground.phase }, { on := 8, ground := Ground.phase }, { on := 9, ground := Ground.phase }, { on := 10, ground := Ground.phase }], guard := none }) rfl (fun K hK => ?_) AllReadyZ.nil
      have f9 := HI.out.ah.bx.free 0
      have m9 : w9.cell? ⟨b, 0, none⟩ = some (.slice (some ⟨g, 0, none⟩) Rk.length c) := by rw [HLEN.out]; exact HI.out.ah.bx.cell 0
      go_simp
      refine hK.out _ _ ?_
      clear hK K
      refine wpAny_done (by kernel_rfl) ?_ _
      have HG := Lib.hid (HF.out HI.out.ah.bx HI.out.kp HI.out.ah.b0)
      clear HF
      go_wp2_with fail
      go_ret
      have HE2 := Lib.hid (HED.out.trans ((if_neg (by decide)).trans ((if_neg (by decide)).trans (if_pos (by trivial)))))
      have h9 := HG.out
      rw [tbs_splitL] at h9
      rw [show ((Rk.getD k rt0).l) = sl from HSA.out.2] at HE2
      exact .inr ⟨_, _, HE2.out, rfl, h9, .inl rfl⟩

end Go.Proofs.Ytfcmjgcjmldpcaa
