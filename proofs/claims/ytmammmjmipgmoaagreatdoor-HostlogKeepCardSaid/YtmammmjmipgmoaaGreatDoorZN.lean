/- Texts of lower layers, as one. -/
import Derived.Test.YtmammmjmipgmoaaGreatDoorZM
import Derived.Test.YtmammmjmipgmoaaGreatDoorZI
import Derived.Test.YtmammmjmipgmoaaGreatDoorZC
import Derived.Test.YtmammmjmipgmoaaGreatDoorZD
/- Layer 6: lay. By wip/tools/genhllay.py. -/
namespace Go.Proofs.YtmammmjmipgmoaaGreatDoor
set_option linter.unusedVariables false
open Go Go.RowKit Go.Maps

namespace Hl
def lay (G : Lg) (f : List UInt8) (D : Dk.St) : Int × Dk.St × Lg := ((Dk.append (nm (lastS G).n) f D).1, (Dk.append (nm (lastS G).n) f D).2, if (Dk.append (nm (lastS G).n) f D).1 = 0 then G.put1 f.length else G.hold (Dk.append (nm (lastS G).n) f D).1)
end Hl
section
variable {X Y : Nat → Prop} {B b d : Nat} {G G' : Hl.Lg} {D : Dk.St} {vs : Value} {P : List (Hl.Sm × Value)} {w w' w1 : World}
open Hl
def layV (b2 bl bf : Nat) : Value := .func (Fn.func 124) #[] #[.pointer (some ⟨bl, 0, none⟩), .pointer (some ⟨b2, 0, none⟩), .pointer (some ⟨bf, 0, none⟩)]
def layW6 (p : Addr) (bl bf : Nat) (w : World) : World := (w.alloc (.cells #[.pointer (some p)] 102)).alloc (.cells #[layV w.heap.size bl bf] 58)
theorem layW6_facts (p : Addr) (bl bf : Nat) (w : World) : Below w.heap.size w (layW6 p bl bf w) ∧ Bk #[.pointer (some p)] 102 (layW6 p bl bf w) w.heap.size ∧ Bk #[layV w.heap.size bl bf] 58 (layW6 p bl bf w) (w.heap.size + 1) ∧ (layW6 p bl bf w).heap.size = w.heap.size + 2 := by
  unfold layW6
  refine ⟨below_two5 w _ _, (bk_new _ _ _).more _, ?_, by simp only [sz5]⟩
  have := bk_new #[layV w.heap.size bl bf] 58 (w.alloc (.cells #[.pointer (some p)] 102))
  rw [sz5] at this
  exact this
set_option maxRecDepth 100000 in
theorem layRow6 (hL : LgIn B b d G vs P w) (h : DkX (fun k => X k ∨ LgF b vs P k) B d D w) (hX : ∀ k, X k → k < w.heap.size) (hB : B ≤ w.heap.size) (hv : Vr w) (hN : ∀ k, LgF b vs P k → ¬ X k) (h3 : 3 ≤ B) {m g o : Nat} {u : Value} (hg : LgF b vs P g)
    (c5 : w.cell? ⟨g, o, none⟩ = some (.int .i64 ((lastS G).n : Nat))) (c6 : w.cell? ⟨g, o + 1, none⟩ = some u) {bl bf : Nat} (yl : X bl) (yf : X bf) (f : List UInt8) (c1 : w.cell? ⟨bl, 0, none⟩ = some (.pointer (some ⟨b, 0, none⟩))) (c3 : w.cell? ⟨bf, 0, none⟩ = some (.string (S f))) (hf : f.length ≤ 100000) (hn : (lastS G).n ≤ 1000) :
    Calls Tryz.prog 61 #[.pointer (some ⟨b, 0, none⟩), .slice (some ⟨w.heap.size + 1, 0, none⟩) 1 1] (layW6 ⟨g, o, none⟩ bl bf w) (RwL6 (fun k => (X k ∨ LgF b vs P k) ∨ (w.heap.size ≤ k ∧ k < w.heap.size + 2)) B b d G vs P (Dk.append (nm (lastS G).n) f D) (layW6 ⟨g, o, none⟩ bl bf w)) := by
  obtain ⟨hb, hk1, hk2, hsz⟩ := layW6_facts ⟨g, o, none⟩ bl bf w
  obtain ⟨n1, n2⟩ := dk_new6 h hL hX hb
  generalize layW6 ⟨g, o, none⟩ bl bf w = w1 at *
  rw [hsz] at n1
  have n2' : ∀ k, ((X k ∨ LgF b vs P k) ∨ (w.heap.size ≤ k ∧ k < w.heap.size + 2)) → k < w1.heap.size := fun k hk => n2 k (by rw [hsz]; exact hk)
  have key := row6_any (X := fun k => (X k ∨ LgF b vs P k) ∨ (w.heap.size ≤ k ∧ k < w.heap.size + 2)) [(124, #[], #[.pointer (some ⟨bl, 0, none⟩), .pointer (some ⟨w.heap.size, 0, none⟩), .pointer (some ⟨bf, 0, none⟩)])] (w.heap.size + 1) 1 [Dk.append (nm (lastS G).n) f] rfl (by simp) (hL.below hb) n1 n2' (Nat.le_trans hB hb.size) (hv.below hb) (fun k hk => .inl (.inr hk)) h3 (.inr ⟨by omega, by omega⟩)
    (fun j hj => by
      match j, hj with
      | 0, _ => exact hk2.cell 0)
    (fun i hi => by
      match i, hi with
      | 0, _ => exact enters_of (fn := Tryz.f124) (by kernel_rfl) (by kernel_rfl) rfl)
    (fun i hi hi' D' w' hd hl hv' hw => by
      have kc : ∀ {a : Addr} {x : Value}, w.cell? a = some x → (X a.block ∨ LgF b vs P a.block) → w'.cell? a = some x := fun hc hx => cell_wr6 (cell_below6 hc hb) hw (fun q => q.2 (.inl hx))
      match i, hi, hi' with
      | 0, _, _ => exact lay1_6 hd (fun k hk => Nat.lt_of_lt_of_le (n2' k hk) hw.size) (Nat.le_trans hB (Nat.le_trans hb.size hw.size)) hv' (.inl (.inl yl)) (.inr ⟨Nat.le_refl _, by omega⟩) (.inl (.inl yf)) (.inl (.inr (.inl rfl))) (.inl (.inr hg)) (lastS G) u f (kc c1 (.inl yl)) ((hk1.wr hw (fun q => q.2 (.inr ⟨Nat.le_refl _, by omega⟩))).cell 0) (kc c3 (.inl yf)) hl.cell0 (kc c5 (.inr hg)) (kc c6 (.inr hg)) hn hf)
  rw [run_one] at key
  exact key
set_option maxHeartbeats 4000000 in
set_option maxRecDepth 100000 in
theorem lay6_any (h : HgX X B b d D G w) (hX : ∀ k, X k → k < w.heap.size) (hB : B ≤ w.heap.size) (hn : G.S ≠ []) (f : List UInt8) (hf : f.length ≤ 100) (hfin : (lastS G).fin < 900) :
    Calls Tryz.prog 71 #[.pointer (some ⟨b, 0, none⟩), .string (S f)] w (HgO X B b d (Hl.lay G f D) w) := by
  obtain ⟨vs, P, hL, hD, hN, hv, h3⟩ := h
  have hlen := hL.len
  have hfew := hL.ok.few
  obtain ⟨m, hm⟩ : ∃ m, P.length = m + 1 := ⟨P.length - 1, by have := List.length_pos_iff.2 hn; omega⟩
  obtain ⟨g, o, cap, v, rfl, q1, q2, q3, q4, q5, q6⟩ := hL.lastc hm
  have hsn : (lastS G).n ≤ 1000 := by unfold Sm.fin at hfin; omega
  have CL := Lib.hid (fun W (k : Below w.heap.size w W) => last6_in (G := G) (hL.box.below k) (by omega) q1)
  have CR := Lib.hid (fun (W : World) (k : Below w.heap.size w W) (l2 : w.heap.size + 1 < W.heap.size) (c1 : W.cell? ⟨w.heap.size, 0, none⟩ = some (.pointer (some ⟨b, 0, none⟩))) (c3 : W.cell? ⟨w.heap.size + 1, 0, none⟩ = some (.string (S f))) =>
    layRow6 (X := fun k => X k ∨ (w.heap.size ≤ k ∧ k < W.heap.size)) (hL.below k) ((hD.more (fun k hk => by rcases hk with (q | q) | q; exact .inl (.inl q); exact .inr q.1; exact .inl (.inr q))).below k) (fun x hx => by rcases hx with q | q; exact Nat.lt_of_lt_of_le (hX x q) k.size; exact q.2) (Nat.le_trans hB k.size) (hv.below k) (fun x hx q => by
      rcases q with q | q
      · exact hN x hx q
      · have := (hL.lt x hx).2; omega) h3 (m := m) (g := g) (o := o + m * 2) (u := v) q6 (cell_below6 q3 k) (cell_below6 q4 k) (bl := w.heap.size) (bf := w.heap.size + 1) (.inr ⟨Nat.le_refl _, by omega⟩) (.inr ⟨by omega, l2⟩) f c1 c3 (by omega) hsn)
  have HL := Lib.hid hL
  have HD := Lib.hid hD
  have HN := Lib.hid hN
  have HX0 := Lib.hid hX
  have HB0 := Lib.hid hB
  have H3 := Lib.hid h3
  have HP5 := Lib.hid q5
  have HG6 := Lib.hid q6
  have HFIN := Lib.hid hfin
  have HNE := Lib.hid hn
  have hmm : m ≤ 1000 := by omega
  have HM := Lib.hid hm
  clear hL hD hN hX hB h3 q1 q2 q3 q4 q5 q6 hn hv hlen hfew hfin hm hsn
  unfold Hl.lay
  generalize hr : Dk.append (nm (lastS G).n) f D = r at *
  clear hr
  obtain ⟨Gr, hGr⟩ : ∃ x, x = (if r.1 = 0 then G.put1 f.length else G.hold r.1) := ⟨_, rfl⟩
  have HGR := Lib.hid hGr
  rw [← hGr]
  clear hGr
  go_enter Tryz.func71, Tryz.ntmps71
  go_wp2_with fail
  with_reducible refine (CL.out _ (below_two5 w _ _)).mono ?_
  rintro e w1 ⟨rfl, hb⟩
  have c1 : w1.cell? ⟨w.heap.size, 0, none⟩ = some (.pointer (some ⟨b, 0, none⟩)) := (((bk_new #[.pointer (some ⟨b, 0, none⟩)] 33 w).more (.cells #[.string (S f)] 9)).below hb).cell 0
  have c3 : w1.cell? ⟨w.heap.size + 1, 0, none⟩ = some (.string (S f)) := by
    have := bk_new #[.string (S f)] 9 (w.alloc (.cells #[.pointer (some ⟨b, 0, none⟩)] 33))
    rw [sz5] at this
    exact (this.below hb).cell 0
  have l2 : w.heap.size + 1 < w1.heap.size := by have := hb.size; simp only [sz5] at this; omega
  have l1 : w.heap.size < w1.heap.size := by omega
  have HB1 := Lib.hid (below_step (below_two5 w _ _) hb)
  have CR1 := Lib.hid (CR.out w1 HB1.out l2 c1 c3)
  unfold layW6 layV at CR1
  clear hb CL CR
  go_wp2_with fail
  with_reducible refine CR1.out.mono ?_
  rintro e w5 ⟨rfl, o2, o3, o4, o5⟩
  have HLF := layW6_facts ⟨g, o + m * 2, none⟩ w.heap.size (w.heap.size + 1) w1
  unfold layW6 layV at HLF
  obtain ⟨e1, e2, e3, e4⟩ := HLF
  have hbne : w1.heap.size ≠ b := by have := HL.out.box.lt; omega
  have hfne : w.heap.size + 1 ≠ b := by have := HL.out.box.lt; omega
  have F1 := Lib.hid (show w5.cell? ⟨w1.heap.size, 0, none⟩ = some (.pointer (some ⟨g, o + m * 2, none⟩)) from cell_wr6 (e2.cell 0) o5 (fun q => by rcases q with q | q; exact hbne q; exact q.2 (.inr ⟨Nat.le_refl _, by show w1.heap.size < w1.heap.size + 2; omega⟩)))
  have F2 := Lib.hid (show w5.cell? ⟨w.heap.size + 1, 0, none⟩ = some (.string (S f)) from cell_wr6 (cell_below6 c3 e1) o5 (fun q => by rcases q with q | q; exact hfne q; exact q.2 (.inl (.inl (.inr ⟨by show w.heap.size ≤ w.heap.size + 1; omega, l2⟩)))))
  have HBE := Lib.hid (below_step HB1.out e1)
  have HO2 := Lib.hid o2
  have HO3 := Lib.hid o3
  have HO4 := Lib.hid o4
  have HO5 := Lib.hid o5
  generalize World.alloc (World.alloc w1 _) _ = w4 at HBE HO5
  clear o2 o3 o4 o5 e1 e2 e3 e4 CR1 c1 c3
  have HWR := Lib.hid (show Wr (fun k => B ≤ k ∧ ¬ X k) w w5 from (wr_below HBE.out).step HO5.out (fun x hx => by
    rcases hx with rfl | ⟨z1, z2⟩
    · exact .inl ⟨HL.out.bB, HN.out _ (.inl rfl)⟩
    · exact .inl ⟨z1, fun q => z2 (.inl (.inl (.inl q)))⟩))
  by_cases hr : r.1 = 0
  · rw [hr, hold_zero] at HO2
    replace HGR := Lib.hid (show Gr = G.put1 f.length from by rw [HGR.out, if_pos hr])
    obtain ⟨g', o', cap', v', hvv, k1, k2, k3, k4, k5, k6⟩ := HO2.out.lastc HM.out
    simp only [Value.slice.injEq, Option.some.injEq, Addr.mk.injEq, true_and, and_true] at hvv
    obtain ⟨⟨rfl, rfl⟩, rfl⟩ := hvv
    obtain ⟨p1, p2⟩ := snoc_of HM.out k5
    have hrow : w5.ownsRow B 3 1 v' (lastS G).es.length (nats (lastS G).es) := HO2.out.ends (lastS G, v') (List.mem_of_getElem? k5)
    obtain ⟨ao, ca, rfl⟩ := row_shape5 hrow
    have F3 := Lib.hid k3
    have F4 := Lib.hid k4
    have HR := Lib.hid hrow
    have hok := lastS_ok HO2.out.ok HNE.out
    have hz := size_le hok.2
    have hL9 : (lastS G).es.length ≤ 900 := by have := hok.1; unfold Sm.fin at this; omega
    have CZ := Lib.hid (fun W (k : Below w5.heap.size w5 W) => size6_any (lastS G) (.slice ao (lastS G).es.length ca) B W (row_below5 hrow k) (by omega))
    have NE1 := Lib.hid (show some w1.heap.size ≠ (Value.slice ao (lastS G).es.length ca).ownBlock from fun e => by
      have h1 := HL.out.lt w1.heap.size (.inr (.inr ⟨_, List.mem_of_getElem? k5, e.symm⟩))
      have h2 := HB1.out.size
      omega)
    have NE2 := Lib.hid (show some (w.heap.size + 1) ≠ (Value.slice ao (lastS G).es.length ca).ownBlock from fun e => by
      have h1 := HL.out.lt (w.heap.size + 1) (.inr (.inr ⟨_, List.mem_of_getElem? k5, e.symm⟩))
      omega)
    have NE3 := Lib.hid (show some g ≠ (Value.slice ao (lastS G).es.length ca).ownBlock from fun e => rows_apart (ofr_own hrow) HO2.out.row (by decide) g e.symm rfl)
    have FZ := Lib.hid (show ∀ (wa wb : World), Below w5.heap.size w5 wa → wa.grownBy wb (Value.slice ao (lastS G).es.length ca).ownBlock → wb.frozen? ⟨g, o + m * 2 + 1, none⟩ = false from fun wa wb ha hb => by
      obtain ⟨g9, o9, cap9, hv9, _, _, _, hz9, _, hl9⟩ := HO2.out.row.shape (by rw [HM.out]; omega)
      simp only [Value.slice.injEq, Option.some.injEq, Addr.mk.injEq, and_true] at hv9
      obtain ⟨⟨rfl, rfl⟩, -⟩ := hv9
      rw [World.frozen?_of_block (a := ⟨g, o + m * 2 + 1, none⟩) (hb.block g (Nat.lt_of_lt_of_le hl9 ha.size) NE3.out)]
      rw [World.frozen?_of_block (a := ⟨g, o + m * 2 + 1, none⟩) (ha.block g hl9)]
      exact hz9 _)
    have HPP := Lib.hid p1
    have HPL := Lib.hid p2
    have HB5 := Lib.hid (show B ≤ w5.heap.size from Nat.le_trans HB0.out HWR.out.size)
    obtain ⟨i0, hi0, hz0, hz1, hz2⟩ := info_parts infoInt5
    have HFO := Lib.hid hok.1
    clear k1 k2 k3 k4 k5 k6 p1 p2 hrow hok
    have HZ := Lib.hid (show (lastS G).size + f.length = (lastS G).size + f.length from rfl)
    generalize hzz : (lastS G).size = Z at *
    generalize hsn : (lastS G).n = sn at *
    generalize hes : (lastS G).es.length = L at *
    generalize hnv : nats (lastS G).es = NV at *
    generalize hq : o + m * 2 = q at *
    generalize hbg : w1.heap.size = bg at *
    generalize hbf : w.heap.size + 1 = bf at *
    go_wp2_with fail
    refine wp_region_Z (S := fun V => V.cell? ⟨bg, 0, none⟩ = some (.pointer (some ⟨g, q, none⟩)) ∧ V.cell? ⟨bf, 0, none⟩ = some (.string (S f)) ∧ V.cell? ⟨g, q, none⟩ = some (.int .i64 (sn : Nat)) ∧ V.cell? ⟨g, q + 1, none⟩ = some (.slice ao L ca)) 16 (by kernel_rfl) ?_ (fun hHeld => ?_)
    · exact ⟨cell_below6 F1.out (Below.refl _ _).drew, cell_below6 F2.out (Below.refl _ _).drew, cell_below6 F3.out (Below.refl _ _).drew, cell_below6 F4.out (Below.refl _ _).drew⟩
    have HX := Lib.hid (Below.refl w5.heap.size w5).drew
    obtain ⟨wd, hwd⟩ : ∃ x, x = World.drew w5 := ⟨_, rfl⟩
    rw [← hwd] at HX hHeld ⊢
    clear hwd
    refine wpAnyZ_take (i := 0) (oi := { dst := some 15, op := Op.load 102 (Operand.tmp 5), type := 102, pos := "hostlog.go:137", after := #[], guard := none }) (v := ?_) [14, 15, 16] rfl (by kernel_rfl) (by kernel_rfl) (by kernel_rfl) (by kernel_rfl) (fun _ _ _ h => h) (Or.inl ⟨by rfl, ?_⟩) (by assumption) ?_
    rotate_left
    · (intro w hSw; (try dsimp only at hSw); go_simp); (first | done | with_reducible rfl)
    try simp only [Act.put, List.setIfInBounds_toArray, List.set_cons_zero, List.set_cons_succ]
    refine wpAnyZ_take (i := 1) (oi := { dst := some 16, op := Op.load 102 (Operand.tmp 5), type := 102, pos := "hostlog.go:137", after := #[], guard := none }) (v := ?_) [2, 3, 4, 13, 14, 15, 16] rfl (by kernel_rfl) (by kernel_rfl) (by kernel_rfl) (by kernel_rfl) (fun _ _ _ h => h) (Or.inl ⟨by rfl, ?_⟩) (by assumption) ?_
    rotate_left
    · (intro w hSw; (try dsimp only at hSw); go_simp); (first | done | with_reducible rfl)
    try simp only [Act.put, List.setIfInBounds_toArray, List.set_cons_zero, List.set_cons_succ]
    refine wpAnyZ_takeY (i := 2) (oi := { dst := some 17, op := Op.nilCheck (Operand.tmp 16), type := 0, pos := "hostlog.go:137", after := #[{ on := 1, ground := Ground.data }], guard := none }) (v := ?_) rfl (by kernel_rfl) (by kernel_rfl) (by kernel_rfl) (by rfl) (fun _ _ _ h => h) (Or.inl ⟨by rfl, ?_⟩) (by assumption) ?_
    rotate_left
    · (intro w; go_simp); (first | done | with_reducible rfl)
    try simp only [Act.put, List.setIfInBounds_toArray, List.set_cons_zero, List.set_cons_succ]
    refine wpAnyZ_takeY (i := 3) (oi := { dst := some 18, op := Op.fieldAddr 88 (Operand.tmp 17) 1, type := 0, pos := "hostlog.go:137", after := #[{ on := 2, ground := Ground.data }], guard := none }) (v := ?_) rfl (by kernel_rfl) (by kernel_rfl) (by kernel_rfl) (by rfl) (fun _ _ _ h => h) (Or.inl ⟨by rfl, ?_⟩) (by assumption) ?_
    rotate_left
    · (intro w; go_simp); (first | done | with_reducible rfl)
    try simp only [Act.put, List.setIfInBounds_toArray, List.set_cons_zero, List.set_cons_succ]
    refine wpAnyZ_take (i := 4) (oi := { dst := some 19, op := Op.load 40 (Operand.tmp 18), type := 40, pos := "hostlog.go:137", after := #[{ on := 3, ground := Ground.data }], guard := none }) (v := ?_) [13, 14, 15, 16] rfl (by kernel_rfl) (by kernel_rfl) (by kernel_rfl) (by kernel_rfl) (fun _ _ _ h => h) (Or.inl ⟨by rfl, ?_⟩) (by assumption) ?_
    rotate_left
    · (intro w hSw; (try dsimp only at hSw); go_simp); (first | done | with_reducible rfl)
    try simp only [Act.put, List.setIfInBounds_toArray, List.set_cons_zero, List.set_cons_succ]
    refine wpAnyZ_take (i := 5) (oi := { dst := some 20, op := Op.load 102 (Operand.tmp 5), type := 102, pos := "hostlog.go:137", after := #[], guard := none }) (v := ?_) [6, 7, 8, 11, 12, 13, 14, 15, 16] rfl (by kernel_rfl) (by kernel_rfl) (by kernel_rfl) (by kernel_rfl) (fun _ _ _ h => h) (Or.inl ⟨by rfl, ?_⟩) (by assumption) ?_
    rotate_left
    · (intro w hSw; (try dsimp only at hSw); go_simp); (first | done | with_reducible rfl)
    try simp only [Act.put, List.setIfInBounds_toArray, List.set_cons_zero, List.set_cons_succ]
    refine wpAnyZ_takeY (i := 6) (oi := { dst := some 21, op := Op.nilCheck (Operand.tmp 20), type := 0, pos := "hostlog.go:137", after := #[{ on := 5, ground := Ground.data }], guard := none }) (v := ?_) rfl (by kernel_rfl) (by kernel_rfl) (by kernel_rfl) (by rfl) (fun _ _ _ h => h) (Or.inl ⟨by rfl, ?_⟩) (by assumption) ?_
    rotate_left
    · (intro w; go_simp); (first | done | with_reducible rfl)
    try simp only [Act.put, List.setIfInBounds_toArray, List.set_cons_zero, List.set_cons_succ]
    refine wpAnyZ_take (i := 7) (oi := { dst := some 22, op := Op.load 88 (Operand.tmp 21), type := 88, pos := "hostlog.go:137", after := #[{ on := 6, ground := Ground.data }], guard := none }) (v := ?_) [8, 11, 12, 13, 14, 15, 16] rfl (by kernel_rfl) (by kernel_rfl) (by kernel_rfl) (by kernel_rfl) (fun _ _ _ h => h) (Or.inl ⟨by rfl, ?_⟩) (by assumption) ?_
    rotate_left
    · (intro w hSw; (try dsimp only at hSw); go_simp); (first | done | with_reducible rfl)
    try simp only [Act.put, List.setIfInBounds_toArray, List.set_cons_zero, List.set_cons_succ]
    refine wpAnyZ_take (i := 9) (oi := { dst := some 24, op := Op.load 9 (Operand.tmp 3), type := 9, pos := "hostlog.go:137", after := #[], guard := none }) (v := ?_) [10, 11, 12, 13, 14, 15, 16] rfl (by kernel_rfl) (by kernel_rfl) (by kernel_rfl) (by kernel_rfl) (fun _ _ _ h => h) (Or.inl ⟨by rfl, ?_⟩) (by assumption) ?_
    rotate_left
    · (intro w hSw; (try dsimp only at hSw); go_simp); (first | done | with_reducible rfl)
    try simp only [Act.put, List.setIfInBounds_toArray, List.set_cons_zero, List.set_cons_succ]
    refine wpAnyZ_takeY (i := 10) (oi := { dst := some 25, op := Op.call { callee := Callee.builtin Builtin.len, args := #[Operand.tmp 24], argTypes := #[9] }, type := 3, pos := "hostlog.go:137", after := #[{ on := 9, ground := Ground.data }], guard := none }) (v := ?_) rfl (by kernel_rfl) (by kernel_rfl) (by kernel_rfl) (by rfl) (fun _ _ _ h => h) (Or.inl ⟨by rfl, ?_⟩) (by assumption) ?_
    rotate_left
    · (intro w; go_simp); (first | done | with_reducible rfl)
    try simp only [Act.put, List.setIfInBounds_toArray, List.set_cons_zero, List.set_cons_succ]
    refine wpAnyZ_ready (rs := [8]) (by kernel_rfl) (by simp) ?_
    refine AllReadyZ.cons (o := { dst := some 23, op := Op.call { callee := Callee.value (Operand.func 115), args := #[Operand.tmp 22], argTypes := #[102] }, type := 3, pos := "hostlog.go:137", after := #[{ on := 7, ground := Ground.data }], guard := none }) rfl (by rfl) (fun K hK => ?_) (AllReadyZ.nil)
    go_simp
    go_at_call 115
    with_reducible refine (CZ.out _ HX.out).mono ?_
    rintro e w8 ⟨rfl, hb8⟩
    replace HX := Lib.hid (below_step HX.out hb8)
    clear hb8
    refine hK.out _ _ ?_ (fun hHeld => ?_)
    · exact ⟨cell_below6 F1.out HX.out, cell_below6 F2.out HX.out, cell_below6 F3.out HX.out, cell_below6 F4.out HX.out⟩
    clear hK K
    try simp only [Act.put, List.setIfInBounds_toArray, List.set_cons_zero, List.set_cons_succ]
    refine wpAnyZ_takeY (i := 11) (oi := { dst := some 26, op := Op.binOp BinOp.add 3 (Operand.tmp 23) (Operand.tmp 25) 3, type := 3, pos := "hostlog.go:137", after := #[{ on := 8, ground := Ground.data }, { on := 10, ground := Ground.data }], guard := none }) (v := ?_) rfl (by kernel_rfl) (by kernel_rfl) (by kernel_rfl) (by rfl) (fun _ _ _ h => h) (Or.inl ⟨by rfl, ?_⟩) (by assumption) ?_
    rotate_left
    · (intro w; go_simp); (first | done | with_reducible rfl)
    try simp only [Act.put, List.setIfInBounds_toArray, List.set_cons_zero, List.set_cons_succ]
    refine wpAnyZ_ready (rs := [12]) (by kernel_rfl) (by simp) ?_
    refine AllReadyZ.cons (o := { dst := some 27, op := Op.buildSlice 40 1 #[(0, Operand.tmp 26)], type := 40, pos := "hostlog.go:137", after := #[{ on := 11, ground := Ground.data }], guard := none }) rfl (by rfl) (fun K hK => ?_) (AllReadyZ.nil)
    go_simp
    rw [show IntKind.i64.wrap ((Z : Int) + (f.length : Int)) = (Z : Int) + (f.length : Int) from IntWalk.i64_in _ (by omega)]
    have HY := Lib.hid (bk_new #[.int .i64 ((Z : Int) + (f.length : Int))] 3 w8)
    replace HX := Lib.hid (HX.out.alloc HX.out.size (.cells #[.int .i64 ((Z : Int) + (f.length : Int))] 3))
    have HQ := Lib.hid (show w8.heap.size = w8.heap.size from rfl)
    generalize hq12 : w8.heap.size = q12 at *
    generalize hw12 : w8.alloc (.cells #[.int .i64 ((Z : Int) + (f.length : Int))] 3) = w12 at *
    clear hq12 hw12 HQ
    refine hK.out _ _ ?_ (fun hHeld => ?_)
    · exact ⟨cell_below6 F1.out HX.out, cell_below6 F2.out HX.out, cell_below6 F3.out HX.out, cell_below6 F4.out HX.out⟩
    clear hK K
    try simp only [Act.put, List.setIfInBounds_toArray, List.set_cons_zero, List.set_cons_succ]
    refine wpAnyZ_ready (rs := [13]) (by kernel_rfl) (by simp) ?_
    refine AllReadyZ.cons (o := { dst := some 28, op := Op.call { callee := Callee.builtin Builtin.append, args := #[Operand.tmp 19, Operand.tmp 27], argTypes := #[40, 40] }, type := 40, pos := "hostlog.go:137", after := #[{ on := 4, ground := Ground.data }, { on := 12, ground := Ground.data }, { on := 8, ground := Ground.chain }], guard := none }) rfl (by rfl) (fun K hK => ?_) (AllReadyZ.nil)
    refine step_append_at5 (by rfl) _ _ 40 (by rfl) B 3 i0 (.int .i64 0) 1 8 Tryz.underlying40 hi0 hz0 hz1 hz2 rfl (by decide) (.slice ao L ca) L NV (by rfl) (row_below5 HR.out HX.out) ⟨q12, 0, none⟩ 1 1 [.int .i64 ((Z : Int) + (f.length : Int))] (by rfl) rfl (fun j u hu => by rw [Addr.add_lit, Nat.zero_add, HY.out.cell]; simpa using hu) (fun u hu => by rw [List.mem_singleton.1 hu]; rfl) (by unfold maxLen; omega) (by omega) (Nat.le_trans HB5.out HX.out.size) ?_
    intro v13 w13 ho13 hg13 ha13
    obtain ⟨a13, c13, rfl⟩ := row_shape5 ho13
    have HO := Lib.hid ho13
    have HG := Lib.hid hg13
    have HA := Lib.hid ha13
    have x1 : w13.cell? ⟨bg, 0, none⟩ = some (.pointer (some ⟨g, q, none⟩)) := hg13.cell (cell_below6 F1.out HX.out) NE1.out
    have x2 : w13.cell? ⟨bf, 0, none⟩ = some (.string (S f)) := hg13.cell (cell_below6 F2.out HX.out) NE2.out
    have x3 : w13.cell? ⟨g, q, none⟩ = some (.int .i64 (sn : Nat)) := hg13.cell (cell_below6 F3.out HX.out) NE3.out
    have x4 : w13.cell? ⟨g, q + 1, none⟩ = some (.slice ao L ca) := hg13.cell (cell_below6 F4.out HX.out) NE3.out
    clear ho13 hg13 ha13 HY
    refine hK.out _ _ ?_ (fun hHeld => ?_)
    · exact ⟨x1, x2, x3, x4⟩
    clear hK K
    try simp only [Act.put, List.setIfInBounds_toArray, List.set_cons_zero, List.set_cons_succ]
    refine wpAnyZ_takeY (i := 14) (oi := { dst := some 29, op := Op.nilCheck (Operand.tmp 15), type := 0, pos := "hostlog.go:137", after := #[{ on := 0, ground := Ground.data }, { on := 0, ground := Ground.phase }, { on := 1, ground := Ground.phase }, { on := 2, ground := Ground.phase }, { on := 3, ground := Ground.phase }, { on := 4, ground := Ground.phase }, { on := 5, ground := Ground.phase }, { on := 6, ground := Ground.phase }, { on := 7, ground := Ground.phase }, { on := 8, ground := Ground.phase }, { on := 9, ground := Ground.phase }, { on := 10, ground := Ground.phase }, { on := 11, ground := Ground.phase }, { on := 12, ground := Ground.phase }, { on := 13, ground := Ground.phase }], guard := none }) (v := ?_) rfl (by kernel_rfl) (by kernel_rfl) (by kernel_rfl) (by rfl) (fun _ _ _ h => h) (Or.inl ⟨by rfl, ?_⟩) (by assumption) ?_
    rotate_left
    · (intro w; go_simp); (first | done | with_reducible rfl)
    try simp only [Act.put, List.setIfInBounds_toArray, List.set_cons_zero, List.set_cons_succ]
    refine wpAnyZ_takeY (i := 15) (oi := { dst := some 30, op := Op.fieldAddr 88 (Operand.tmp 29) 1, type := 0, pos := "hostlog.go:137", after := #[{ on := 14, ground := Ground.data }, { on := 0, ground := Ground.phase }, { on := 1, ground := Ground.phase }, { on := 2, ground := Ground.phase }, { on := 3, ground := Ground.phase }, { on := 4, ground := Ground.phase }, { on := 5, ground := Ground.phase }, { on := 6, ground := Ground.phase }, { on := 7, ground := Ground.phase }, { on := 8, ground := Ground.phase }, { on := 9, ground := Ground.phase }, { on := 10, ground := Ground.phase }, { on := 11, ground := Ground.phase }, { on := 12, ground := Ground.phase }, { on := 13, ground := Ground.phase }], guard := none }) (v := ?_) rfl (by kernel_rfl) (by kernel_rfl) (by kernel_rfl) (by rfl) (fun _ _ _ h => h) (Or.inl ⟨by rfl, ?_⟩) (by assumption) ?_
    rotate_left
    · (intro w; go_simp); (first | done | with_reducible rfl)
    try simp only [Act.put, List.setIfInBounds_toArray, List.set_cons_zero, List.set_cons_succ]
    refine wpAnyZ_ready (rs := [16]) (by kernel_rfl) (by simp) ?_
    refine AllReadyZ.last (o := { dst := none, op := Op.store 40 (Operand.tmp 30) (Operand.tmp 28), type := 0, pos := "hostlog.go:137", after := #[{ on := 15, ground := Ground.data }, { on := 13, ground := Ground.data }, { on := 13, ground := Ground.chain }, { on := 0, ground := Ground.phase }, { on := 1, ground := Ground.phase }, { on := 2, ground := Ground.phase }, { on := 3, ground := Ground.phase }, { on := 4, ground := Ground.phase }, { on := 5, ground := Ground.phase }, { on := 6, ground := Ground.phase }, { on := 7, ground := Ground.phase }, { on := 8, ground := Ground.phase }, { on := 9, ground := Ground.phase }, { on := 10, ground := Ground.phase }, { on := 11, ground := Ground.phase }, { on := 12, ground := Ground.phase }, { on := 13, ground := Ground.phase }], guard := none }) rfl (fun K hK => ?_) AllReadyZ.nil
    have f9 : w13.frozen? ⟨g, q + 1, none⟩ = false := FZ.out w12 w13 HX.out HG.out
    have m9 := x4
    go_simp
    refine hK.out _ _ ?_
    clear hK K
    refine wpAny_done (by kernel_rfl) ?_ _
    clear hHeld x1 x2 x3 x4 m9 f9 CZ F1 F2 F3 F4 HR
    subst hzz hsn hes hnv hq
    have HV := Lib.hid (fun z hz => show (Value.slice ao (lastS G).es.length ca).ownBlock = some z ∨ w12.heap.size ≤ z from by
      rcases HA.out with h | h
      · exact .inl (by rw [← h]; exact hz)
      · rw [hz] at h; simp only [Option.some.injEq] at h; exact .inr (by omega))
    have HW13 := Lib.hid (wr_grown (A := fun z => (Value.slice ao (lastS G).es.length ca).ownBlock = some z) HG.out (fun z hz => .inl hz))
    have HK := Lib.hid (LgIn.put1 (P0 := P.dropLast) (s := lastS G) (v := .slice ao (lastS G).es.length ca) (w := w12) (w1 := w13) (k := f.length) (by rw [← HPP.out]; exact HO2.out.below HX.out) HPL.out hf HFIN.out (by have := HO.out; rw [Int.natCast_add]; exact this) HW13.out HV.out)
    have HPF := Lib.hid (fun z hz => put1_F (b := b) (vs := .slice (some ⟨g, o, none⟩) (m + 1) cap) (P0 := P.dropLast) (s := lastS G) (s' := ⟨(lastS G).n, (lastS G).es ++ [(lastS G).size + f.length]⟩) HV.out z hz)
    rw [← HPP.out] at HPF
    have HSET := Lib.hid (wr_set (A := fun z => z = g) w13 ⟨g, o + m * 2 + 1, none⟩ (.slice a13 ((lastS G).es.length + 1) c13) rfl)
    have HVL := Lib.hid (show ∀ z, (Value.slice ao (lastS G).es.length ca).ownBlock = some z → LgF b (.slice (some ⟨g, o, none⟩) (m + 1) cap) P z from fun z hz => .inr (.inr ⟨(lastS G, .slice ao (lastS G).es.length ca), by rw [HPP.out]; simp, hz⟩))
    have HGL := Lib.hid (show LgF b (.slice (some ⟨g, o, none⟩) (m + 1) cap) P g from .inr (.inl rfl))
    have HD16 := Lib.hid ((((HO3.out.below HX.out).more (X' := fun k => (X k ∨ LgF b (.slice (some ⟨g, o, none⟩) (m + 1) cap) P k) ∨ (Value.slice a13 ((lastS G).es.length + 1) c13).ownBlock = some k) (fun k hk => by
      rcases hk with (q | q) | q
      · exact .inl (.inl (.inl (.inl q)))
      · exact .inl (.inl (.inr q))
      · rcases HV.out k q with h | h
        · exact .inl (.inl (.inr (HVL.out k h)))
        · exact .inr h)).wr HW13.out (fun k hk => .inl (.inr (HVL.out k hk)))).wr HSET.out (fun k hk => .inl (.inr (by rw [hk]; exact HGL.out))))
    have HW16 := Lib.hid ((((HWR.out.trans (wr_below HX.out)).step HW13.out (fun x hx => .inl ⟨(HL.out.lt x (HVL.out x hx)).1, HN.out x (HVL.out x hx)⟩)).step HSET.out (fun x hx => .inl (by rw [hx]; exact ⟨(HL.out.lt g HGL.out).1, HN.out g HGL.out⟩))))
    have HV16 := Lib.hid (((HO4.out.below HX.out).wr HW13.out (fun k hk q => by have := (HL.out.lt k (HVL.out k q)).1; have := H3.out; omega)).wr HSET.out (fun k hk q => by have := (HL.out.lt g HGL.out).1; have := H3.out; omega))
    have HF := Lib.hid (show HgO X B b d (r.1, r.2, Gr) w (.returned (.int .i64 0)) (w13.setCell ⟨g, o + m * 2 + 1, none⟩ (.slice a13 ((lastS G).es.length + 1) c13)) from by
      rw [HGR.out]
      refine ⟨by rw [hr], ⟨_, _, HK.out, HD16.out.less (fun k hk => ?_), fun k hk => ?_, HV16.out, H3.out⟩, HW16.out⟩
      · rcases hk with q | q
        · exact .inl (.inl q)
        · rcases HPF.out k q with h | h
          · exact .inl (.inr h)
          · exact .inr h.1
      · rcases HPF.out k hk with h | h
        · exact HN.out k h
        · exact fun hx => by
            have h1 := HX0.out k hx
            have h2 := HX.out.size
            have h3 := HWR.out.size
            omega)
    go_wp2_with fail
    go_ret
    exact HF.out
  · have dr : (r.1 == 0) = false := by simpa using hr
    have HF := Lib.hid (show HgO X B b d (r.1, r.2, Gr) w (.returned (.int .i64 r.1)) w5 from
      by rw [HGR.out, if_neg hr]; exact ⟨rfl, ⟨_, _, HO2.out, HO3.out.less (fun k hk => by rcases hk with q | q; exact .inl (.inl (.inl q)); exact .inl (.inr q)), HN.out, HO4.out, H3.out⟩, HWR.out⟩)
    go_wp2_with fail
    go_ret
    exact HF.out
end

end Go.Proofs.YtmammmjmipgmoaaGreatDoor

/- Layer 6: End, First, Segments. -/
namespace Go.Proofs.YtmammmjmipgmoaaGreatDoor
set_option linter.unusedVariables false
open Go Go.RowKit Go.Maps

namespace Hl
def endN (G : Lg) : Nat := if G.S = [] then 0 else (lastS G).fin
def endL (D : Dk.St) (G : Lg) : Nat := if state D G = 0 then endN G else 0
def firstL (D : Dk.St) (G : Lg) : Nat := if state D G = 0 then (G.S.head?.getD ⟨0, []⟩).n else 0
def segmentsL (D : Dk.St) (G : Lg) : Nat := if state D G = 0 then G.S.length else 0
end Hl
section
variable {X Y : Nat → Prop} {B b d : Nat} {G : Hl.Lg} {D : Dk.St} {vs : Value} {P : List (Hl.Sm × Value)} {w w' w1 : World}
open Hl
theorem segEnd6 (n L cap : Nat) (ao : Option Addr) (hn : n ≤ 1000000000) (hl : L ≤ 1000000) (w : World) :
    Calls Tryz.prog 56 #[.agg #[.int .i64 (n : Nat), .slice ao L cap]] w fun e w' => e = .returned (.int .i64 ((n : Int) + (L : Int))) ∧ Below w.heap.size w w' := by
  go_enter Tryz.func56, Tryz.ntmps56
  go_wp2_with fail
  go_ret
  exact ⟨rfl, (Below.refl _ _).alloc (Nat.le_refl _) _⟩
theorem end6_any (h : HgX X B b d D G w) : Calls Tryz.prog 25 #[.pointer (some ⟨b, 0, none⟩)] w fun e w' => e = .returned (.int .i64 (endL D G : Nat)) ∧ Below w.heap.size w w' := by
  have CS := Lib.hid (state6_any h)
  by_cases hs : Hl.state D G = 0
  · obtain ⟨vs, P, hL, hD, hN, hv, h3⟩ := h
    have he : endL D G = endN G := if_pos hs
    rw [he]
    rw [hs] at CS
    by_cases h0 : G.S = []
    · have hz : endN G = 0 := if_pos h0
      rw [hz]
      have hp : P.length = 0 := by rw [hL.len, h0]; rfl
      obtain ⟨ao, cap, rfl, _⟩ := hL.row.val
      have C3 := Lib.hid hL.cell3
      rw [hp] at C3
      clear hL hD hN hv h3 hs he h0 hz hp
      go_enter Tryz.func25, Tryz.ntmps25
      go_wp2_with fail
      with_reducible refine CS.out.mono ?_
      rintro e w1 ⟨rfl, hb⟩
      have c3 := cell_below6 C3.out hb
      have HB := Lib.hid hb
      clear hb CS
      go_wp2_with fail
      go_ret
      exact ⟨rfl, HB.out⟩
    · have hz : endN G = (lastS G).fin := if_neg h0
      rw [hz]
      obtain ⟨m, hm⟩ : ∃ m, P.length = m + 1 := ⟨P.length - 1, by have := hL.len; have := List.length_pos_iff.2 h0; omega⟩
      obtain ⟨g, o, cap, v, rfl, q1, q2, q3, q4, q5, q6⟩ := hL.lastc hm
      have hrow : w.ownsRow B 3 1 v (lastS G).es.length (nats (lastS G).es) := hL.ends (lastS G, v) (List.mem_of_getElem? q5)
      obtain ⟨ao, ca, rfl⟩ := row_shape5 hrow
      have hlo := (lastS_ok hL.ok h0).1
      have hmm : m ≤ 1000 := by have := hL.ok.few; have := hL.len; omega
      have hfn : ((lastS G).fin : Int) = ((lastS G).n : Int) + ((lastS G).es.length : Int) := by unfold Sm.fin; omega
      unfold Sm.fin at hlo
      rw [hfn]
      have CL := Lib.hid (fun W (k : Below w.heap.size w W) => last6_in (G := G) (hL.box.below k) (by omega) q1)
      have CE := Lib.hid (fun W => segEnd6 (lastS G).n (lastS G).es.length ca ao (by omega) (by omega) W)
      have C3 := Lib.hid hL.cell3
      have C5 := Lib.hid q3
      have C6 := Lib.hid q4
      clear hL hD hN hv h3 hs he h0 hz hm q1 q2 q3 q4 q5 q6 hrow hlo hfn
      generalize (lastS G).n = sn at *
      generalize (lastS G).es.length = L at *
      have hne : ((m : Int) + 1 == 0) = false := by simp; omega
      go_enter Tryz.func25, Tryz.ntmps25
      go_wp2_with fail
      with_reducible refine CS.out.mono ?_
      rintro e w1 ⟨rfl, hb⟩
      have c3 := cell_below6 C3.out hb
      have HB := Lib.hid hb
      clear hb CS
      go_wp2_with fail
      with_reducible refine (CL.out _ HB.out).mono ?_
      rintro e w2 ⟨rfl, hb2⟩
      replace HB := Lib.hid (below_step HB.out hb2)
      have c5 := cell_below6 C5.out HB.out
      have c6 := cell_below6 C6.out HB.out
      clear hb2 c3 CL
      go_wp2_with fail
      with_reducible refine (CE.out _).mono ?_
      rintro e w3 ⟨rfl, hb3⟩
      replace HB := Lib.hid (below_step HB.out hb3)
      clear hb3 CE
      go_wp2_with fail
      go_ret
      exact ⟨rfl, HB.out⟩
  · have he : endL D G = 0 := if_neg hs
    rw [he]
    clear h he
    generalize Hl.state D G = z at *
    have dz : (z != 0) = true := by simpa using hs
    go_enter Tryz.func25, Tryz.ntmps25
    go_wp2_with fail
    with_reducible refine CS.out.mono ?_
    rintro e w1 ⟨rfl, hb⟩
    have HB := Lib.hid hb
    clear hb CS
    go_wp2_with fail
    go_ret
    exact ⟨rfl, HB.out⟩
theorem segments6_any (h : HgX X B b d D G w) : Calls Tryz.prog 26 #[.pointer (some ⟨b, 0, none⟩)] w fun e w' => e = .returned (.int .i64 (segmentsL D G : Nat)) ∧ Below w.heap.size w w' := by
  have CS := Lib.hid (state6_any h)
  by_cases hs : Hl.state D G = 0
  · obtain ⟨vs, P, hL, hD, hN, hv, h3⟩ := h
    have he : segmentsL D G = P.length := by rw [hL.len]; exact if_pos hs
    rw [he]
    rw [hs] at CS
    obtain ⟨ao, cap, rfl, _⟩ := hL.row.val
    have C3 := Lib.hid hL.cell3
    clear hL hD hN hv h3 hs he
    generalize P.length = n at *
    go_enter Tryz.func26, Tryz.ntmps26
    go_wp2_with fail
    with_reducible refine CS.out.mono ?_
    rintro e w1 ⟨rfl, hb⟩
    have c3 := cell_below6 C3.out hb
    have HB := Lib.hid hb
    clear hb CS
    go_wp2_with fail
    go_ret
    exact ⟨rfl, HB.out⟩
  · have he : segmentsL D G = 0 := if_neg hs
    rw [he]
    clear h he
    generalize Hl.state D G = z at *
    have dz : (z != 0) = true := by simpa using hs
    go_enter Tryz.func26, Tryz.ntmps26
    go_wp2_with fail
    with_reducible refine CS.out.mono ?_
    rintro e w1 ⟨rfl, hb⟩
    have HB := Lib.hid hb
    clear hb CS
    go_wp2_with fail
    go_ret
    exact ⟨rfl, HB.out⟩
theorem first6_any (h : HgX X B b d D G w) : Calls Tryz.prog 23 #[.pointer (some ⟨b, 0, none⟩)] w fun e w' => e = .returned (.int .i64 (firstL D G : Nat)) ∧ Below w.heap.size w w' := by
  have CS := Lib.hid (state6_any h)
  by_cases hs : Hl.state D G = 0
  · obtain ⟨vs, P, hL, hD, hN, hv, h3⟩ := h
    have he : firstL D G = (G.S.head?.getD ⟨0, []⟩).n := if_pos hs
    rw [he]
    rw [hs] at CS
    cases P with
    | nil =>
      have hg : G.S = [] := by rw [← hL.seg]; rfl
      rw [hg]
      obtain ⟨ao, cap, rfl, _⟩ := hL.row.val
      have C3 := Lib.hid hL.cell3
      clear hL hD hN hv h3 hs he hg
      go_enter Tryz.func23, Tryz.ntmps23
      go_wp2_with fail
      with_reducible refine CS.out.mono ?_
      rintro e w1 ⟨rfl, hb⟩
      have c3 := cell_below6 C3.out hb
      have HB := Lib.hid hb
      clear hb CS
      go_wp2_with fail
      go_ret
      exact ⟨rfl, HB.out⟩
    | cons p r =>
      have hg : G.S.head? = some p.1 := by rw [← hL.seg]; rfl
      rw [hg]
      obtain ⟨g, o, cap, rfl, q1, q2, q3, q4, q5, q6⟩ := hL.row.shape (by simp)
      have C3 := Lib.hid hL.cell3
      have C5 := Lib.hid (show w.cell? ⟨g, o, none⟩ = some (.int .i64 (p.1.n : Nat)) from q3 0 (by simp))
      have hfew : r.length + 1 ≤ 1000 := by have := hL.ok.few; have := hL.len; simp at this; omega
      clear hL hD hN hv h3 hs he q1 q2 q3 q4 q5 q6 hg
      simp only [List.length_cons] at C3
      simp only [Option.getD_some]
      generalize r.length = n at *
      generalize p.1.n = pn at *
      have hne : ((n : Int) + 1 == 0) = false := by simp; omega
      go_enter Tryz.func23, Tryz.ntmps23
      go_wp2_with fail
      with_reducible refine CS.out.mono ?_
      rintro e w1 ⟨rfl, hb⟩
      have c3 := cell_below6 C3.out hb
      have c5 := cell_below6 C5.out hb
      have HB := Lib.hid hb
      clear hb CS
      go_wp2_with fail
      go_ret
      exact ⟨rfl, HB.out⟩
  · have he : firstL D G = 0 := if_neg hs
    rw [he]
    clear h he
    generalize Hl.state D G = z at *
    have dz : (z != 0) = true := by simpa using hs
    go_enter Tryz.func23, Tryz.ntmps23
    go_wp2_with fail
    with_reducible refine CS.out.mono ?_
    rintro e w1 ⟨rfl, hb⟩
    have HB := Lib.hid hb
    clear hb CS
    go_wp2_with fail
    go_ret
    exact ⟨rfl, HB.out⟩
end

end Go.Proofs.YtmammmjmipgmoaaGreatDoor

/- Layer 6: begin. By wip/tools/genhlbegin.py. -/
namespace Go.Proofs.YtmammmjmipgmoaaGreatDoor
set_option linter.unusedVariables false
open Go Go.RowKit Go.Maps

namespace Hl
def begin6 (G : Lg) (f : List UInt8) (es : List Nat) (D : Dk.St) : Int × Dk.St × Lg := ((Dk.run [syncL G, Dk.append (nm (endN G)) f] D).1, (Dk.run [syncL G, Dk.append (nm (endN G)) f] D).2, if (Dk.run [syncL G, Dk.append (nm (endN G)) f] D).1 = 0 then G.push ⟨endN G, es⟩ else G.hold (Dk.run [syncL G, Dk.append (nm (endN G)) f] D).1)
end Hl
section
variable {X Y : Nat → Prop} {B b d : Nat} {G G' : Hl.Lg} {D : Dk.St} {vs : Value} {P : List (Hl.Sm × Value)} {w w' w1 : World}
open Hl
theorem infoSeg6 : (Tryz.prog.info? 88).map (fun i => (i.zero, i.size, i.bytes)) = some (some (.agg #[.int .i64 0, .slice none 0 0]), 2, 32) := by kernel_rfl
def synV (b : Nat) : Value := .func (Fn.func 72) #[.pointer (some ⟨b, 0, none⟩)] #[]
def begV (b2 bl bf : Nat) : Value := .func (Fn.func 122) #[] #[.pointer (some ⟨bl, 0, none⟩), .pointer (some ⟨b2, 0, none⟩), .pointer (some ⟨bf, 0, none⟩)]
def begW6 (b n : Nat) (u : Value) (bl bf : Nat) (w : World) : World := (w.alloc (.cells #[.int .i64 (n : Nat), u] 88)).alloc (.cells #[synV b, begV w.heap.size bl bf] 58)
theorem begW6_facts (b n : Nat) (u : Value) (bl bf : Nat) (w : World) : Below w.heap.size w (begW6 b n u bl bf w) ∧ Bk #[.int .i64 (n : Nat), u] 88 (begW6 b n u bl bf w) w.heap.size ∧ Bk #[synV b, begV w.heap.size bl bf] 58 (begW6 b n u bl bf w) (w.heap.size + 1) ∧ (begW6 b n u bl bf w).heap.size = w.heap.size + 2 := by
  unfold begW6
  refine ⟨below_two5 w _ _, (bk_new _ _ _).more _, ?_, by simp only [sz5]⟩
  have := bk_new #[synV b, begV w.heap.size bl bf] 58 (w.alloc (.cells #[.int .i64 (n : Nat), u] 88))
  rw [sz5] at this
  exact this
set_option maxRecDepth 100000 in
theorem begRow6 (hL : LgIn B b d G vs P w) (h : DkX (fun k => X k ∨ LgF b vs P k) B d D w) (hX : ∀ k, X k → k < w.heap.size) (hB : B ≤ w.heap.size) (hv : Vr w) (hN : ∀ k, LgF b vs P k → ¬ X k) (h3 : 3 ≤ B) {n : Nat} {u : Value}
    {bl bf : Nat} (yl : X bl) (yf : X bf) (f : List UInt8) (c1 : w.cell? ⟨bl, 0, none⟩ = some (.pointer (some ⟨b, 0, none⟩))) (c3 : w.cell? ⟨bf, 0, none⟩ = some (.string (S f))) (hf : f.length ≤ 100000) (hn : n ≤ 1000) :
    Calls Tryz.prog 61 #[.pointer (some ⟨b, 0, none⟩), .slice (some ⟨w.heap.size + 1, 0, none⟩) 2 2] (begW6 b n u bl bf w) (RwL6 (fun k => (X k ∨ LgF b vs P k) ∨ (w.heap.size ≤ k ∧ k < w.heap.size + 2)) B b d G vs P (Dk.run [syncL G, Dk.append (nm n) f] D) (begW6 b n u bl bf w)) := by
  obtain ⟨hb, hk1, hk2, hsz⟩ := begW6_facts b n u bl bf w
  obtain ⟨n1, n2⟩ := dk_new6 h hL hX hb
  generalize begW6 b n u bl bf w = w1 at *
  rw [hsz] at n1
  have n2' : ∀ k, ((X k ∨ LgF b vs P k) ∨ (w.heap.size ≤ k ∧ k < w.heap.size + 2)) → k < w1.heap.size := fun k hk => n2 k (by rw [hsz]; exact hk)
  exact row6_any (X := fun k => (X k ∨ LgF b vs P k) ∨ (w.heap.size ≤ k ∧ k < w.heap.size + 2)) [(72, #[.pointer (some ⟨b, 0, none⟩)], #[]), (122, #[], #[.pointer (some ⟨bl, 0, none⟩), .pointer (some ⟨w.heap.size, 0, none⟩), .pointer (some ⟨bf, 0, none⟩)])] (w.heap.size + 1) 2 [syncL G, Dk.append (nm n) f] rfl (by simp) (hL.below hb) n1 n2' (Nat.le_trans hB hb.size) (hv.below hb) (fun k hk => .inl (.inr hk)) h3 (.inr ⟨by omega, by omega⟩)
    (fun j hj => by
      match j, hj with
      | 0, _ => exact hk2.cell 0
      | 1, _ => exact hk2.cell 1)
    (fun i hi => by
      match i, hi with
      | 0, _ => exact enters_of (fn := Tryz.f72) (by kernel_rfl) (by kernel_rfl) rfl
      | 1, _ => exact enters_of (fn := Tryz.f122) (by kernel_rfl) (by kernel_rfl) rfl)
    (fun i hi hi' D' w' hd hl hv' hw => by
      have kc : ∀ {a : Addr} {x : Value}, w.cell? a = some x → (X a.block ∨ LgF b vs P a.block) → w'.cell? a = some x := fun hc hx => cell_wr6 (cell_below6 hc hb) hw (fun q => q.2 (.inl hx))
      have kb := hk1.wr hw (fun q => q.2 (.inr ⟨Nat.le_refl _, by omega⟩))
      match i, hi, hi' with
      | 0, _, _ => exact syncLast6 hl hd (fun k hk => Nat.lt_of_lt_of_le (n2' k hk) hw.size) (Nat.le_trans hB (Nat.le_trans hb.size hw.size)) hv' (fun k hk => .inl (.inr hk))
      | 1, _, _ => exact begin1_6 hd (fun k hk => Nat.lt_of_lt_of_le (n2' k hk) hw.size) (Nat.le_trans hB (Nat.le_trans hb.size hw.size)) hv' (.inl (.inl yl)) (.inr ⟨Nat.le_refl _, by omega⟩) (.inl (.inl yf)) (.inl (.inr (.inl rfl))) ⟨n, []⟩ u f (kc c1 (.inl yl)) (kb.cell 0) (kc c3 (.inl yf)) hl.cell0 (kb.cell 1) hn hf)
set_option maxHeartbeats 4000000 in
set_option maxRecDepth 100000 in
theorem begin6_any {ve : Value} {es : List Nat} (h : HgX (fun k => X k ∨ ve.ownBlock = some k) B b d D G w) (hX : ∀ k, X k → k < w.heap.size) (hB : B ≤ w.heap.size) (hst : Hl.state D G = 0) (f : List UInt8) (hf : f.length ≤ 100000) (hen : endN G ≤ 890) (hfew : G.S.length < 1000)
    (he : w.ownsRow B 3 1 ve es.length (nats es)) (hes : es.length ≤ 1 ∧ ∀ e ∈ es, e ≤ 100 * es.length) (hvX : ∀ q, ve.ownBlock = some q → ¬ X q) :
    Calls Tryz.prog 70 #[.pointer (some ⟨b, 0, none⟩), .string (S f), ve] w (HgO X B b d (Hl.begin6 G f es D) w) := by
  have hh := h
  obtain ⟨vs, P, hL, hD, hN, hv, h3⟩ := h
  have hlen := hL.len
  obtain ⟨ae, ce, rfl⟩ := row_shape5 he
  obtain ⟨ao, ca, rfl, -, -⟩ := hL.row.val
  have CE := Lib.hid (fun W (k : Below w.heap.size w W) => end6_any (hh.below k))
  rw [show endL D G = endN G from if_pos hst] at CE
  have hvlt := (ofr_own he).lt
  have CR := Lib.hid (fun (W : World) (k : Below w.heap.size w W) (l2 : w.heap.size + 1 < W.heap.size) (c1 : W.cell? ⟨w.heap.size, 0, none⟩ = some (.pointer (some ⟨b, 0, none⟩))) (c3 : W.cell? ⟨w.heap.size + 1, 0, none⟩ = some (.string (S f))) =>
    begRow6 (X := fun k => (X k ∨ (Value.slice ae es.length ce).ownBlock = some k) ∨ (w.heap.size ≤ k ∧ k < W.heap.size)) (hL.below k) ((hD.more (fun k hk => by rcases hk with (q | q) | q; exact .inl (.inl q); exact .inr q.1; exact .inl (.inr q))).below k) (fun x hx => by rcases hx with (q | q) | q; exact Nat.lt_of_lt_of_le (hX x q) k.size; exact Nat.lt_of_lt_of_le (hvlt x q).2 k.size; exact q.2) (Nat.le_trans hB k.size) (hv.below k) (fun x hx q => by
      rcases q with q | q
      · exact hN x hx q
      · have := (hL.lt x hx).2; omega) h3 (n := endN G) (u := .slice ae es.length ce) (bl := w.heap.size) (bf := w.heap.size + 1) (.inr ⟨Nat.le_refl _, by omega⟩) (.inr ⟨by omega, l2⟩) f c1 c3 hf (by omega))
  have HL := Lib.hid hL
  have HN := Lib.hid (fun k hk => (fun hx => hN k hk (.inl hx) : ¬ X k))
  have HNV := Lib.hid (fun k hk => (fun hx => hN k hk (.inr hx) : (Value.slice ae es.length ce).ownBlock ≠ some k))
  have HX0 := Lib.hid hX
  have HB0 := Lib.hid hB
  have H3 := Lib.hid h3
  have HE := Lib.hid he
  have HES := Lib.hid hes
  have HVX := Lib.hid hvX
  have HVL := Lib.hid hvlt
  have HFEW := Lib.hid hfew
  have HEN := Lib.hid hen
  have hM : P.length ≤ 1000 := by omega
  have hE1 := hes.1
  clear hh hL hD hN hX hB h3 he hv hlen hes hvX hvlt hst
  unfold Hl.begin6
  generalize hr : Dk.run [syncL G, Dk.append (nm (endN G)) f] D = r at *
  clear hr
  obtain ⟨Gr, hGr⟩ : ∃ x, x = (if r.1 = 0 then G.push ⟨endN G, es⟩ else G.hold r.1) := ⟨_, rfl⟩
  have HGR := Lib.hid hGr
  rw [← hGr]
  clear hGr
  go_enter Tryz.func70, Tryz.ntmps70
  go_wp2_with fail
  with_reducible refine (CE.out _ (below_two5 w _ _)).mono ?_
  rintro e w1 ⟨rfl, hb⟩
  have c1 : w1.cell? ⟨w.heap.size, 0, none⟩ = some (.pointer (some ⟨b, 0, none⟩)) := (((bk_new #[.pointer (some ⟨b, 0, none⟩)] 33 w).more (.cells #[.string (S f)] 9)).below hb).cell 0
  have c3 : w1.cell? ⟨w.heap.size + 1, 0, none⟩ = some (.string (S f)) := by
    have := bk_new #[.string (S f)] 9 (w.alloc (.cells #[.pointer (some ⟨b, 0, none⟩)] 33))
    rw [sz5] at this
    exact (this.below hb).cell 0
  have l2 : w.heap.size + 1 < w1.heap.size := by have := hb.size; simp only [sz5] at this; omega
  have l1 : w.heap.size < w1.heap.size := by omega
  have HB1 := Lib.hid (below_step (below_two5 w _ _) hb)
  have CR1 := Lib.hid (CR.out w1 HB1.out l2 c1 c3)
  have d9 : decide ((999999999 : Int) < (endN G : Int)) = false := by simp; omega
  have d9' : decide ((999999999 : Nat) < endN G) = false := by simp; omega
  unfold begW6 synV begV at CR1
  clear hb CE CR
  generalize hnn : endN G = n at *
  go_wp2_with fail
  with_reducible refine CR1.out.mono ?_
  rintro e w5 ⟨rfl, o2, o3, o4, o5⟩
  have HLF := begW6_facts b n (.slice ae es.length ce) w.heap.size (w.heap.size + 1) w1
  unfold begW6 synV begV at HLF
  obtain ⟨e1, e2, e3, e4⟩ := HLF
  have hbne : w1.heap.size ≠ b := by have := HL.out.box.lt; omega
  have hlne : w.heap.size ≠ b := by have := HL.out.box.lt; omega
  have hbk := e2.wr o5 (fun q => by rcases q with q | q; exact hbne q; exact q.2 (.inr ⟨Nat.le_refl _, by omega⟩))
  have F1 := Lib.hid (show w5.cell? ⟨w.heap.size, 0, none⟩ = some (.pointer (some ⟨b, 0, none⟩)) from cell_wr6 (cell_below6 c1 e1) o5 (fun q => by rcases q with q | q; exact hlne q; exact q.2 (.inl (.inl (.inr ⟨by show w.heap.size ≤ w.heap.size; omega, l1⟩)))))
  have F2 := Lib.hid (show w5.cell? ⟨w1.heap.size, 0, none⟩ = some (.int .i64 (n : Nat)) from hbk.cell 0)
  have F3 := Lib.hid (show w5.cell? ⟨w1.heap.size, 1, none⟩ = some (.slice ae es.length ce) from hbk.cell 1)
  have F4 := Lib.hid o2.cell3
  have HR := Lib.hid o2.row
  have HBE := Lib.hid (below_step HB1.out e1)
  have HO2 := Lib.hid o2
  have HO3 := Lib.hid o3
  have HO4 := Lib.hid o4
  have HO5 := Lib.hid o5
  have hbb : ∀ q, (Value.slice ae es.length ce).ownBlock = some q → q ≠ b := (ofr_own HE.out).ne HL.out.box (by decide)
  have HE5 := Lib.hid (show w5.ownsRow B 3 1 (.slice ae es.length ce) es.length (nats es) from row_wr (row_below5 HE.out HBE.out) o5 (fun q hq hh => by rcases hh with hh | hh; exact hbb q hq hh; exact hh.2 (.inl (.inl (.inl (.inr hq))))))
  have HWR := Lib.hid (show Wr (fun k => B ≤ k ∧ ¬ X k) w w5 from (wr_below HBE.out).step HO5.out (fun x hx => by
    rcases hx with rfl | ⟨z1, z2⟩
    · exact .inl ⟨HL.out.bB, HN.out _ (.inl rfl)⟩
    · exact .inl ⟨z1, fun q => z2 (.inl (.inl (.inl (.inl q))))⟩))
  have NE4 := Lib.hid (show ¬ (Value.slice ao P.length ca).ownBlock = some b from fun e => o2.row.ne o2.box (by decide) b e rfl)
  have NE1 := Lib.hid (show ¬ (Value.slice ao P.length ca).ownBlock = some w.heap.size from fun e => by have := (HL.out.row.lt _ e).2; omega)
  have NE2 := Lib.hid (show ¬ (Value.slice ao P.length ca).ownBlock = some w1.heap.size from fun e => by have := (HL.out.row.lt _ e).2; omega)
  have NE3 := NE2
  have FZ := Lib.hid (show ∀ (wa wb : World), Below w5.heap.size w5 wa → Wr (fun q => (Value.slice ao P.length ca).ownBlock = some q) wa wb → wb.frozen? ⟨b, 3, none⟩ = false from fun wa wb ha hb => ((HO2.out.box.below ha).wr hb (fun e => NE4.out e)).free 3)
  clear o2 o3 o4 o5 e1 e2 e3 e4 CR1 c1 c3 hbk hbb
  have HB5 := Lib.hid (show B ≤ w5.heap.size from Nat.le_trans HB0.out HWR.out.size)
  by_cases hr : r.1 = 0
  · rw [hr, hold_zero] at HO2
    replace HGR := Lib.hid (show Gr = G.push ⟨n, es⟩ from by rw [HGR.out, if_pos hr])
    obtain ⟨i0, hi0, hz0, hz1, hz2⟩ := info_parts infoSeg6
    clear hbne hlne
    generalize hLe : es.length = L at *
    generalize hMe : P.length = M at *
    generalize hbg : w1.heap.size = bg at *
    go_wp2_with fail
    refine wp_region_Z (S := fun V => V.cell? ⟨w.heap.size, 0, none⟩ = some (.pointer (some ⟨b, 0, none⟩)) ∧ V.cell? ⟨bg, 0, none⟩ = some (.int .i64 (n : Nat)) ∧ V.cell? ⟨bg, 1, none⟩ = some (.slice ae L ce) ∧ V.cell? ⟨b, 3, none⟩ = some (.slice ao M ca)) 10 (by kernel_rfl) ?_ (fun hHeld => ?_)
    · exact ⟨cell_below6 F1.out (Below.refl _ _).drew, cell_below6 F2.out (Below.refl _ _).drew, cell_below6 F3.out (Below.refl _ _).drew, cell_below6 F4.out (Below.refl _ _).drew⟩
    have HX := Lib.hid (Below.refl w5.heap.size w5).drew
    obtain ⟨wd, hwd⟩ : ∃ x, x = World.drew w5 := ⟨_, rfl⟩
    rw [← hwd] at HX hHeld ⊢
    clear hwd
    refine wpAnyZ_take (i := 0) (oi := { dst := some 24, op := Op.load 33 (Operand.tmp 3), type := 33, pos := "hostlog.go:150", after := #[], guard := none }) (v := ?_) [8, 9, 10] rfl (by kernel_rfl) (by kernel_rfl) (by kernel_rfl) (by kernel_rfl) (fun _ _ _ h => h) (Or.inl ⟨by rfl, ?_⟩) (by assumption) ?_
    rotate_left
    · (intro w hSw; (try dsimp only at hSw); go_simp); (first | done | with_reducible rfl)
    try simp only [Act.put, List.setIfInBounds_toArray, List.set_cons_zero, List.set_cons_succ]
    refine wpAnyZ_take (i := 1) (oi := { dst := some 25, op := Op.load 33 (Operand.tmp 3), type := 33, pos := "hostlog.go:150", after := #[], guard := none }) (v := ?_) [2, 3, 4, 7, 8, 9, 10] rfl (by kernel_rfl) (by kernel_rfl) (by kernel_rfl) (by kernel_rfl) (fun _ _ _ h => h) (Or.inl ⟨by rfl, ?_⟩) (by assumption) ?_
    rotate_left
    · (intro w hSw; (try dsimp only at hSw); go_simp); (first | done | with_reducible rfl)
    try simp only [Act.put, List.setIfInBounds_toArray, List.set_cons_zero, List.set_cons_succ]
    refine wpAnyZ_takeY (i := 2) (oi := { dst := some 26, op := Op.nilCheck (Operand.tmp 25), type := 0, pos := "hostlog.go:150", after := #[{ on := 1, ground := Ground.data }], guard := none }) (v := ?_) rfl (by kernel_rfl) (by kernel_rfl) (by kernel_rfl) (by rfl) (fun _ _ _ h => h) (Or.inl ⟨by rfl, ?_⟩) (by assumption) ?_
    rotate_left
    · (intro w; go_simp); (first | done | with_reducible rfl)
    try simp only [Act.put, List.setIfInBounds_toArray, List.set_cons_zero, List.set_cons_succ]
    refine wpAnyZ_takeY (i := 3) (oi := { dst := some 27, op := Op.fieldAddr 48 (Operand.tmp 26) 1, type := 0, pos := "hostlog.go:150", after := #[{ on := 2, ground := Ground.data }], guard := none }) (v := ?_) rfl (by kernel_rfl) (by kernel_rfl) (by kernel_rfl) (by rfl) (fun _ _ _ h => h) (Or.inl ⟨by rfl, ?_⟩) (by assumption) ?_
    rotate_left
    · (intro w; go_simp); (first | done | with_reducible rfl)
    try simp only [Act.put, List.setIfInBounds_toArray, List.set_cons_zero, List.set_cons_succ]
    refine wpAnyZ_take (i := 4) (oi := { dst := some 28, op := Op.load 46 (Operand.tmp 27), type := 46, pos := "hostlog.go:150", after := #[{ on := 3, ground := Ground.data }], guard := none }) (v := ?_) [7, 8, 9, 10] rfl (by kernel_rfl) (by kernel_rfl) (by kernel_rfl) (by kernel_rfl) (fun _ _ _ h => h) (Or.inl ⟨by rfl, ?_⟩) (by assumption) ?_
    rotate_left
    · (intro w hSw; (try dsimp only at hSw); go_simp); (first | done | with_reducible rfl)
    try simp only [Act.put, List.setIfInBounds_toArray, List.set_cons_zero, List.set_cons_succ]
    refine wpAnyZ_take (i := 5) (oi := { dst := some 29, op := Op.load 88 (Operand.tmp 7), type := 88, pos := "hostlog.go:150", after := #[], guard := none }) (v := ?_) [6, 7, 8, 9, 10] rfl (by kernel_rfl) (by kernel_rfl) (by kernel_rfl) (by kernel_rfl) (fun _ _ _ h => h) (Or.inl ⟨by rfl, ?_⟩) (by assumption) ?_
    rotate_left
    · (intro w hSw; (try dsimp only at hSw); go_simp); (first | done | with_reducible rfl)
    try simp only [Act.put, List.setIfInBounds_toArray, List.set_cons_zero, List.set_cons_succ]
    refine wpAnyZ_ready (rs := [6]) (by kernel_rfl) (by simp) ?_
    refine AllReadyZ.cons (o := { dst := some 30, op := Op.buildSlice 46 1 #[(0, Operand.tmp 29)], type := 46, pos := "hostlog.go:150", after := #[{ on := 5, ground := Ground.data }], guard := none }) rfl (by rfl) (fun K hK => ?_) (AllReadyZ.nil)
    go_simp
    have HY := Lib.hid (bk_new #[.int .i64 (n : Nat), .slice ae L ce] 88 wd)
    replace HX := Lib.hid (HX.out.alloc HX.out.size (.cells #[.int .i64 (n : Nat), .slice ae L ce] 88))
    generalize hq12 : wd.heap.size = q12 at *
    generalize hw12 : wd.alloc (.cells #[.int .i64 (n : Nat), .slice ae L ce] 88) = w12 at *
    clear hq12 hw12
    refine hK.out _ _ ?_ (fun hHeld => ?_)
    · exact ⟨cell_below6 F1.out HX.out, cell_below6 F2.out HX.out, cell_below6 F3.out HX.out, cell_below6 F4.out HX.out⟩
    clear hK K
    try simp only [Act.put, List.setIfInBounds_toArray, List.set_cons_zero, List.set_cons_succ]
    refine wpAnyZ_ready (rs := [7]) (by kernel_rfl) (by simp) ?_
    refine AllReadyZ.cons (o := { dst := some 31, op := Op.call { callee := Callee.builtin Builtin.append, args := #[Operand.tmp 28, Operand.tmp 30], argTypes := #[46, 46] }, type := 46, pos := "hostlog.go:150", after := #[{ on := 4, ground := Ground.data }, { on := 6, ground := Ground.data }], guard := none }) rfl (by rfl) (fun K hK => ?_) (AllReadyZ.nil)
    refine step_append_ofr (by rfl) _ _ 46 (by rfl) i0 (.agg #[.int .i64 0, .slice none 0 0]) 32 Tryz.underlying46 hi0 hz0 hz1 hz2 rfl (by decide) (by rfl) (HR.out.below HX.out) ⟨q12, 0, none⟩ 1 1 [.int .i64 (n : Nat), .slice ae L ce] (by rfl) rfl (fun j u hu => by rw [Addr.add_lit, Nat.zero_add, HY.out.cell]; simpa using hu) (fun u hu => by simp only [List.mem_cons, List.not_mem_nil, or_false] at hu; rcases hu with rfl | rfl <;> rfl) (by unfold maxLen; omega) (by omega) (Nat.le_trans HB5.out HX.out.size) ?_
    intro v13 w13 ho13 hw13 hv13
    obtain ⟨a13, c13, rfl, -, -⟩ := ho13.val
    have HO := Lib.hid ho13
    have HW13 := Lib.hid hw13
    have HV := Lib.hid hv13
    have x1 : w13.cell? ⟨w.heap.size, 0, none⟩ = some (.pointer (some ⟨b, 0, none⟩)) := cell_wr6 (cell_below6 F1.out HX.out) hw13 NE1.out
    have x2 : w13.cell? ⟨bg, 0, none⟩ = some (.int .i64 (n : Nat)) := cell_wr6 (cell_below6 F2.out HX.out) hw13 NE2.out
    have x3 : w13.cell? ⟨bg, 1, none⟩ = some (.slice ae L ce) := cell_wr6 (cell_below6 F3.out HX.out) hw13 NE3.out
    have x4 : w13.cell? ⟨b, 3, none⟩ = some (.slice ao M ca) := cell_wr6 (cell_below6 F4.out HX.out) hw13 NE4.out
    clear ho13 hw13 hv13 HY
    refine hK.out _ _ ?_ (fun hHeld => ?_)
    · exact ⟨x1, x2, x3, x4⟩
    clear hK K
    try simp only [Act.put, List.setIfInBounds_toArray, List.set_cons_zero, List.set_cons_succ]
    refine wpAnyZ_takeY (i := 8) (oi := { dst := some 32, op := Op.nilCheck (Operand.tmp 24), type := 0, pos := "hostlog.go:150", after := #[{ on := 0, ground := Ground.data }, { on := 0, ground := Ground.phase }, { on := 1, ground := Ground.phase }, { on := 2, ground := Ground.phase }, { on := 3, ground := Ground.phase }, { on := 4, ground := Ground.phase }, { on := 5, ground := Ground.phase }, { on := 6, ground := Ground.phase }, { on := 7, ground := Ground.phase }], guard := none }) (v := ?_) rfl (by kernel_rfl) (by kernel_rfl) (by kernel_rfl) (by rfl) (fun _ _ _ h => h) (Or.inl ⟨by rfl, ?_⟩) (by assumption) ?_
    rotate_left
    · (intro w; go_simp); (first | done | with_reducible rfl)
    try simp only [Act.put, List.setIfInBounds_toArray, List.set_cons_zero, List.set_cons_succ]
    refine wpAnyZ_takeY (i := 9) (oi := { dst := some 33, op := Op.fieldAddr 48 (Operand.tmp 32) 1, type := 0, pos := "hostlog.go:150", after := #[{ on := 8, ground := Ground.data }, { on := 0, ground := Ground.phase }, { on := 1, ground := Ground.phase }, { on := 2, ground := Ground.phase }, { on := 3, ground := Ground.phase }, { on := 4, ground := Ground.phase }, { on := 5, ground := Ground.phase }, { on := 6, ground := Ground.phase }, { on := 7, ground := Ground.phase }], guard := none }) (v := ?_) rfl (by kernel_rfl) (by kernel_rfl) (by kernel_rfl) (by rfl) (fun _ _ _ h => h) (Or.inl ⟨by rfl, ?_⟩) (by assumption) ?_
    rotate_left
    · (intro w; go_simp); (first | done | with_reducible rfl)
    try simp only [Act.put, List.setIfInBounds_toArray, List.set_cons_zero, List.set_cons_succ]
    refine wpAnyZ_ready (rs := [10]) (by kernel_rfl) (by simp) ?_
    refine AllReadyZ.last (o := { dst := none, op := Op.store 46 (Operand.tmp 33) (Operand.tmp 31), type := 0, pos := "hostlog.go:150", after := #[{ on := 9, ground := Ground.data }, { on := 7, ground := Ground.data }, { on := 7, ground := Ground.chain }, { on := 0, ground := Ground.phase }, { on := 1, ground := Ground.phase }, { on := 2, ground := Ground.phase }, { on := 3, ground := Ground.phase }, { on := 4, ground := Ground.phase }, { on := 5, ground := Ground.phase }, { on := 6, ground := Ground.phase }, { on := 7, ground := Ground.phase }], guard := none }) rfl (fun K hK => ?_) AllReadyZ.nil
    have f9 : w13.frozen? ⟨b, 3, none⟩ = false := FZ.out w12 w13 HX.out HW13.out
    have m9 := x4
    go_simp
    refine hK.out _ _ ?_
    clear hK K
    refine wpAny_done (by kernel_rfl) ?_ _
    clear hHeld x1 x2 x3 x4 m9 f9 F1 F2 F3 F4 HR
    subst hLe hMe
    have HK := Lib.hid (LgIn.push (s := ⟨n, es⟩) (HO2.out.below HX.out) (by unfold Sm.fin; simp only; exact ⟨by omega, HES.out.2⟩) HFEW.out HO.out HW13.out (row_below5 HE5.out HX.out) HNV.out)
    have HPF := Lib.hid (fun z hz => push_F (b := b) (vs := .slice ao P.length ca) (P := P) (s := ⟨n, es⟩) (ve := .slice ae es.length ce) HV.out z hz)
    have HSET := Lib.hid (wr_set (A := fun z => z = b) w13 ⟨b, 3, none⟩ (.slice a13 (P.length + 1) c13) rfl)
    have HGL := Lib.hid (show LgF b (.slice ao P.length ca) P b from .inl rfl)
    have HVL2 := Lib.hid (show ∀ z, (Value.slice ao P.length ca).ownBlock = some z → LgF b (.slice ao P.length ca) P z from fun z hz => .inr (.inl hz))
    have HD16 := Lib.hid ((((HO3.out.below HX.out).more (X' := fun k => ((X k ∨ (Value.slice ae es.length ce).ownBlock = some k) ∨ LgF b (.slice ao P.length ca) P k) ∨ (Value.slice a13 (P.length + 1) c13).ownBlock = some k) (fun k hk => by
      rcases hk with (q | q) | q
      · exact .inl (.inl (.inl (.inl q)))
      · exact .inl (.inl (.inr q))
      · rcases HV.out k q with h | h
        · exact .inl (.inl (.inr (HVL2.out k h)))
        · exact .inr h)).wr HW13.out (fun k hk => .inl (.inr (HVL2.out k hk)))).wr HSET.out (fun k hk => .inl (.inr (by rw [hk]; exact HGL.out))))
    have HW16 := Lib.hid ((((HWR.out.trans (wr_below HX.out)).step HW13.out (fun x hx => .inl ⟨(HL.out.lt x (HVL2.out x hx)).1, HN.out x (HVL2.out x hx)⟩)).step HSET.out (fun x hx => .inl (by rw [hx]; exact ⟨(HL.out.lt b HGL.out).1, HN.out b HGL.out⟩))))
    have HV16 := Lib.hid (((HO4.out.below HX.out).wr HW13.out (fun k hk q => by have := (HL.out.lt k (HVL2.out k q)).1; have := H3.out; omega)).wr HSET.out (fun k hk q => by have := (HL.out.lt b HGL.out).1; have := H3.out; omega))
    have HF := Lib.hid (show HgO X B b d (r.1, r.2, Gr) w (.returned (.int .i64 0)) (w13.setCell ⟨b, 3, none⟩ (.slice a13 (P.length + 1) c13)) from by
      rw [HGR.out]
      refine ⟨by rw [hr], ⟨_, _, HK.out, HD16.out.less (fun k hk => ?_), fun k hk => ?_, HV16.out, H3.out⟩, HW16.out⟩
      · rcases hk with q | q
        · exact .inl (.inl (.inl q))
        · rcases HPF.out k q with h | h | h
          · exact .inl (.inr h)
          · exact .inl (.inl (.inr h))
          · exact .inr h.1
      · rcases HPF.out k hk with h | h | h
        · exact HN.out k h
        · exact HVX.out k h
        · exact fun hx => by
            have h1 := HX0.out k hx
            have h2 := HX.out.size
            have h3 := HWR.out.size
            omega)
    go_wp2_with fail
    go_ret
    exact HF.out
  · have dr : (r.1 == 0) = false := by simpa using hr
    have HF := Lib.hid (show HgO X B b d (r.1, r.2, Gr) w (.returned (.int .i64 r.1)) w5 from
      by rw [HGR.out, if_neg hr]; exact ⟨rfl, ⟨_, _, HO2.out, HO3.out.less (fun k hk => by rcases hk with q | q; exact .inl (.inl (.inl (.inl q))); exact .inl (.inr q)), HN.out, HO4.out, H3.out⟩, HWR.out⟩)
    go_wp2_with fail
    go_ret
    exact HF.out
end

end Go.Proofs.YtmammmjmipgmoaaGreatDoor

/- Layer 6: Append, Rotate. -/
namespace Go.Proofs.YtmammmjmipgmoaaGreatDoor
set_option linter.unusedVariables false
open Go Go.RowKit Go.Maps

namespace Hl
def append6 (x : M.Sp) (G : Lg) (D : Dk.St) : Int × Dk.St × Lg :=
  if state D G ≠ 0 then (state D G, D, G) else if M.mayB x = false then (2, D, G)
  else if G.S = [] ∨ 16 ≤ (lastS G).es.length then begin6 G (fr x) [(fr x).length] D else lay G (fr x) D
def rotate6 (G : Lg) (D : Dk.St) : Int × Dk.St × Lg :=
  if state D G ≠ 0 then (state D G, D, G) else if G.S = [] ∨ (lastS G).es = [] then (0, D, G) else begin6 G [] [] D
end Hl
section
variable {X Y : Nat → Prop} {B b d : Nat} {G G' : Hl.Lg} {D : Dk.St} {vs : Value} {P : List (Hl.Sm × Value)} {w w' w1 : World}
open Hl
/-- begin, with a row of one end that is new. -/
theorem begin6_one (h : HgX X B b d D G w) (hX : ∀ k, X k → k < w.heap.size) (hB : B ≤ w.heap.size) (hst : Hl.state D G = 0) (f : List UInt8) (hf : f.length ≤ 100) (hen : endN G ≤ 890) (hfew : G.S.length < 1000) :
    Calls Tryz.prog 70 #[.pointer (some ⟨b, 0, none⟩), .string (S f), .slice (some ⟨w.heap.size, 0, none⟩) 1 1] (w.alloc (.cells #[.int .i64 (f.length : Nat)] 3)) (HgO X B b d (begin6 G f [f.length] D) w) := by
  have hb := (Below.refl w.heap.size w).alloc (Nat.le_refl _) (.cells #[.int .i64 (f.length : Nat)] 3)
  have hrow : (w.alloc (.cells #[.int .i64 (f.length : Nat)] 3)).ownsRow B 3 1 (.slice (some ⟨w.heap.size, 0, none⟩) 1 1) 1 (nats [f.length]) :=
    ⟨rfl, .inr ⟨w.heap.size, 1, _, rfl, hB, bk_new _ _ _, Nat.le_refl _, by unfold maxLen; omega, rfl, rfl⟩⟩
  have key := begin6_any (es := [f.length]) (h.newrow hb |>.less (X' := fun k => X k ∨ (Value.slice (some ⟨w.heap.size, 0, none⟩) 1 1).ownBlock = some k) (fun k hk => by
    rcases hk with q | q
    · exact .inl q
    · simp only [Value.ownBlock, Option.some.injEq] at q
      exact .inr ⟨by omega, by rw [sz5]; omega⟩)) (fun k hk => Nat.lt_of_lt_of_le (hX k hk) hb.size) (Nat.le_trans hB hb.size) hst f (by omega) hen hfew hrow ⟨by simp, fun e he => by rw [List.mem_singleton.1 he]; simp; omega⟩ (fun q hq hx => by
      simp only [Value.ownBlock, Option.some.injEq] at hq
      have := hX q hx
      omega)
  exact key.mono fun e w9 ho => ⟨ho.1, ho.2.1, (wr_below hb).step ho.2.2 (fun x hx => .inl hx)⟩
theorem begin6_nil (h : HgX X B b d D G w) (hX : ∀ k, X k → k < w.heap.size) (hB : B ≤ w.heap.size) (hst : Hl.state D G = 0) (hen : endN G ≤ 890) (hfew : G.S.length < 1000) :
    Calls Tryz.prog 70 #[.pointer (some ⟨b, 0, none⟩), .string { data := #[] }, .slice none 0 0] w (HgO X B b d (begin6 G [] [] D) w) :=
  begin6_any (es := []) (h.less (X' := fun k => X k ∨ (Value.slice none 0 0).ownBlock = some k) (fun k hk => by
    rcases hk with q | q
    · exact q
    · cases q)) hX hB hst [] (by simp) hen hfew (World.ownsRow_nil _ _ _ _) ⟨by simp, fun e he => by cases he⟩ (fun q hq => by cases hq)
theorem hgo_from {r : Int × Dk.St × Lg} {e : Ending} (hb : Below w.heap.size w w1) (h : HgO X B b d r w1 e w') : HgO X B b d r w e w' := ⟨h.1, h.2.1, (wr_below hb).trans h.2.2⟩
theorem endN_last {G : Lg} (h : G.S ≠ []) : endN G = (lastS G).fin := if_neg h
abbrev spA6 (x : M.Sp) : Value := .agg #[.int .i64 x.trace, .int .i64 x.id, .int .i64 x.parent, .string (S x.svc), .string (S x.host), .int .i64 x.start, .int .i64 x.dur, .string (S x.note)]
set_option maxHeartbeats 4000000 in
set_option maxRecDepth 100000 in
theorem append6_any (h : HgX X B b d D G w) (hX : ∀ k, X k → k < w.heap.size) (hB : B ≤ w.heap.size) (x : M.Sp) (hx : x.fits) (hen : endN G ≤ 890) (hfew : G.S.length < 1000) :
    Calls Tryz.prog 19 #[.pointer (some ⟨b, 0, none⟩), spA6 x] w (HgO X B b d (append6 x G D) w) := by
  have CS := Lib.hid (fun W (k : Below w.heap.size w W) => state6_any (h.below k))
  have HS := Lib.hid (fun W (k : Below w.heap.size w W) => hg_same (v := Hl.state D G) h k)
  have H2 := Lib.hid (fun W (k : Below w.heap.size w W) => hg_same (v := 2) h k)
  unfold append6
  by_cases hs : Hl.state D G = 0
  · rw [if_neg (by simp [hs])]
    rw [hs] at CS
    cases hm : M.mayB x with
    | false =>
      rw [if_pos rfl]
      have CE := Lib.hid (fun W => encode_no x hx hm W)
      clear h hX hB hx hen hfew hs hm HS
      unfold spA6 at *
      go_enter Tryz.func19, Tryz.ntmps19
      go_wp2_with fail
      with_reducible refine (CS.out _ ((Below.refl _ _).alloc (Nat.le_refl _) _)).mono ?_
      rintro e w1 ⟨rfl, hb⟩
      have HX := Lib.hid ((bk_new #[.int .i64 x.trace, .int .i64 x.id, .int .i64 x.parent, .string (S x.svc), .string (S x.host), .int .i64 x.start, .int .i64 x.dur, .string (S x.note)] 39 w).below hb)
      have HB := Lib.hid (below_step ((Below.refl _ _).alloc (Nat.le_refl _) _) hb)
      have x0 := HX.out.cell 0
      have x1 := HX.out.cell 1
      have x2 := HX.out.cell 2
      have x3 := HX.out.cell 3
      have x4 := HX.out.cell 4
      have x5 := HX.out.cell 5
      have x6 := HX.out.cell 6
      have x7 := HX.out.cell 7
      simp at x0 x1 x2 x3 x4 x5 x6 x7
      clear hb CS
      go_wp2_with fail
      with_reducible refine (CE.out _).mono ?_
      rintro e w2 ⟨rfl, hb⟩
      replace HB := Lib.hid (below_step HB.out hb)
      clear hb CE HX x0 x1 x2 x3 x4 x5 x6 x7
      go_wp2_with fail
      go_ret
      exact H2.out _ HB.out
    | true =>
      rw [if_neg (by simp)]
      have hfl := fr_most hm
      have CE := Lib.hid (fun W => encode_yes x hx hm W)
      have CF := Lib.hid (fun W => frame_ok (M.enc x) (by have := M.enc_len hm; omega) W)
      have CB := Lib.hid (fun W (k : Below w.heap.size w W) => begin6_one (h.below k) (fun z hz => Nat.lt_of_lt_of_le (hX z hz) k.size) (Nat.le_trans hB k.size) hs (fr x) (by omega) hen hfew)
      have HF := Lib.hid (fun (r : Int × Dk.St × Lg) (W W' : World) (e : Ending) (k : Below w.heap.size w W) (q : HgO X B b d r W e W') => hgo_from k q)
      by_cases h0 : G.S = []
      · rw [if_pos (.inl h0)]
        obtain ⟨vs, P, hL, hD, hN, hv, h3⟩ := h
        have hp : P.length = 0 := by rw [hL.len, h0]; rfl
        obtain ⟨ao, cap, rfl, _⟩ := hL.row.val
        have C3 := Lib.hid hL.cell3
        rw [hp] at C3
        clear hL hD hN hv h3 hX hB hx hen hfew hs hm HS H2 h0 hp
        unfold spA6 fr at *
        generalize begin6 G (M.frameP (M.enc x)) [(M.frameP (M.enc x)).length] D = r at *
        generalize M.frameP (M.enc x) = f at *
        generalize M.enc x = en at *
        go_enter Tryz.func19, Tryz.ntmps19
        go_wp2_with fail
        with_reducible refine (CS.out _ ((Below.refl _ _).alloc (Nat.le_refl _) _)).mono ?_
        rintro e w1 ⟨rfl, hb⟩
        have HX := Lib.hid ((bk_new #[.int .i64 x.trace, .int .i64 x.id, .int .i64 x.parent, .string (S x.svc), .string (S x.host), .int .i64 x.start, .int .i64 x.dur, .string (S x.note)] 39 w).below hb)
        have HB := Lib.hid (below_step ((Below.refl _ _).alloc (Nat.le_refl _) _) hb)
        have x0 := HX.out.cell 0
        have x1 := HX.out.cell 1
        have x2 := HX.out.cell 2
        have x3 := HX.out.cell 3
        have x4 := HX.out.cell 4
        have x5 := HX.out.cell 5
        have x6 := HX.out.cell 6
        have x7 := HX.out.cell 7
        simp at x0 x1 x2 x3 x4 x5 x6 x7
        clear hb CS
        go_wp2_with fail
        with_reducible refine (CE.out _).mono ?_
        rintro e w2 ⟨rfl, hb⟩
        replace HB := Lib.hid (below_step HB.out hb)
        clear hb CE HX x0 x1 x2 x3 x4 x5 x6 x7
        go_wp2_with fail
        with_reducible refine (CF.out _).mono ?_
        rintro e w3 ⟨rfl, hb⟩
        replace HB := Lib.hid (below_step HB.out hb)
        have c3 := cell_below6 C3.out HB.out
        clear hb CF
        go_wp2_with fail
        with_reducible refine (CB.out _ HB.out).mono ?_
        rintro e w4 ho
        have HO := Lib.hid (HF.out _ _ _ _ HB.out ho)
        obtain ⟨rfl, -⟩ := ho
        clear CB
        go_wp2_with fail
        go_ret
        exact HO.out
      · have hfin : (lastS G).fin < 900 := by rw [← endN_last h0]; omega
        have CL := Lib.hid (fun W (k : Below w.heap.size w W) => lay6_any (h.below k) (fun z hz => Nat.lt_of_lt_of_le (hX z hz) k.size) (Nat.le_trans hB k.size) h0 (fr x) (by omega) hfin)
        obtain ⟨vs, P, hL, hD, hN, hv, h3⟩ := h
        obtain ⟨m, hm1⟩ : ∃ m, P.length = m + 1 := ⟨P.length - 1, by have := hL.len; have := List.length_pos_iff.2 h0; omega⟩
        obtain ⟨g, o, cap, v, rfl, q1, q2, q3, q4, q5, q6⟩ := hL.lastc hm1
        have hrow : w.ownsRow B 3 1 v (lastS G).es.length (nats (lastS G).es) := hL.ends (lastS G, v) (List.mem_of_getElem? q5)
        obtain ⟨ao, ca, rfl⟩ := row_shape5 hrow
        have hmm : m ≤ 1000 := by have := hL.ok.few; have := hL.len; omega
        have hL9 : (lastS G).es.length ≤ 900 := by unfold Sm.fin at hfin; omega
        have CT := Lib.hid (fun W (k : Below w.heap.size w W) => last6_in (G := G) (hL.box.below k) (by omega) q1)
        have C3 := Lib.hid hL.cell3
        have C6 := Lib.hid q4
        have hE : (G.S = [] ∨ 16 ≤ (lastS G).es.length) ↔ 16 ≤ (lastS G).es.length := ⟨fun q => q.resolve_left h0, .inr⟩
        have hne : ((m : Int) + 1 == 0) = false := by simp; omega
        by_cases h16 : 16 ≤ (lastS G).es.length
        · rw [if_pos (.inr h16)]
          clear hL hD hN hv h3 hX hB hx hen hfew hs hm HS H2 h0 hm1 q1 q2 q3 q4 q5 q6 hrow hfin hE CL
          unfold spA6 fr at *
          generalize begin6 G (M.frameP (M.enc x)) [(M.frameP (M.enc x)).length] D = r at *
          generalize M.frameP (M.enc x) = f at *
          generalize M.enc x = en at *
          generalize (lastS G).es.length = L at *
          have d16 : decide ((16 : Int) ≤ (L : Int)) = true := by simp; omega
          have d16' : decide (16 ≤ L) = true := by simp; omega
          go_enter Tryz.func19, Tryz.ntmps19
          go_wp2_with fail
          with_reducible refine (CS.out _ ((Below.refl _ _).alloc (Nat.le_refl _) _)).mono ?_
          rintro e w1 ⟨rfl, hb⟩
          have HX := Lib.hid ((bk_new #[.int .i64 x.trace, .int .i64 x.id, .int .i64 x.parent, .string (S x.svc), .string (S x.host), .int .i64 x.start, .int .i64 x.dur, .string (S x.note)] 39 w).below hb)
          have HB := Lib.hid (below_step ((Below.refl _ _).alloc (Nat.le_refl _) _) hb)
          have x0 := HX.out.cell 0
          have x1 := HX.out.cell 1
          have x2 := HX.out.cell 2
          have x3 := HX.out.cell 3
          have x4 := HX.out.cell 4
          have x5 := HX.out.cell 5
          have x6 := HX.out.cell 6
          have x7 := HX.out.cell 7
          simp at x0 x1 x2 x3 x4 x5 x6 x7
          clear hb CS
          go_wp2_with fail
          with_reducible refine (CE.out _).mono ?_
          rintro e w2 ⟨rfl, hb⟩
          replace HB := Lib.hid (below_step HB.out hb)
          clear hb CE HX x0 x1 x2 x3 x4 x5 x6 x7
          go_wp2_with fail
          with_reducible refine (CF.out _).mono ?_
          rintro e w3 ⟨rfl, hb⟩
          replace HB := Lib.hid (below_step HB.out hb)
          have c3 := cell_below6 C3.out HB.out
          clear hb CF
          go_wp2_with fail
          with_reducible refine (CT.out _ HB.out).mono ?_
          rintro e w4 ⟨rfl, hb⟩
          replace HB := Lib.hid (below_step HB.out hb)
          have c6 := cell_below6 C6.out HB.out
          clear hb CT c3
          go_wp2_with fail
          with_reducible refine (CB.out _ HB.out).mono ?_
          rintro e w5 ho
          have HO := Lib.hid (HF.out _ _ _ _ HB.out ho)
          obtain ⟨rfl, -⟩ := ho
          clear CB
          go_wp2_with fail
          go_ret
          exact HO.out
        · rw [if_neg (by rw [hE]; exact h16)]
          clear hL hD hN hv h3 hX hB hx hen hfew hs hm HS H2 h0 hm1 q1 q2 q3 q4 q5 q6 hrow hfin hE CB
          unfold spA6 fr at *
          generalize Hl.lay G (M.frameP (M.enc x)) D = r at *
          generalize M.frameP (M.enc x) = f at *
          generalize M.enc x = en at *
          generalize (lastS G).es.length = L at *
          have d16 : decide ((16 : Int) ≤ (L : Int)) = false := by simp; omega
          have d16' : decide (16 ≤ L) = false := by simp; omega
          go_enter Tryz.func19, Tryz.ntmps19
          go_wp2_with fail
          with_reducible refine (CS.out _ ((Below.refl _ _).alloc (Nat.le_refl _) _)).mono ?_
          rintro e w1 ⟨rfl, hb⟩
          have HX := Lib.hid ((bk_new #[.int .i64 x.trace, .int .i64 x.id, .int .i64 x.parent, .string (S x.svc), .string (S x.host), .int .i64 x.start, .int .i64 x.dur, .string (S x.note)] 39 w).below hb)
          have HB := Lib.hid (below_step ((Below.refl _ _).alloc (Nat.le_refl _) _) hb)
          have x0 := HX.out.cell 0
          have x1 := HX.out.cell 1
          have x2 := HX.out.cell 2
          have x3 := HX.out.cell 3
          have x4 := HX.out.cell 4
          have x5 := HX.out.cell 5
          have x6 := HX.out.cell 6
          have x7 := HX.out.cell 7
          simp at x0 x1 x2 x3 x4 x5 x6 x7
          clear hb CS
          go_wp2_with fail
          with_reducible refine (CE.out _).mono ?_
          rintro e w2 ⟨rfl, hb⟩
          replace HB := Lib.hid (below_step HB.out hb)
          clear hb CE HX x0 x1 x2 x3 x4 x5 x6 x7
          go_wp2_with fail
          with_reducible refine (CF.out _).mono ?_
          rintro e w3 ⟨rfl, hb⟩
          replace HB := Lib.hid (below_step HB.out hb)
          have c3 := cell_below6 C3.out HB.out
          clear hb CF
          go_wp2_with fail
          with_reducible refine (CT.out _ HB.out).mono ?_
          rintro e w4 ⟨rfl, hb⟩
          replace HB := Lib.hid (below_step HB.out hb)
          have c6 := cell_below6 C6.out HB.out
          clear hb CT c3
          go_wp2_with fail
          with_reducible refine (CL.out _ HB.out).mono ?_
          rintro e w5 ho
          have HO := Lib.hid (HF.out _ _ _ _ HB.out ho)
          obtain ⟨rfl, -⟩ := ho
          clear CL
          go_wp2_with fail
          go_ret
          exact HO.out
  · rw [if_pos hs]
    clear h hX hB hx hen hfew H2
    generalize Hl.state D G = z at *
    have dz : (z != 0) = true := by simpa using hs
    unfold spA6 at *
    go_enter Tryz.func19, Tryz.ntmps19
    go_wp2_with fail
    with_reducible refine (CS.out _ ((Below.refl _ _).alloc (Nat.le_refl _) _)).mono ?_
    rintro e w1 ⟨rfl, hb⟩
    have HB := Lib.hid (below_step ((Below.refl _ _).alloc (Nat.le_refl _) _) hb)
    clear hb CS
    go_wp2_with fail
    go_ret
    exact HS.out _ HB.out
end

end Go.Proofs.YtmammmjmipgmoaaGreatDoor

/- Layer 6: Rotate; what Retain does. -/
namespace Go.Proofs.YtmammmjmipgmoaaGreatDoor
set_option linter.unusedVariables false
open Go Go.RowKit Go.Maps

section
variable {X Y : Nat → Prop} {B b d : Nat} {G G' : Hl.Lg} {D : Dk.St} {vs : Value} {P : List (Hl.Sm × Value)} {w w' w1 : World}
open Hl
set_option maxHeartbeats 4000000 in
set_option maxRecDepth 100000 in
theorem rotate6_any (h : HgX X B b d D G w) (hX : ∀ k, X k → k < w.heap.size) (hB : B ≤ w.heap.size) (hen : endN G ≤ 890) (hfew : G.S.length < 1000) :
    Calls Tryz.prog 21 #[.pointer (some ⟨b, 0, none⟩)] w (HgO X B b d (rotate6 G D) w) := by
  have CS := Lib.hid (state6_any h)
  have HS := Lib.hid (fun (v : Int) W (k : Below w.heap.size w W) => hg_same (v := v) h k)
  unfold rotate6
  by_cases hs : Hl.state D G = 0
  · rw [if_neg (by simp [hs])]
    rw [hs] at CS
    have CB := Lib.hid (fun W (k : Below w.heap.size w W) => begin6_nil (h.below k) (fun z hz => Nat.lt_of_lt_of_le (hX z hz) k.size) (Nat.le_trans hB k.size) hs hen hfew)
    have HF := Lib.hid (fun (r : Int × Dk.St × Lg) (W W' : World) (e : Ending) (k : Below w.heap.size w W) (q : HgO X B b d r W e W') => hgo_from k q)
    by_cases h0 : G.S = []
    · rw [if_pos (.inl h0)]
      obtain ⟨vs, P, hL, hD, hN, hv, h3⟩ := h
      have hp : P.length = 0 := by rw [hL.len, h0]; rfl
      obtain ⟨ao, cap, rfl, _⟩ := hL.row.val
      have C3 := Lib.hid hL.cell3
      rw [hp] at C3
      clear hL hD hN hv h3 hX hB hen hfew hs h0 hp CB
      go_enter Tryz.func21, Tryz.ntmps21
      go_wp2_with fail
      with_reducible refine CS.out.mono ?_
      rintro e w1 ⟨rfl, hb⟩
      have c3 := cell_below6 C3.out hb
      have HB := Lib.hid hb
      clear hb CS
      go_wp2_with fail
      go_ret
      exact HS.out _ _ HB.out
    · obtain ⟨vs, P, hL, hD, hN, hv, h3⟩ := h
      obtain ⟨m, hm1⟩ : ∃ m, P.length = m + 1 := ⟨P.length - 1, by have := hL.len; have := List.length_pos_iff.2 h0; omega⟩
      obtain ⟨g, o, cap, v, rfl, q1, q2, q3, q4, q5, q6⟩ := hL.lastc hm1
      have hrow : w.ownsRow B 3 1 v (lastS G).es.length (nats (lastS G).es) := hL.ends (lastS G, v) (List.mem_of_getElem? q5)
      obtain ⟨ao, ca, rfl⟩ := row_shape5 hrow
      have hmm : m ≤ 1000 := by have := hL.ok.few; have := hL.len; omega
      have CT := Lib.hid (fun W (k : Below w.heap.size w W) => last6_in (G := G) (hL.box.below k) (by omega) q1)
      have C3 := Lib.hid hL.cell3
      have C6 := Lib.hid q4
      have hne : ((m : Int) + 1 == 0) = false := by simp; omega
      by_cases hz : (lastS G).es = []
      · rw [if_pos (.inr hz)]
        have hz2 : (lastS G).es.length = 0 := by rw [hz]; rfl
        rw [hz2] at C6
        clear hL hD hN hv h3 hX hB hen hfew hs h0 hm1 q1 q2 q3 q4 q5 q6 hrow hz hz2 CB
        go_enter Tryz.func21, Tryz.ntmps21
        go_wp2_with fail
        with_reducible refine CS.out.mono ?_
        rintro e w1 ⟨rfl, hb⟩
        have c3 := cell_below6 C3.out hb
        have HB := Lib.hid hb
        clear hb CS
        go_wp2_with fail
        with_reducible refine (CT.out _ HB.out).mono ?_
        rintro e w4 ⟨rfl, hb⟩
        replace HB := Lib.hid (below_step HB.out hb)
        have c6 := cell_below6 C6.out HB.out
        clear hb CT c3
        go_wp2_with fail
        go_ret
        exact HS.out _ _ HB.out
      · rw [if_neg (fun q => q.elim h0 hz)]
        have hz2 : 0 < (lastS G).es.length := List.length_pos_iff.2 hz
        clear hL hD hN hv h3 hX hB hen hfew hs h0 hm1 q1 q2 q3 q4 q5 q6 hrow hz
        generalize begin6 G [] [] D = r at *
        generalize (lastS G).es.length = L at *
        have d16 : ((L : Int) == 0) = false := by simp; omega
        have d17 : (L == 0) = false := by simp; omega
        go_enter Tryz.func21, Tryz.ntmps21
        go_wp2_with fail
        with_reducible refine CS.out.mono ?_
        rintro e w1 ⟨rfl, hb⟩
        have c3 := cell_below6 C3.out hb
        have HB := Lib.hid hb
        clear hb CS
        go_wp2_with fail
        with_reducible refine (CT.out _ HB.out).mono ?_
        rintro e w4 ⟨rfl, hb⟩
        replace HB := Lib.hid (below_step HB.out hb)
        have c6 := cell_below6 C6.out HB.out
        clear hb CT c3
        go_wp2_with fail
        with_reducible refine (CB.out _ HB.out).mono ?_
        rintro e w5 ho
        have HO := Lib.hid (HF.out _ _ _ _ HB.out ho)
        obtain ⟨rfl, -⟩ := ho
        clear CB
        go_wp2_with fail
        go_ret
        exact HO.out
  · rw [if_pos hs]
    clear h hX hB hen hfew
    generalize Hl.state D G = z at *
    have dz : (z != 0) = true := by simpa using hs
    go_enter Tryz.func21, Tryz.ntmps21
    go_wp2_with fail
    with_reducible refine CS.out.mono ?_
    rintro e w1 ⟨rfl, hb⟩
    have HB := Lib.hid hb
    clear hb CS
    go_wp2_with fail
    go_ret
    exact HS.out _ _ HB.out
set_option maxRecDepth 100000 in
set_option maxHeartbeats 1000000 in
theorem retain1_6 (h : DkX X B d D w) (hX : ∀ k, X k → k < w.heap.size) (hB : B ≤ w.heap.size) {b1 b2 : Nat} (y1 : X b1) (y2 : X b2) (y4 : X b) (s : List UInt8) (hl : s.length ≤ 100)
    (c1 : w.cell? ⟨b1, 0, none⟩ = some (.pointer (some ⟨b, 0, none⟩))) (c2 : w.cell? ⟨b2, 0, none⟩ = some (.string (S s))) (c4 : w.cell? ⟨b, 0, none⟩ = some (.pointer (some ⟨d, 0, none⟩))) :
    Calls Tryz.prog 74 #[.pointer (some ⟨b1, 0, none⟩), .pointer (some ⟨b2, 0, none⟩)] w (OpX X B d (Dk.remove s D) w) := by
  have CA := Lib.hid (fun W (k : Below w.heap.size w W) => show Calls Tryz.prog 75 #[.pointer (some ⟨d, 0, none⟩), .string (S s)] W (OpX X B d (Dk.remove s D) W) from removeX (h.below k) (fun x hx => Nat.lt_of_lt_of_le (hX x hx) k.size) (Nat.le_trans hB k.size) s (by omega))
  have HK := Lib.hid (show ∀ (W W' : World) (r : Int × Dk.St) (e : Ending) (a : Addr) (u : Value), OpX X B d r W e W' → W.cell? a = some u → X a.block → W'.cell? a = some u from fun W W' r e a u ho hc hx => cell_wr6 hc ho.2.2 (fun z => z.2 hx))
  have Y1 := Lib.hid y1
  have Y2 := Lib.hid y2
  have Y4 := Lib.hid y4
  have C1 := Lib.hid c1
  have C2 := Lib.hid c2
  have C4 := Lib.hid c4
  clear h hX hB y1 y2 y4 hl
  generalize Dk.remove s D = r at *
  go_enter Tryz.func74, Tryz.ntmps74
  go_wp2_with fail
  go_region_held3 (fun W => W.cell? ⟨b1, 0, none⟩ = some (.pointer (some ⟨b, 0, none⟩)) ∧ W.cell? ⟨b2, 0, none⟩ = some (.string (S s)) ∧ W.cell? ⟨b, 0, none⟩ = some (.pointer (some ⟨d, 0, none⟩))) (go_keep) (first
    | (go_at_call 75; refine (CA.out _ ((Below.refl _ w).drew)).mono ?_; rintro e w4 ho; have HO := Lib.hid ho; obtain ⟨rfl, -⟩ := ho; have x1 := HK.out _ _ _ _ _ _ HO.out (cell_below6 C1.out ((Below.refl _ w).drew)) Y1.out; have x2 := HK.out _ _ _ _ _ _ HO.out (cell_below6 C2.out ((Below.refl _ w).drew)) Y2.out; have x4 := HK.out _ _ _ _ _ _ HO.out (cell_below6 C4.out ((Below.refl _ w).drew)) Y4.out))
  go_wp2_with fail
  go_ret
  exact ⟨rfl, HO.out.2.1, (wr_below ((Below.refl _ w).drew)).trans HO.out.2.2⟩
theorem LgIn.rest {p : Sm × Value} {g o n cap : Nat} (hL : LgIn B b d G (.slice (some ⟨g, o, none⟩) (n + 2) cap) (p :: P) w) (hn : P.length = n + 1) :
    LgIn B b d { G with S := G.S.tail } (.slice (some ⟨g, o + 2, none⟩) (n + 1) (cap - 1)) P (w.setCell ⟨b, 3, none⟩ (.slice (some ⟨g, o + 2, none⟩) (n + 1) (cap - 1))) := by
  have hset := wr_set (A := fun z => z = b) w ⟨b, 3, none⟩ (.slice (some ⟨g, o + 2, none⟩) (n + 1) (cap - 1)) rfl
  have hgb : g ≠ b := hL.row.ne hL.box (by decide) g rfl
  have hr := hL.row
  have hlen : (p :: P).length = n + 1 + 1 := by rw [List.length_cons, hn]
  rw [hlen] at hr
  have h1 := hr.rest
  refine ⟨?_, ?_, ?_, fun q hq => row_set5 (hL.ends q (List.mem_cons_of_mem _ hq)) ((ofr_own (hL.ends q (List.mem_cons_of_mem _ hq))).ne hL.box (by decide)), (List.pairwise_cons.1 hL.apart).2, ⟨?_, fun s hs => hL.ok.seg s (List.mem_of_mem_tail hs), hL.ok.st⟩, hL.bB⟩
  · have := hL.box.set 3 (.slice (some ⟨g, o + 2, none⟩) (n + 1) (cap - 1))
    exact this
  · rw [hn]
    have e : (segsV (p :: P)).drop 2 = segsV P := by rw [segsV_drop]; rfl
    rw [e] at h1
    exact h1.wr hset (fun q hq e => hgb (by simp only [Value.ownBlock, Option.some.injEq] at hq; omega))
  · rw [← hL.seg]; rfl
  · have := hL.ok.few
    simp only [List.length_tail]
    omega
end

end Go.Proofs.YtmammmjmipgmoaaGreatDoor
