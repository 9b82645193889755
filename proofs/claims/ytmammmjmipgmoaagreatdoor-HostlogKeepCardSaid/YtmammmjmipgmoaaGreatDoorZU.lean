/- Texts of lower layers, as one. -/
import Derived.Test.YtmammmjmipgmoaaGreatDoorZR
import Derived.Test.YtmammmjmipgmoaaGreatDoorShelf
/- Layer 5: Sync, Remove. -/
namespace Go.Proofs.YtmammmjmipgmoaaGreatDoor
set_option linter.unusedVariables false
open Go Go.RowKit Go.Maps

section
variable {B d mb : Nat} {V : List UInt8 → Value} {sv : Value} {c : Cs} {D' : Dk.St} {W5 : World} {F : Nat → Prop}
theorem sync_asm5 (hI : DkIn B d mb V sv c D' W5) (hO : Dk.Ok D') {L0 : List Dk.Fl} (hL : D'.L = L0) {nm : List UInt8} {vo : Option Addr} {vc n : Nat} {w w8 : World} (hvn : V nm = .slice vo (Dk.get nm L0).dat.length vc) (hh : Dk.has nm L0 = true) (hn : Dk.named nm = true)
    (hmap : w8.ownsMap Tryz.prog 9 heldR mb n (datM (upV V nm (.slice vo (Dk.get nm L0).dat.length vc)) (Dk.put ⟨nm, (Dk.get nm L0).dat, (Dk.get nm L0).dat.length⟩ D'.L))) (ht : W5.mapTurned w8 mb)
    (hs : w.heap.size ≤ W5.heap.size) (hB : B ≤ w.heap.size) (hF : ∀ b, F b → B ≤ b ∧ b < w.heap.size) (hFt : ∀ b, Ft d mb V c D' b → F b) (hW : Wr F w W5) :
    DkAt B (gr F w w8) d { D' with L := Dk.put ⟨nm, (Dk.get nm L0).dat, (Dk.get nm L0).dat.length⟩ L0 } w8 ∧ Wr F w w8 := by
  subst hL
  have hw : Wr (fun q => q = mb) W5 w8 := wr_turned ht rfl
  have hco := hI.co
  have hvo : vOf V nm D'.L = V nm := if_pos hh
  have hszp : Dk.size (Dk.put ⟨nm, (Dk.get nm D'.L).dat, (Dk.get nm D'.L).dat.length⟩ D'.L) = Dk.size D'.L := by
    have := Dk.size_put hO.l ⟨nm, (Dk.get nm D'.L).dat, (Dk.get nm D'.L).dat.length⟩
    simp only at this
    omega
  have hrow := hI.vrow nm
  rw [hvo, hvn] at hrow
  have hb : ∀ q, (Value.slice vo (Dk.get nm D'.L).dat.length vc).ownBlock = some q → ∃ g ∈ D'.L, (V g.name).ownBlock = some q := fun q hq => by
    rw [← hvn, ← hvo] at hq
    obtain ⟨g, hg, _, e⟩ := vOf_block hq
    exact ⟨g, hg, e⟩
  have h1 := hI.putA (f := ⟨nm, (Dk.get nm D'.L).dat, (Dk.get nm D'.L).dat.length⟩) (v := .slice vo (Dk.get nm D'.L).dat.length vc) hw (fun q hq => .inr (.inl hq)) (by
      have h2 := hI.box.wr hw (fun e => hco.ne e.symm)
      unfold dkC at h2 ⊢
      simp only at h2 ⊢
      rw [hszp]
      exact h2) hmap (row_wr hrow hw (fun q hq => by
      obtain ⟨g, hg, e⟩ := hb q hq
      exact (hco.rne hg e).2.1)) (fun q hq => .inl (by rw [hvo, hvn]; exact hq))
  refine ⟨h1.at (Dk.put_ok5 hO hn (Nat.le_refl _) (.inl hh) (by have := hO.room; simp only; omega)) (Nat.le_trans hs hw.size) hB hF (ft_put (fun q hq => .inl (hb q hq)) hFt), hW.step hw (fun x hx => .inl (by rw [hx]; exact hFt _ (.inr (.inl rfl))))⟩
end
section
variable {B d mb : Nat} {V : List UInt8 → Value} {sv : Value} {c : Cs} {D' : Dk.St} {W3 : World} {F : Nat → Prop}
theorem remove_asm5 (hI : DkIn B d mb V sv c D' W3) (hO : Dk.Ok D') {L0 : List Dk.Fl} (hL : D'.L = L0) {nm : List UInt8} {w W4 : World} (hC : DkCo B d mb V sv { D' with L := Dk.del nm D'.L } W4) (hw : Wr (fun q => q = d ∨ q = mb) W3 W4)
    (hs : w.heap.size ≤ W3.heap.size) (hB : B ≤ w.heap.size) (hF : ∀ b, F b → B ≤ b ∧ b < w.heap.size) (hFt : ∀ b, Ft d mb V c D' b → F b) (hW : Wr F w W3) :
    DkAt B (gr F w W4) d { D' with L := Dk.del nm L0 } W4 ∧ Wr F w W4 := by
  subst hL
  have h1 : DkIn B d mb V sv c { D' with L := Dk.del nm D'.L } W4 := hC.in (hI.setW hw (fun q hq => hq.elim .inl (fun e => .inr (.inl e))))
  refine ⟨h1.at (Dk.del_ok5 hO nm) (Nat.le_trans hs hw.size) hB hF (fun b hb => .inl (hFt b ?_)), hW.step hw (fun x hx => .inl (hFt x (hx.elim .inl (fun e => .inr (.inl e)))))⟩
  rcases hb with e | e | ⟨f, hf, hq⟩ | hx
  · exact .inl e
  · exact .inr (.inl e)
  · exact .inr (.inr (.inl ⟨f, (Dk.mem_del.1 hf).1, hq⟩))
  · exact .inr (.inr (.inr hx))
end
section
variable {B d mb : Nat} {V : List UInt8 → Value} {sv : Value} {c : Cs} {D : Dk.St} {w : World} {F : Nat → Prop}
set_option maxRecDepth 100000 in
set_option maxHeartbeats 4000000 in
theorem sync_down5 (h : DkAt B F d D w) (hB : B ≤ w.heap.size) (nm : List UInt8) (hl : nm.length ≤ 140737488351232) (hu : D.up = false) : Calls Tryz.prog 125 #[.pointer (some ⟨d, 0, none⟩), .string (S nm)] w (OpR B F d (Dk.sync nm D) w) := by
  have HR := Lib.hid (fun w' (hb : Below w.heap.size w w') => show OpR B F d (Dk.sync nm D) w (.returned (.int .i64 51)) w' from by
    have e : Dk.sync nm D = (51, D) := by unfold Dk.sync; rw [if_pos hu]
    rw [e]; exact opR_same h hB hb 51)
  obtain ⟨hO, mb, V, sv, c, hI, hFt, hFB⟩ := h
  have CF := Lib.hid (find5 ⟨hO, mb, V, sv, c, hI, hFt, hFB⟩ hI nm hl)
  have hE : fndE nm D = 51 := by unfold fndE; rw [if_pos hu]
  have hV : fndV V nm D = .slice none 0 0 := by unfold fndV; rw [hE]; rfl
  have hS : fndS nm D = 0 := by unfold fndS; rw [hE]; rfl
  rw [hE, hV, hS] at CF
  clear hO hI hFt hFB hB hl hE hV hS  hu
  go_enter Tryz.func125, Tryz.ntmps125
  go_wp2_with fail
  with_reducible refine CF.out.mono ?_
  rintro e w1 ⟨rfl, hb⟩
  have HB := Lib.hid hb
  clear hb
  go_wp2_with fail
  go_ret
  exact HR.out _ (HB.out.alloc HB.out.size _)
set_option maxRecDepth 100000 in
set_option maxHeartbeats 4000000 in
theorem sync_none5 (h : DkAt B F d D w) (hB : B ≤ w.heap.size) (nm : List UInt8) (hl : nm.length ≤ 140737488351232) (hu : D.up = true) (hh : Dk.has nm D.L = false) : Calls Tryz.prog 125 #[.pointer (some ⟨d, 0, none⟩), .string (S nm)] w (OpR B F d (Dk.sync nm D) w) := by
  have HR := Lib.hid (fun w' (hb : Below w.heap.size w w') => show OpR B F d (Dk.sync nm D) w (.returned (.int .i64 4)) w' from by
    have e : Dk.sync nm D = (4, D) := by unfold Dk.sync; rw [if_neg (by rw [hu]; simp), if_pos hh]
    rw [e]; exact opR_same h hB hb 4)
  obtain ⟨hO, mb, V, sv, c, hI, hFt, hFB⟩ := h
  have CF := Lib.hid (find5 ⟨hO, mb, V, sv, c, hI, hFt, hFB⟩ hI nm hl)
  have hE : fndE nm D = 4 := by unfold fndE; rw [if_neg (by rw [hu]; simp), if_pos hh]
  have hV : fndV V nm D = .slice none 0 0 := by unfold fndV; rw [hE]; rfl
  have hS : fndS nm D = 0 := by unfold fndS; rw [hE]; rfl
  rw [hE, hV, hS] at CF
  clear hO hI hFt hFB hB hl hE hV hS  hu hh
  go_enter Tryz.func125, Tryz.ntmps125
  go_wp2_with fail
  with_reducible refine CF.out.mono ?_
  rintro e w1 ⟨rfl, hb⟩
  have HB := Lib.hid hb
  clear hb
  go_wp2_with fail
  go_ret
  exact HR.out _ (HB.out.alloc HB.out.size _)
set_option maxRecDepth 100000 in
set_option maxHeartbeats 4000000 in
theorem sync_ok5 (h : DkAt B F d D w) (hB : B ≤ w.heap.size) (nm : List UInt8) (hl : nm.length ≤ 140737488351232) (hu : D.up = true) (hh : Dk.has nm D.L = true) : Calls Tryz.prog 125 #[.pointer (some ⟨d, 0, none⟩), .string (S nm)] w (OpR B F d (Dk.sync nm D) w) := by
  have HE := Lib.hid (show Dk.sync nm D = if (Dk.struck D).1 then (51, (Dk.struck D).2) else (0, { (Dk.struck D).2 with L := Dk.put ⟨nm, (Dk.get nm D.L).dat, (Dk.get nm D.L).dat.length⟩ D.L }) from by unfold Dk.sync; rw [if_neg (by rw [hu]; simp), if_neg (by rw [hh]; simp)])
  obtain ⟨hO, mb, V, sv, c, hI, hFt, hFB⟩ := h
  have CF := Lib.hid (find5 ⟨hO, mb, V, sv, c, hI, hFt, hFB⟩ hI nm hl)
  have hE : fndE nm D = 0 := by unfold fndE; rw [if_neg (by rw [hu]; simp), if_neg (by rw [hh]; simp)]
  have hV : fndV V nm D = V nm := by unfold fndV; rw [hE]; rfl
  have hS : fndS nm D = (Dk.get nm D.L).safe := by unfold fndS; rw [hE]; rfl
  rw [hE, hV, hS] at CF
  obtain ⟨vo, vc, hv⟩ := row_shape5 (hI.vrow nm)
  have hvr := hI.vrow nm
  rw [hv] at hvr
  have hvn : V nm = .slice vo (Dk.get nm D.L).dat.length vc := by rw [← hv]; exact (if_pos hh).symm
  rw [hvn] at CF
  have HO := Lib.hid hO
  have HI := Lib.hid hI
  have HFT := Lib.hid hFt
  have HFB := Lib.hid hFB
  have HBs := Lib.hid hB
  have HL := Lib.hid hl
  have HVN := Lib.hid hvn
  have HHH := Lib.hid hh
  have HBD := Lib.hid (show B ≤ d from (hFB d (hFt d (.inl rfl))).1)
  have HBM := Lib.hid (show B ≤ mb from (hFB mb (hFt mb (.inr (.inl rfl)))).1)
  have hgz := Dk.get_size hO.l nm
  have hrm := hO.room
  have hms := hO.most
  have hfw := hO.few
  have HNM := Lib.hid (show Dk.named nm = true from by have h1 := hO.l.named _ (Dk.get_mem hh).1; rw [(Dk.get_mem hh).2] at h1; exact h1)
  have HVR := Lib.hid hvr
  clear hO hI hFt hFB hB hv hvr hl hu hh hE hV hS hvn
  go_enter Tryz.func125, Tryz.ntmps125
  go_wp2_with fail
  with_reducible refine CF.out.mono ?_
  rintro e w1 ⟨rfl, hb⟩
  have HB1 := Lib.hid hb
  clear hb CF
  go_wp2_with fail
  have HX := Lib.hid (bk_new #[.slice vo (Dk.get nm D.L).dat.length vc, .int .i64 (Dk.get nm D.L).safe] 118 w1)
  have HB2 := Lib.hid (show Below w.heap.size w (w1.alloc (.cells #[.slice vo (Dk.get nm D.L).dat.length vc, .int .i64 (Dk.get nm D.L).safe] 118)) from HB1.out.alloc HB1.out.size _)
  have HXW := Lib.hid (show w.heap.size ≤ w1.heap.size from HB1.out.size)
  generalize (w1.alloc (.cells #[.slice vo (Dk.get nm D.L).dat.length vc, .int .i64 (Dk.get nm D.L).safe] 118)) = W2 at *
  generalize w1.heap.size = X at *
  clear HB1
  have CK := Lib.hid (struck5 (HI.out.below HB2.out) HBD.out HBM.out HO.out)
  with_reducible refine CK.out.mono ?_
  rintro e W3 ⟨rfl, hR, hW3⟩
  have HRA := Lib.hid (strR_at ⟨rfl, hR, hW3⟩ HO.out HB2.out.size HBs.out HFB.out (fun b hb => .inl (HFT.out b hb)))
  have HRW := Lib.hid (strR_wr ⟨rfl, hR, hW3⟩ (wr_below HB2.out) (fun b hb => .inl (HFT.out b hb)))
  obtain ⟨V3, sv3, hI3, hV3, hV4⟩ := hR
  have HI3 := Lib.hid hI3
  have HV3 := Lib.hid hV3
  have HV4 := Lib.hid hV4
  have HW3 := Lib.hid hW3
  clear hI3 hV3 hV4 hW3 CK
  have HKP := Lib.hid (fun hq => Dk.struck_keep (D := D) hq)
  generalize hst : (Dk.struck D).1 = bb at *
  clear hst
  cases bb with
  | true =>
    go_wp2_with fail
    go_ret
    refine ⟨?_, ?_, HRW.out⟩
    · rw [HE.out]; rfl
    · rw [HE.out]; exact HRA.out
  | false =>
    have HV5 := Lib.hid (HV4.out rfl)
    rw [HV5.out] at HI3
    clear HV4 HV5 HV3 HRA
    have HDL := Lib.hid (HKP.out rfl).1
    have HDR := Lib.hid (HKP.out rfl).2
    have HOK3 := Lib.hid (Dk.struck_ok5 HO.out)
    have HFT3 := Lib.hid (show ∀ b, Ft d mb V c (Dk.struck D).2 b → F b from fun b hb => HFT.out b (ft_struck (fun _ => rfl) hb))
    have HSZ3 := Lib.hid (show w.heap.size ≤ W3.heap.size from Nat.le_trans HB2.out.size HW3.out.size)
    have HX3 := Lib.hid (HX.out.wr HW3.out (fun hq => by
      rcases hq with e | e | ⟨h1, e⟩
      · have := HI.out.box.lt; have := HXW.out; omega
      · have := HI.out.map.lt; have := HXW.out; omega
      · have h2 := HI.out.set
        cases hs : D.set with
        | none => exact h1 hs
        | some p =>
          rw [hs] at h2
          have := h2.2.1.lt; have := HXW.out; omega))
    have x0 : W3.cell? ⟨X, 0, none⟩ = some (.slice vo (Dk.get nm D.L).dat.length vc) := HX3.out.cell 0
    have x1 : W3.cell? ⟨X, 1, none⟩ = some (.int .i64 (Dk.get nm D.L).safe) := HX3.out.cell 1
    have xf : ∀ j, W3.frozen? ⟨X, j, none⟩ = false := fun j => HX3.out.free j
    go_wp2_with fail
    have HX4 := Lib.hid (HX3.out.set 1 (.int .i64 (Dk.get nm D.L).dat.length))
    have HW4 := Lib.hid (show Wr (fun q => q = X) W3 (W3.setCell ⟨X, 1, none⟩ (.int .i64 (Dk.get nm D.L).dat.length)) from wr_set _ _ _ rfl)
    have HNX := Lib.hid (HI3.out.apart HX3.out (by decide) (by decide) (by decide) (by decide) (by decide))
    have HI4 := Lib.hid (HI3.out.wr HW4.out (fun b hb e => HNX.out (e ▸ hb)))
    generalize (W3.setCell ⟨X, 1, none⟩ (.int .i64 (Dk.get nm D.L).dat.length)) = W4 at *
    clear x0 x1 xf
    have HS2 := Lib.hid (show W4.cell? ⟨d, 2, none⟩ = some (.map (some mb)) from HI4.out.box.cell 2)
    have HS0 := Lib.hid (show W4.cell? ⟨X, 0, none⟩ = some (.slice vo (Dk.get nm D.L).dat.length vc) from HX4.out.cell 0)
    have HS1 := Lib.hid (show W4.cell? ⟨X, 1, none⟩ = some (.int .i64 (Dk.get nm D.L).dat.length) from HX4.out.cell 1)
    refine wp_region_Z (S := fun V => V.cell? ⟨d, 2, none⟩ = some (.map (some mb)) ∧ V.cell? ⟨X, 0, none⟩ = some (.slice vo (Dk.get nm D.L).dat.length vc) ∧ V.cell? ⟨X, 1, none⟩ = some (.int .i64 (Dk.get nm D.L).dat.length)) 6 (by kernel_rfl) ?_ (fun hHeld => ?_)
    · exact ⟨HS2.out, HS0.out, HS1.out⟩
    have HI5 := Lib.hid (HI4.out.below ((Below.refl _ W4).drew))
    have HW5 := Lib.hid (HW4.out.drew)
    obtain ⟨W5, hW5⟩ : ∃ x, x = World.drew W4 := ⟨_, rfl⟩
    rw [← hW5] at HI5 HW5 hHeld ⊢
    clear hW5
    have HLEN := Lib.hid (show (Dk.struck D).2.L.length ≤ 100000 from by rw [HDL.out]; omega)
    refine wpAnyZ_takeY (i := 0) (oi := { dst := some 22, op := Op.move (Operand.tmp 0), type := 24, pos := "disk.go:96", after := #[], guard := none }) (v := ?_) rfl (by kernel_rfl) (by kernel_rfl) (by kernel_rfl) (by rfl) (fun _ _ _ h => h) (Or.inl ⟨by rfl, ?_⟩) (by assumption) ?_
    rotate_left
    · (intro w; go_simp); (first | done | with_reducible rfl)
    try simp only [Act.put, List.setIfInBounds_toArray, List.set_cons_zero, List.set_cons_succ]
    refine wpAnyZ_takeY (i := 1) (oi := { dst := some 23, op := Op.nilCheck (Operand.tmp 22), type := 0, pos := "disk.go:96", after := #[{ on := 0, ground := Ground.data }], guard := none }) (v := ?_) rfl (by kernel_rfl) (by kernel_rfl) (by kernel_rfl) (by rfl) (fun _ _ _ h => h) (Or.inl ⟨by rfl, ?_⟩) (by assumption) ?_
    rotate_left
    · (intro w; go_simp); (first | done | with_reducible rfl)
    try simp only [Act.put, List.setIfInBounds_toArray, List.set_cons_zero, List.set_cons_succ]
    refine wpAnyZ_takeY (i := 2) (oi := { dst := some 24, op := Op.fieldAddr 51 (Operand.tmp 23) 2, type := 0, pos := "disk.go:96", after := #[{ on := 1, ground := Ground.data }], guard := none }) (v := ?_) rfl (by kernel_rfl) (by kernel_rfl) (by kernel_rfl) (by rfl) (fun _ _ _ h => h) (Or.inl ⟨by rfl, ?_⟩) (by assumption) ?_
    rotate_left
    · (intro w; go_simp); (first | done | with_reducible rfl)
    try simp only [Act.put, List.setIfInBounds_toArray, List.set_cons_zero, List.set_cons_succ]
    refine wpAnyZ_take (i := 3) (oi := { dst := some 25, op := Op.load 49 (Operand.tmp 24), type := 49, pos := "disk.go:96", after := #[{ on := 2, ground := Ground.data }], guard := none }) (v := ?_) [6] rfl (by kernel_rfl) (by kernel_rfl) (by kernel_rfl) (by kernel_rfl) (fun _ _ _ h => h) (Or.inl ⟨by rfl, ?_⟩) (by assumption) ?_
    rotate_left
    · (intro w hSw; (try dsimp only at hSw); go_simp); (first | done | with_reducible rfl)
    try simp only [Act.put, List.setIfInBounds_toArray, List.set_cons_zero, List.set_cons_succ]
    refine wpAnyZ_takeY (i := 4) (oi := { dst := some 26, op := Op.move (Operand.tmp 1), type := 9, pos := "disk.go:96", after := #[], guard := none }) (v := ?_) rfl (by kernel_rfl) (by kernel_rfl) (by kernel_rfl) (by rfl) (fun _ _ _ h => h) (Or.inl ⟨by rfl, ?_⟩) (by assumption) ?_
    rotate_left
    · (intro w; go_simp); (first | done | with_reducible rfl)
    try simp only [Act.put, List.setIfInBounds_toArray, List.set_cons_zero, List.set_cons_succ]
    refine wpAnyZ_take (i := 5) (oi := { dst := some 27, op := Op.load 118 (Operand.tmp 5), type := 118, pos := "disk.go:96", after := #[], guard := none }) (v := ?_) [6] rfl (by kernel_rfl) (by kernel_rfl) (by kernel_rfl) (by kernel_rfl) (fun _ _ _ h => h) (Or.inl ⟨by rfl, ?_⟩) (by assumption) ?_
    rotate_left
    · (intro w hSw; (try dsimp only at hSw); go_simp); (first | done | with_reducible rfl)
    try simp only [Act.put, List.setIfInBounds_toArray, List.set_cons_zero, List.set_cons_succ]
    refine wpAnyZ_ready (rs := [6]) (by kernel_rfl) (by simp) ?_
    refine AllReadyZ.last (o := { dst := none, op := Op.mapUpdate 49 (Operand.tmp 25) (Operand.tmp 26) (Operand.tmp 27), type := 0, pos := "disk.go:96", after := #[{ on := 3, ground := Ground.data }, { on := 4, ground := Ground.data }, { on := 5, ground := Ground.data }, { on := 0, ground := Ground.phase }, { on := 1, ground := Ground.phase }, { on := 2, ground := Ground.phase }, { on := 3, ground := Ground.phase }, { on := 4, ground := Ground.phase }, { on := 5, ground := Ground.phase }], guard := none }) rfl (fun K hK => ?_) AllReadyZ.nil
    refine step_put5 (f := (⟨nm, (Dk.get nm D.L).dat, (Dk.get nm D.L).dat.length⟩ : Dk.Fl)) (u := .slice vo (Dk.get nm D.L).dat.length vc) (by rfl) _ _ _ (by rfl) (by rfl) (by rfl) (by rfl) HI5.out.map HLEN.out HL.out ?_
    intro w8 hm8 ht8
    refine hK.out _ _ ?_
    clear hK K
    refine wpAny_done (by kernel_rfl) ?_ _
    have HFIN := Lib.hid (sync_asm5 HI5.out HOK3.out HDL.out HVN.out HHH.out HNM.out hm8 ht8 (Nat.le_trans HSZ3.out HW5.out.size) HBs.out HFB.out HFT3.out (show Wr F w W5 from HRW.out.step HW5.out (fun x hx => .inr (by rw [hx]; exact HXW.out))))
    clear hm8 ht8 hHeld
    go_wp2_with fail
    go_ret
    refine ⟨?_, ?_, HFIN.out.2⟩
    · rw [HE.out]; rfl
    · rw [HE.out]; exact HFIN.out.1
theorem sync5 (h : DkAt B F d D w) (hB : B ≤ w.heap.size) (nm : List UInt8) (hl : nm.length ≤ 140737488351232) : Calls Tryz.prog 125 #[.pointer (some ⟨d, 0, none⟩), .string (S nm)] w (OpR B F d (Dk.sync nm D) w) := by
  cases hu : D.up with
  | false => exact sync_down5 h hB nm hl hu
  | true =>
    cases hh : Dk.has nm D.L with
    | false => exact sync_none5 h hB nm hl hu hh
    | true => exact sync_ok5 h hB nm hl hu hh
set_option maxRecDepth 100000 in
set_option maxHeartbeats 4000000 in
theorem remove_down5 (h : DkAt B F d D w) (hB : B ≤ w.heap.size) (nm : List UInt8) (hl : nm.length ≤ 140737488351232) (hu : D.up = false) : Calls Tryz.prog 75 #[.pointer (some ⟨d, 0, none⟩), .string (S nm)] w (OpR B F d (Dk.remove nm D) w) := by
  have HR := Lib.hid (fun w' (hb : Below w.heap.size w w') => show OpR B F d (Dk.remove nm D) w (.returned (.int .i64 51)) w' from by
    have e : Dk.remove nm D = (51, D) := by unfold Dk.remove; rw [if_pos hu]
    rw [e]; exact opR_same h hB hb 51)
  obtain ⟨hO, mb, V, sv, c, hI, hFt, hFB⟩ := h
  have CF := Lib.hid (find5 ⟨hO, mb, V, sv, c, hI, hFt, hFB⟩ hI nm hl)
  have hE : fndE nm D = 51 := by unfold fndE; rw [if_pos hu]
  have hV : fndV V nm D = .slice none 0 0 := by unfold fndV; rw [hE]; rfl
  have hS : fndS nm D = 0 := by unfold fndS; rw [hE]; rfl
  rw [hE, hV, hS] at CF
  clear hO hI hFt hFB hB hl hE hV hS  hu
  go_enter Tryz.func75, Tryz.ntmps75
  go_wp2_with fail
  with_reducible refine CF.out.mono ?_
  rintro e w1 ⟨rfl, hb⟩
  have HB := Lib.hid hb
  clear hb
  go_wp2_with fail
  go_ret
  exact HR.out _ (HB.out.alloc HB.out.size _)
set_option maxRecDepth 100000 in
set_option maxHeartbeats 4000000 in
theorem remove_none5 (h : DkAt B F d D w) (hB : B ≤ w.heap.size) (nm : List UInt8) (hl : nm.length ≤ 140737488351232) (hu : D.up = true) (hh : Dk.has nm D.L = false) : Calls Tryz.prog 75 #[.pointer (some ⟨d, 0, none⟩), .string (S nm)] w (OpR B F d (Dk.remove nm D) w) := by
  have HR := Lib.hid (fun w' (hb : Below w.heap.size w w') => show OpR B F d (Dk.remove nm D) w (.returned (.int .i64 4)) w' from by
    have e : Dk.remove nm D = (4, D) := by unfold Dk.remove; rw [if_neg (by rw [hu]; simp), if_pos hh]
    rw [e]; exact opR_same h hB hb 4)
  obtain ⟨hO, mb, V, sv, c, hI, hFt, hFB⟩ := h
  have CF := Lib.hid (find5 ⟨hO, mb, V, sv, c, hI, hFt, hFB⟩ hI nm hl)
  have hE : fndE nm D = 4 := by unfold fndE; rw [if_neg (by rw [hu]; simp), if_pos hh]
  have hV : fndV V nm D = .slice none 0 0 := by unfold fndV; rw [hE]; rfl
  have hS : fndS nm D = 0 := by unfold fndS; rw [hE]; rfl
  rw [hE, hV, hS] at CF
  clear hO hI hFt hFB hB hl hE hV hS  hu hh
  go_enter Tryz.func75, Tryz.ntmps75
  go_wp2_with fail
  with_reducible refine CF.out.mono ?_
  rintro e w1 ⟨rfl, hb⟩
  have HB := Lib.hid hb
  clear hb
  go_wp2_with fail
  go_ret
  exact HR.out _ (HB.out.alloc HB.out.size _)
set_option maxRecDepth 100000 in
set_option maxHeartbeats 4000000 in
theorem remove_ok5 (h : DkAt B F d D w) (hB : B ≤ w.heap.size) (nm : List UInt8) (hl : nm.length ≤ 140737488351232) (hu : D.up = true) (hh : Dk.has nm D.L = true) : Calls Tryz.prog 75 #[.pointer (some ⟨d, 0, none⟩), .string (S nm)] w (OpR B F d (Dk.remove nm D) w) := by
  have HE := Lib.hid (show Dk.remove nm D = if (Dk.struck D).1 then (51, (Dk.struck D).2) else (0, { (Dk.struck D).2 with L := Dk.del nm D.L }) from by unfold Dk.remove; rw [if_neg (by rw [hu]; simp), if_neg (by rw [hh]; simp)])
  obtain ⟨hO, mb, V, sv, c, hI, hFt, hFB⟩ := h
  have CF := Lib.hid (find5 ⟨hO, mb, V, sv, c, hI, hFt, hFB⟩ hI nm hl)
  have hE : fndE nm D = 0 := by unfold fndE; rw [if_neg (by rw [hu]; simp), if_neg (by rw [hh]; simp)]
  have hV : fndV V nm D = V nm := by unfold fndV; rw [hE]; rfl
  have hS : fndS nm D = (Dk.get nm D.L).safe := by unfold fndS; rw [hE]; rfl
  rw [hE, hV, hS] at CF
  obtain ⟨vo, vc, hv⟩ := row_shape5 (hI.vrow nm)
  have hvr := hI.vrow nm
  rw [hv] at hvr
  have hvn : V nm = .slice vo (Dk.get nm D.L).dat.length vc := by rw [← hv]; exact (if_pos hh).symm
  rw [hvn] at CF
  have HO := Lib.hid hO
  have HI := Lib.hid hI
  have HFT := Lib.hid hFt
  have HFB := Lib.hid hFB
  have HBs := Lib.hid hB
  have HL := Lib.hid hl
  have HVN := Lib.hid hvn
  have HHH := Lib.hid hh
  have HBD := Lib.hid (show B ≤ d from (hFB d (hFt d (.inl rfl))).1)
  have HBM := Lib.hid (show B ≤ mb from (hFB mb (hFt mb (.inr (.inl rfl)))).1)
  have hgz := Dk.get_size hO.l nm
  have hrm := hO.room
  have hms := hO.most
  have hfw := hO.few
  clear hO hI hFt hFB hB hv hvr hl hu hh hE hV hS hvn
  go_enter Tryz.func75, Tryz.ntmps75
  go_wp2_with fail
  with_reducible refine CF.out.mono ?_
  rintro e w1 ⟨rfl, hb⟩
  have HB1 := Lib.hid hb
  clear hb CF
  go_wp2_with fail
  have HX := Lib.hid (bk_new #[.slice vo (Dk.get nm D.L).dat.length vc, .int .i64 (Dk.get nm D.L).safe] 118 w1)
  have HB2 := Lib.hid (show Below w.heap.size w (w1.alloc (.cells #[.slice vo (Dk.get nm D.L).dat.length vc, .int .i64 (Dk.get nm D.L).safe] 118)) from HB1.out.alloc HB1.out.size _)
  have HXW := Lib.hid (show w.heap.size ≤ w1.heap.size from HB1.out.size)
  generalize (w1.alloc (.cells #[.slice vo (Dk.get nm D.L).dat.length vc, .int .i64 (Dk.get nm D.L).safe] 118)) = W2 at *
  generalize w1.heap.size = X at *
  clear HB1
  have CK := Lib.hid (struck5 (HI.out.below HB2.out) HBD.out HBM.out HO.out)
  with_reducible refine CK.out.mono ?_
  rintro e W3 ⟨rfl, hR, hW3⟩
  have HRA := Lib.hid (strR_at ⟨rfl, hR, hW3⟩ HO.out HB2.out.size HBs.out HFB.out (fun b hb => .inl (HFT.out b hb)))
  have HRW := Lib.hid (strR_wr ⟨rfl, hR, hW3⟩ (wr_below HB2.out) (fun b hb => .inl (HFT.out b hb)))
  obtain ⟨V3, sv3, hI3, hV3, hV4⟩ := hR
  have HI3 := Lib.hid hI3
  have HV3 := Lib.hid hV3
  have HV4 := Lib.hid hV4
  have HW3 := Lib.hid hW3
  clear hI3 hV3 hV4 hW3 CK
  have HKP := Lib.hid (fun hq => Dk.struck_keep (D := D) hq)
  generalize hst : (Dk.struck D).1 = bb at *
  clear hst
  cases bb with
  | true =>
    go_wp2_with fail
    go_ret
    refine ⟨?_, ?_, HRW.out⟩
    · rw [HE.out]; rfl
    · rw [HE.out]; exact HRA.out
  | false =>
    have HV5 := Lib.hid (HV4.out rfl)
    rw [HV5.out] at HI3
    clear HV4 HV5 HV3 HRA
    have HDL := Lib.hid (HKP.out rfl).1
    have HDR := Lib.hid (HKP.out rfl).2
    have HOK3 := Lib.hid (Dk.struck_ok5 HO.out)
    have HFT3 := Lib.hid (show ∀ b, Ft d mb V c (Dk.struck D).2 b → F b from fun b hb => HFT.out b (ft_struck (fun _ => rfl) hb))
    have HSZ3 := Lib.hid (show w.heap.size ≤ W3.heap.size from Nat.le_trans HB2.out.size HW3.out.size)
    have HX3 := Lib.hid (HX.out.wr HW3.out (fun hq => by
      rcases hq with e | e | ⟨h1, e⟩
      · have := HI.out.box.lt; have := HXW.out; omega
      · have := HI.out.map.lt; have := HXW.out; omega
      · have h2 := HI.out.set
        cases hs : D.set with
        | none => exact h1 hs
        | some p =>
          rw [hs] at h2
          have := h2.2.1.lt; have := HXW.out; omega))
    go_wp2_with fail
    have CD := Lib.hid (drop5 HI3.out.co HOK3.out.l (by rw [HDL.out]; omega) nm HL.out)
    with_reducible refine CD.out.mono ?_
    rintro e W4 ⟨rfl, hC, hW4⟩
    have HFIN := Lib.hid (remove_asm5 HI3.out HOK3.out HDL.out hC hW4 HSZ3.out HBs.out HFB.out HFT3.out HRW.out)
    clear hC hW4
    go_wp2_with fail
    go_ret
    refine ⟨?_, ?_, HFIN.out.2⟩
    · rw [HE.out]; rfl
    · rw [HE.out]; exact HFIN.out.1
theorem remove5 (h : DkAt B F d D w) (hB : B ≤ w.heap.size) (nm : List UInt8) (hl : nm.length ≤ 140737488351232) : Calls Tryz.prog 75 #[.pointer (some ⟨d, 0, none⟩), .string (S nm)] w (OpR B F d (Dk.remove nm D) w) := by
  cases hu : D.up with
  | false => exact remove_down5 h hB nm hl hu
  | true =>
    cases hh : Dk.has nm D.L with
    | false => exact remove_none5 h hB nm hl hu hh
    | true => exact remove_ok5 h hB nm hl hu hh
end

end Go.Proofs.YtmammmjmipgmoaaGreatDoor

/- Layer 5: Rename. -/
namespace Go.Proofs.YtmammmjmipgmoaaGreatDoor
set_option linter.unusedVariables false
open Go Go.RowKit Go.Maps

namespace Dk
theorem del_del (a b : List UInt8) (L : List Fl) : del a (del b L) = del b (del a L) := by
  unfold del
  rw [List.filter_filter, List.filter_filter]
  congr 1
  funext f
  exact Bool.and_comm _ _
theorem del_idem (a : List UInt8) (L : List Fl) : del a (del a L) = del a L := by
  unfold del
  rw [List.filter_filter]
  congr 1
  funext f
  simp
theorem ren_eq {a b : List UInt8} (L : List Fl) (h : a ≠ b) : put ⟨b, (get a L).dat, (get a L).safe⟩ (del a (del b L)) = ren a b L := by
  unfold ren put
  rw [if_neg h]
  simp only
  rw [del_del a b L, del_idem]
theorem get_del {a b : List UInt8} {L : List Fl} (h : OkL L) (hab : a ≠ b) : get a (del b L) = get a L ∧ has a (del b L) = has a L := by
  have hh : has a (del b L) = has a L := by rw [has_del]; simp [hab]
  refine ⟨?_, hh⟩
  cases hx : has a L with
  | false => rw [get_none hx, get_none (by rw [hh]; exact hx)]
  | true =>
    obtain ⟨h1, h2⟩ := get_mem hx
    have h3 := get_of (h.del b).ne (mem_del.2 ⟨h1, by rw [h2]; exact hab⟩)
    rw [h2] at h3
    exact h3
theorem ren_size {a b : List UInt8} {L : List Fl} (h : OkL L) (hab : a ≠ b) (hh : has a L = true) : size (ren a b L) = size (del b L) := by
  rw [← ren_eq L hab]
  have h1 := size_put ((h.del b).del a) ⟨b, (get a L).dat, (get a L).safe⟩
  have h2 := size_del (nm := a) (h.del b).ne
  rw [(get_del h hab).1] at h2
  have h3 : get b (del a (del b L)) = fl0 := get_none (by rw [has_del, has_del]; simp)
  simp only at h1
  rw [h3] at h1
  simp only [fl0, List.length_nil] at h1
  omega
theorem ren_ok5 {D : St} (h : Ok D) {a b : List UInt8} (hn : named b = true) (hh : has a D.L = true) : Ok { D with L := ren a b D.L } := by
  by_cases hab : a = b
  · unfold ren
    rw [if_pos hab]
    exact with_ok5 h h.l h.few h.room
  · refine with_ok5 h ?_ ?_ ?_
    · rw [← ren_eq D.L hab]
      exact ((h.l.del b).del a).put hn (get_safe h.l a)
    · rw [← ren_eq D.L hab]
      have h1 := len_put ((h.l.del b).del a) ⟨b, (get a D.L).dat, (get a D.L).safe⟩
      have h2 := len_del (nm := a) (h.l.del b).ne
      rw [(get_del h.l hab).2, hh] at h2
      have h3 := len_del (nm := b) h.l.ne
      have h4 : has b (del a (del b D.L)) = false := by rw [has_del, has_del]; simp
      simp only at h1
      rw [h4] at h1
      have h5 := h.few
      simp at h1 h2
      omega
    · rw [ren_size h.l hab hh]
      have h3 := size_del (nm := b) h.l.ne
      have := h.room
      omega
end Dk
section
variable {B d mb : Nat} {V : List UInt8 → Value} {sv : Value} {c : Cs} {D' : Dk.St} {W3 : World} {F : Nat → Prop}
theorem rename_asm5 (hI : DkIn B d mb V sv c D' W3) (hO : Dk.Ok D') {L0 : List Dk.Fl} (hL : D'.L = L0) {nm to : List UInt8} (hne : nm ≠ to) {vo : Option Addr} {vc n : Nat} {w W4 w6 W7 w8 : World} (hvn : V nm = .slice vo (Dk.get nm L0).dat.length vc) (hh : Dk.has nm L0 = true) (hn : Dk.named to = true)
    (hC : DkCo B d mb V sv { D' with L := Dk.del to D'.L } W4) (hw : Wr (fun q => q = d ∨ q = mb) W3 W4) (ht6 : W4.mapTurned w6 mb) (hw7 : Wr (fun _ => False) w6 W7) (ht8 : W7.mapTurned w8 mb)
    (hmap : w8.ownsMap Tryz.prog 9 heldR mb n (datM (upV V to (.slice vo (Dk.get nm L0).dat.length vc)) (Dk.put ⟨to, (Dk.get nm L0).dat, (Dk.get nm L0).safe⟩ (Dk.del nm (Dk.del to L0)))))
    (hs : w.heap.size ≤ W3.heap.size) (hB : B ≤ w.heap.size) (hF : ∀ b, F b → B ≤ b ∧ b < w.heap.size) (hFt : ∀ b, Ft d mb V c D' b → F b) (hW : Wr F w W3) :
    DkAt B (gr F w w8) d { D' with L := Dk.ren nm to L0 } w8 ∧ Wr F w w8 := by
  subst hL
  have hco := hI.co
  have hw48 : Wr (fun q => q = mb) W4 w8 := ((wr_turned (A := fun q => q = mb) ht6 rfl).step hw7 (fun x hx => hx.elim)).step (wr_turned (A := fun q => q = mb) ht8 rfl) (fun x hx => .inl hx)
  have hw38 : Wr (fun q => q = d ∨ q = mb) W3 w8 := hw.step hw48 (fun x hx => .inl (.inr hx))
  obtain ⟨hg1, hg2⟩ := Dk.get_mem hh
  have hrow := hco.row _ hg1
  rw [hg2, hvn] at hrow
  have hbl : ∀ q, (Value.slice vo (Dk.get nm D'.L).dat.length vc).ownBlock = some q → (V (Dk.get nm D'.L).name).ownBlock = some q := fun q hq => by rw [hg2, hvn]; exact hq
  -- the disk without both
  have hD2 : DkCo B d mb V sv { D' with L := Dk.del to D'.L } W4 := hC
  have hren := Dk.ren_eq D'.L hne
  have hrs := Dk.ren_size hO.l hne hh
  have h1 : DkCo B d mb (upV V to (.slice vo (Dk.get nm D'.L).dat.length vc)) sv { D' with L := Dk.ren nm to D'.L } w8 := by
    refine ⟨?_, ?_, fun g hg => ?_, fun g hg g' hg' hgn q hq hq' => ?_⟩
    · have h2 := hC.box.wr hw48 (fun e => hC.ne e.symm)
      unfold dkC at h2 ⊢
      simp only at h2 ⊢
      rw [hrs]
      exact h2
    · rw [hren] at hmap
      exact map_tight5 hmap (by rw [datM_size]; exact Nat.le_refl _)
    · have hg0 : g ∈ Dk.ren nm to D'.L := hg
      rw [← hren] at hg0
      rcases Dk.mem_put.1 hg0 with rfl | ⟨hm, hn'⟩
      · rw [upV_same]
        exact row_wr hrow hw38 (fun q hq => by
          have h2 := hco.rne hg1 (hbl q hq)
          rintro (e | e)
          · exact h2.1 e
          · exact h2.2.1 e)
      · rw [upV_other V _ hn']
        have hgm := (Dk.mem_del.1 (Dk.mem_del.1 hm).1).1
        exact row_wr (hco.row g hgm) hw38 (fun q hq => by
          have h2 := hco.rne hgm hq
          rintro (e | e)
          · exact h2.1 e
          · exact h2.2.1 e)
    · have hg0 : g ∈ Dk.ren nm to D'.L := hg
      have hg0' : g' ∈ Dk.ren nm to D'.L := hg'
      rw [← hren] at hg0 hg0'
      have key : ∀ x ∈ Dk.del nm (Dk.del to D'.L), ∀ q, (Value.slice vo (Dk.get nm D'.L).dat.length vc).ownBlock = some q → (V x.name).ownBlock ≠ some q := fun x hx q hq => by
        have hx1 := Dk.mem_del.1 hx
        exact hco.ap _ hg1 x (Dk.mem_del.1 hx1.1).1 (fun e => hx1.2 (e.symm.trans hg2)) q (hbl q hq)
      rcases Dk.mem_put.1 hg0 with e1 | ⟨hm, hn1⟩
      · rcases Dk.mem_put.1 hg0' with e2 | ⟨hm', hn2⟩
        · exact hgn (e1.trans e2.symm ▸ rfl)
        · rw [e1, upV_same] at hq
          rw [upV_other V _ hn2] at hq'
          exact key g' hm' q hq hq'
      · rw [upV_other V _ hn1] at hq
        rcases Dk.mem_put.1 hg0' with e2 | ⟨hm', hn2⟩
        · rw [e2, upV_same] at hq'
          exact key g hm q hq' hq
        · rw [upV_other V _ hn2] at hq'
          exact hco.ap g (Dk.mem_del.1 (Dk.mem_del.1 hm).1).1 g' (Dk.mem_del.1 (Dk.mem_del.1 hm').1).1 hgn q hq hq'
  have h2 : DkIn B d mb (upV V to (.slice vo (Dk.get nm D'.L).dat.length vc)) sv c { D' with L := Dk.ren nm to D'.L } w8 := h1.in (hI.setW hw38 (fun q hq => hq.elim .inl (fun e => .inr (.inl e))))
  refine ⟨h2.at (Dk.ren_ok5 hO hn hh) (Nat.le_trans hs hw38.size) hB hF (fun b hb => .inl ?_), hW.step hw38 (fun x hx => .inl (hFt x (hx.elim .inl (fun e => .inr (.inl e)))))⟩
  rcases hb with e | e | ⟨f, hf, hq⟩ | hx
  · exact hFt _ (.inl e)
  · exact hFt _ (.inr (.inl e))
  · have hf0 : f ∈ Dk.ren nm to D'.L := hf
    rw [← hren] at hf0
    rcases Dk.mem_put.1 hf0 with rfl | ⟨hm, hn1⟩
    · rw [upV_same] at hq
      exact hFt _ (.inr (.inr (.inl ⟨_, hg1, hbl b hq⟩)))
    · rw [upV_other V _ hn1] at hq
      exact hFt _ (.inr (.inr (.inl ⟨f, (Dk.mem_del.1 (Dk.mem_del.1 hm).1).1, hq⟩)))
  · exact hFt _ (.inr (.inr (.inr hx)))
end
section
variable {B d mb : Nat} {V : List UInt8 → Value} {sv : Value} {c : Cs} {D : Dk.St} {w : World} {F : Nat → Prop}
set_option maxRecDepth 100000 in
set_option maxHeartbeats 4000000 in
theorem rename_down5 (h : DkAt B F d D w) (hB : B ≤ w.heap.size) (nm to : List UInt8) (hl : nm.length ≤ 140737488351232) (hl2 : to.length ≤ 140737488351232) (hu : D.up = false) : Calls Tryz.prog 160 #[.pointer (some ⟨d, 0, none⟩), .string (S nm), .string (S to)] w (OpR B F d (Dk.rename nm to D) w) := by
  have HR := Lib.hid (fun w' (hb : Below w.heap.size w w') => show OpR B F d (Dk.rename nm to D) w (.returned (.int .i64 51)) w' from by
    have e : Dk.rename nm to D = (51, D) := by unfold Dk.rename; rw [if_pos hu]
    rw [e]; exact opR_same h hB hb 51)
  obtain ⟨hO, mb, V, sv, c, hI, hFt, hFB⟩ := h
  have CF := Lib.hid (find5 ⟨hO, mb, V, sv, c, hI, hFt, hFB⟩ hI nm hl)
  have hE : fndE nm D = 51 := by unfold fndE; rw [if_pos hu]
  have hV : fndV V nm D = .slice none 0 0 := by unfold fndV; rw [hE]; rfl
  have hS : fndS nm D = 0 := by unfold fndS; rw [hE]; rfl
  rw [hE, hV, hS] at CF
  clear hO hI hFt hFB hB hl hE hV hS hl2 hu
  go_enter Tryz.func160, Tryz.ntmps160
  go_wp2_with fail
  with_reducible refine CF.out.mono ?_
  rintro e w1 ⟨rfl, hb⟩
  have HB := Lib.hid hb
  clear hb
  go_wp2_with fail
  go_ret
  exact HR.out _ (HB.out.alloc HB.out.size _)
set_option maxRecDepth 100000 in
set_option maxHeartbeats 4000000 in
theorem rename_none5 (h : DkAt B F d D w) (hB : B ≤ w.heap.size) (nm to : List UInt8) (hl : nm.length ≤ 140737488351232) (hl2 : to.length ≤ 140737488351232) (hu : D.up = true) (hh : Dk.has nm D.L = false) : Calls Tryz.prog 160 #[.pointer (some ⟨d, 0, none⟩), .string (S nm), .string (S to)] w (OpR B F d (Dk.rename nm to D) w) := by
  have HR := Lib.hid (fun w' (hb : Below w.heap.size w w') => show OpR B F d (Dk.rename nm to D) w (.returned (.int .i64 4)) w' from by
    have e : Dk.rename nm to D = (4, D) := by unfold Dk.rename; rw [if_neg (by rw [hu]; simp), if_pos hh]
    rw [e]; exact opR_same h hB hb 4)
  obtain ⟨hO, mb, V, sv, c, hI, hFt, hFB⟩ := h
  have CF := Lib.hid (find5 ⟨hO, mb, V, sv, c, hI, hFt, hFB⟩ hI nm hl)
  have hE : fndE nm D = 4 := by unfold fndE; rw [if_neg (by rw [hu]; simp), if_pos hh]
  have hV : fndV V nm D = .slice none 0 0 := by unfold fndV; rw [hE]; rfl
  have hS : fndS nm D = 0 := by unfold fndS; rw [hE]; rfl
  rw [hE, hV, hS] at CF
  clear hO hI hFt hFB hB hl hE hV hS hl2 hu hh
  go_enter Tryz.func160, Tryz.ntmps160
  go_wp2_with fail
  with_reducible refine CF.out.mono ?_
  rintro e w1 ⟨rfl, hb⟩
  have HB := Lib.hid hb
  clear hb
  go_wp2_with fail
  go_ret
  exact HR.out _ (HB.out.alloc HB.out.size _)
set_option maxRecDepth 100000 in
set_option maxHeartbeats 4000000 in
theorem rename_bad5 (h : DkAt B F d D w) (hB : B ≤ w.heap.size) (nm to : List UInt8) (hl : nm.length ≤ 140737488351232) (hl2 : to.length ≤ 140737488351232) (hu : D.up = true) (hh : Dk.has nm D.L = true) (hn : Dk.named to = false) : Calls Tryz.prog 160 #[.pointer (some ⟨d, 0, none⟩), .string (S nm), .string (S to)] w (OpR B F d (Dk.rename nm to D) w) := by
  have HR := Lib.hid (fun w' (hb : Below w.heap.size w w') => show OpR B F d (Dk.rename nm to D) w (.returned (.int .i64 2)) w' from by
    have e : Dk.rename nm to D = (2, D) := by unfold Dk.rename; rw [if_neg (by rw [hu]; simp), if_neg (by rw [hh]; simp), if_pos hn]
    rw [e]; exact opR_same h hB hb 2)
  obtain ⟨hO, mb, V, sv, c, hI, hFt, hFB⟩ := h
  have CF := Lib.hid (find5 ⟨hO, mb, V, sv, c, hI, hFt, hFB⟩ hI nm hl)
  have hE : fndE nm D = 0 := by unfold fndE; rw [if_neg (by rw [hu]; simp), if_neg (by rw [hh]; simp)]
  have hV : fndV V nm D = V nm := by unfold fndV; rw [hE]; rfl
  have hS : fndS nm D = (Dk.get nm D.L).safe := by unfold fndS; rw [hE]; rfl
  rw [hE, hV, hS] at CF
  obtain ⟨vo, vc, hv⟩ := row_shape5 (hI.vrow nm)
  have hvr := hI.vrow nm
  rw [hv] at hvr
  have hvn : V nm = .slice vo (Dk.get nm D.L).dat.length vc := by rw [← hv]; exact (if_pos hh).symm
  rw [hvn] at CF
  have HO := Lib.hid hO
  have HI := Lib.hid hI
  have HFT := Lib.hid hFt
  have HFB := Lib.hid hFB
  have HBs := Lib.hid hB
  have HL := Lib.hid hl
  have HVN := Lib.hid hvn
  have HHH := Lib.hid hh
  have HBD := Lib.hid (show B ≤ d from (hFB d (hFt d (.inl rfl))).1)
  have HBM := Lib.hid (show B ≤ mb from (hFB mb (hFt mb (.inr (.inl rfl)))).1)
  have hgz := Dk.get_size hO.l nm
  have hrm := hO.room
  have hms := hO.most
  have hfw := hO.few
  have CN := Lib.hid (fun W => named5 to hl2 W)
  rw [hn] at CN
  clear hO hI hFt hFB hB hv hvr hl hl2 hu hh hE hV hS hvn hn
  go_enter Tryz.func160, Tryz.ntmps160
  go_wp2_with fail
  with_reducible refine CF.out.mono ?_
  rintro e w1 ⟨rfl, hb⟩
  have HB1 := Lib.hid hb
  clear hb CF
  go_wp2_with fail
  with_reducible refine (CN.out _).mono ?_
  rintro e w2 ⟨rfl, rfl⟩
  go_wp2_with fail
  go_ret
  exact HR.out _ (HB1.out.alloc HB1.out.size _)
set_option maxRecDepth 100000 in
set_option maxHeartbeats 4000000 in
theorem rename_same5 (h : DkAt B F d D w) (hB : B ≤ w.heap.size) (nm to : List UInt8) (hl : nm.length ≤ 140737488351232) (hl2 : to.length ≤ 140737488351232) (hu : D.up = true) (hh : Dk.has nm D.L = true) (hn : Dk.named to = true) (hsame : nm = to) : Calls Tryz.prog 160 #[.pointer (some ⟨d, 0, none⟩), .string (S nm), .string (S to)] w (OpR B F d (Dk.rename nm to D) w) := by
  have HE := Lib.hid (show Dk.rename nm to D = if (Dk.struck D).1 then (51, (Dk.struck D).2) else (0, { (Dk.struck D).2 with L := Dk.ren nm to D.L }) from by unfold Dk.rename; rw [if_neg (by rw [hu]; simp), if_neg (by rw [hh]; simp), if_neg (by rw [hn]; simp)])
  obtain ⟨hO, mb, V, sv, c, hI, hFt, hFB⟩ := h
  have CF := Lib.hid (find5 ⟨hO, mb, V, sv, c, hI, hFt, hFB⟩ hI nm hl)
  have hE : fndE nm D = 0 := by unfold fndE; rw [if_neg (by rw [hu]; simp), if_neg (by rw [hh]; simp)]
  have hV : fndV V nm D = V nm := by unfold fndV; rw [hE]; rfl
  have hS : fndS nm D = (Dk.get nm D.L).safe := by unfold fndS; rw [hE]; rfl
  rw [hE, hV, hS] at CF
  obtain ⟨vo, vc, hv⟩ := row_shape5 (hI.vrow nm)
  have hvr := hI.vrow nm
  rw [hv] at hvr
  have hvn : V nm = .slice vo (Dk.get nm D.L).dat.length vc := by rw [← hv]; exact (if_pos hh).symm
  rw [hvn] at CF
  have HO := Lib.hid hO
  have HI := Lib.hid hI
  have HFT := Lib.hid hFt
  have HFB := Lib.hid hFB
  have HBs := Lib.hid hB
  have HL := Lib.hid hl
  have HVN := Lib.hid hvn
  have HHH := Lib.hid hh
  have HBD := Lib.hid (show B ≤ d from (hFB d (hFt d (.inl rfl))).1)
  have HBM := Lib.hid (show B ≤ mb from (hFB mb (hFt mb (.inr (.inl rfl)))).1)
  have hgz := Dk.get_size hO.l nm
  have hrm := hO.room
  have hms := hO.most
  have hfw := hO.few
  have CN := Lib.hid (fun W => named5 to hl2 W)
  rw [hn] at CN
  subst hsame
  have HRN := Lib.hid (show Dk.ren nm nm D.L = D.L from by unfold Dk.ren; rw [if_pos rfl])
  clear hO hI hFt hFB hB hv hvr hl hl2 hu hh hE hV hS hvn hn
  go_enter Tryz.func160, Tryz.ntmps160
  go_wp2_with fail
  with_reducible refine CF.out.mono ?_
  rintro e w1 ⟨rfl, hb⟩
  have HB1 := Lib.hid hb
  clear hb CF
  go_wp2_with fail
  with_reducible refine (CN.out _).mono ?_
  rintro e w2 ⟨rfl, rfl⟩
  go_wp2_with fail
  have HX := Lib.hid (bk_new #[.slice vo (Dk.get nm D.L).dat.length vc, .int .i64 (Dk.get nm D.L).safe] 118 w1)
  have HB2 := Lib.hid (show Below w.heap.size w (w1.alloc (.cells #[.slice vo (Dk.get nm D.L).dat.length vc, .int .i64 (Dk.get nm D.L).safe] 118)) from HB1.out.alloc HB1.out.size _)
  have HXW := Lib.hid (show w.heap.size ≤ w1.heap.size from HB1.out.size)
  generalize (w1.alloc (.cells #[.slice vo (Dk.get nm D.L).dat.length vc, .int .i64 (Dk.get nm D.L).safe] 118)) = W2 at *
  generalize w1.heap.size = X at *
  clear HB1
  have CK := Lib.hid (struck5 (HI.out.below HB2.out) HBD.out HBM.out HO.out)
  with_reducible refine CK.out.mono ?_
  rintro e W3 ⟨rfl, hR, hW3⟩
  have HRA := Lib.hid (strR_at ⟨rfl, hR, hW3⟩ HO.out HB2.out.size HBs.out HFB.out (fun b hb => .inl (HFT.out b hb)))
  have HRW := Lib.hid (strR_wr ⟨rfl, hR, hW3⟩ (wr_below HB2.out) (fun b hb => .inl (HFT.out b hb)))
  obtain ⟨V3, sv3, hI3, hV3, hV4⟩ := hR
  have HI3 := Lib.hid hI3
  have HV3 := Lib.hid hV3
  have HV4 := Lib.hid hV4
  have HW3 := Lib.hid hW3
  clear hI3 hV3 hV4 hW3 CK
  have HKP := Lib.hid (fun hq => Dk.struck_keep (D := D) hq)
  generalize hst : (Dk.struck D).1 = bb at *
  clear hst
  cases bb with
  | true =>
    go_wp2_with fail
    go_ret
    refine ⟨?_, ?_, HRW.out⟩
    · rw [HE.out]; rfl
    · rw [HE.out]; exact HRA.out
  | false =>
    have HDL := Lib.hid (HKP.out rfl).1
    go_wp2_with fail
    go_ret
    have HEQ := Lib.hid (show ({ (Dk.struck D).2 with L := Dk.ren nm nm D.L } : Dk.St) = (Dk.struck D).2 from by rw [HRN.out, ← HDL.out])
    refine ⟨?_, ?_, HRW.out⟩
    · rw [HE.out]; rfl
    · rw [HE.out]; show DkAt B (gr F w W3) d { (Dk.struck D).2 with L := Dk.ren nm nm D.L } W3; rw [HEQ.out]; exact HRA.out
set_option maxRecDepth 100000 in
set_option maxHeartbeats 4000000 in
theorem rename_ok5 (h : DkAt B F d D w) (hB : B ≤ w.heap.size) (nm to : List UInt8) (hl : nm.length ≤ 140737488351232) (hl2 : to.length ≤ 140737488351232) (hu : D.up = true) (hh : Dk.has nm D.L = true) (hn : Dk.named to = true) (hne : nm ≠ to) : Calls Tryz.prog 160 #[.pointer (some ⟨d, 0, none⟩), .string (S nm), .string (S to)] w (OpR B F d (Dk.rename nm to D) w) := by
  have HE := Lib.hid (show Dk.rename nm to D = if (Dk.struck D).1 then (51, (Dk.struck D).2) else (0, { (Dk.struck D).2 with L := Dk.ren nm to D.L }) from by unfold Dk.rename; rw [if_neg (by rw [hu]; simp), if_neg (by rw [hh]; simp), if_neg (by rw [hn]; simp)])
  obtain ⟨hO, mb, V, sv, c, hI, hFt, hFB⟩ := h
  have CF := Lib.hid (find5 ⟨hO, mb, V, sv, c, hI, hFt, hFB⟩ hI nm hl)
  have hE : fndE nm D = 0 := by unfold fndE; rw [if_neg (by rw [hu]; simp), if_neg (by rw [hh]; simp)]
  have hV : fndV V nm D = V nm := by unfold fndV; rw [hE]; rfl
  have hS : fndS nm D = (Dk.get nm D.L).safe := by unfold fndS; rw [hE]; rfl
  rw [hE, hV, hS] at CF
  obtain ⟨vo, vc, hv⟩ := row_shape5 (hI.vrow nm)
  have hvr := hI.vrow nm
  rw [hv] at hvr
  have hvn : V nm = .slice vo (Dk.get nm D.L).dat.length vc := by rw [← hv]; exact (if_pos hh).symm
  rw [hvn] at CF
  have HO := Lib.hid hO
  have HI := Lib.hid hI
  have HFT := Lib.hid hFt
  have HFB := Lib.hid hFB
  have HBs := Lib.hid hB
  have HL := Lib.hid hl
  have HVN := Lib.hid hvn
  have HHH := Lib.hid hh
  have HBD := Lib.hid (show B ≤ d from (hFB d (hFt d (.inl rfl))).1)
  have HBM := Lib.hid (show B ≤ mb from (hFB mb (hFt mb (.inr (.inl rfl)))).1)
  have hgz := Dk.get_size hO.l nm
  have hrm := hO.room
  have hms := hO.most
  have hfw := hO.few
  have CN := Lib.hid (fun W => named5 to hl2 W)
  rw [hn] at CN
  have HNE := Lib.hid hne
  have q1 : (nm == to) = false := by simpa using hne
  have q2 : (nm != to) = true := by simpa using hne
  have HNT := Lib.hid hn
  have HL2 := Lib.hid hl2
  clear hO hI hFt hFB hB hv hvr hl hl2 hu hh hE hV hS hvn hn hne
  go_enter Tryz.func160, Tryz.ntmps160
  go_wp2_with fail
  with_reducible refine CF.out.mono ?_
  rintro e w1 ⟨rfl, hb⟩
  have HB1 := Lib.hid hb
  clear hb CF
  go_wp2_with fail
  with_reducible refine (CN.out _).mono ?_
  rintro e w2 ⟨rfl, rfl⟩
  go_wp2_with fail
  have HX := Lib.hid (bk_new #[.slice vo (Dk.get nm D.L).dat.length vc, .int .i64 (Dk.get nm D.L).safe] 118 w1)
  have HB2 := Lib.hid (show Below w.heap.size w (w1.alloc (.cells #[.slice vo (Dk.get nm D.L).dat.length vc, .int .i64 (Dk.get nm D.L).safe] 118)) from HB1.out.alloc HB1.out.size _)
  have HXW := Lib.hid (show w.heap.size ≤ w1.heap.size from HB1.out.size)
  generalize (w1.alloc (.cells #[.slice vo (Dk.get nm D.L).dat.length vc, .int .i64 (Dk.get nm D.L).safe] 118)) = W2 at *
  generalize w1.heap.size = X at *
  clear HB1
  have CK := Lib.hid (struck5 (HI.out.below HB2.out) HBD.out HBM.out HO.out)
  with_reducible refine CK.out.mono ?_
  rintro e W3 ⟨rfl, hR, hW3⟩
  have HRA := Lib.hid (strR_at ⟨rfl, hR, hW3⟩ HO.out HB2.out.size HBs.out HFB.out (fun b hb => .inl (HFT.out b hb)))
  have HRW := Lib.hid (strR_wr ⟨rfl, hR, hW3⟩ (wr_below HB2.out) (fun b hb => .inl (HFT.out b hb)))
  obtain ⟨V3, sv3, hI3, hV3, hV4⟩ := hR
  have HI3 := Lib.hid hI3
  have HV3 := Lib.hid hV3
  have HV4 := Lib.hid hV4
  have HW3 := Lib.hid hW3
  clear hI3 hV3 hV4 hW3 CK
  have HKP := Lib.hid (fun hq => Dk.struck_keep (D := D) hq)
  generalize hst : (Dk.struck D).1 = bb at *
  clear hst
  cases bb with
  | true =>
    go_wp2_with fail
    go_ret
    refine ⟨?_, ?_, HRW.out⟩
    · rw [HE.out]; rfl
    · rw [HE.out]; exact HRA.out
  | false =>
    have HV5 := Lib.hid (HV4.out rfl)
    rw [HV5.out] at HI3
    clear HV4 HV5 HV3 HRA
    have HDL := Lib.hid (HKP.out rfl).1
    have HDR := Lib.hid (HKP.out rfl).2
    have HOK3 := Lib.hid (Dk.struck_ok5 HO.out)
    have HFT3 := Lib.hid (show ∀ b, Ft d mb V c (Dk.struck D).2 b → F b from fun b hb => HFT.out b (ft_struck (fun _ => rfl) hb))
    have HSZ3 := Lib.hid (show w.heap.size ≤ W3.heap.size from Nat.le_trans HB2.out.size HW3.out.size)
    have HX3 := Lib.hid (HX.out.wr HW3.out (fun hq => by
      rcases hq with e | e | ⟨h1, e⟩
      · have := HI.out.box.lt; have := HXW.out; omega
      · have := HI.out.map.lt; have := HXW.out; omega
      · have h2 := HI.out.set
        cases hs : D.set with
        | none => exact h1 hs
        | some p =>
          rw [hs] at h2
          have := h2.2.1.lt; have := HXW.out; omega))
    go_wp2_with fail
    have CD := Lib.hid (drop5 HI3.out.co HOK3.out.l (by rw [HDL.out]; omega) to HL2.out)
    with_reducible refine CD.out.mono ?_
    rintro e W4 ⟨rfl, hC, hW4⟩
    have HC4 := Lib.hid hC
    have HW4 := Lib.hid hW4
    have HX4 := Lib.hid (HX3.out.wr hW4 (fun hq => by
      have := HI.out.box.lt; have := HI.out.map.lt; have := HXW.out
      rcases hq with e | e <;> omega))
    clear hC hW4 CD
    have m2 : W4.cell? ⟨d, 2, none⟩ = some (.map (some mb)) := HC4.out.box.cell 2
    have HM4 := Lib.hid HC4.out.map
    go_wp2_with (at_delete; refine wpList_delete_own _ rfl _ _ 49 9 rfl 118 law5 Tryz.underlying49 heldR mb _ _ rfl HM4.out _ _ rfl (key5 HL.out) ?_; intro w6 hm6 ht6; rw [datM_del] at hm6; have HM6 := Lib.hid hm6; have HT6 := Lib.hid ht6; clear hm6 ht6)
    have HX6 := Lib.hid (HX4.out.wr (wr_turned (A := fun q => q = mb) HT6.out rfl) (fun e => map_bk5 HC4.out.map HX4.out e.symm))
    have HB6 := Lib.hid (HC4.out.box.wr (wr_turned (A := fun q => q = mb) HT6.out rfl) (fun e => HC4.out.ne e.symm))
    have HS2 := Lib.hid (show w6.cell? ⟨d, 2, none⟩ = some (.map (some mb)) from HB6.out.cell 2)
    have HS0 := Lib.hid (show w6.cell? ⟨X, 0, none⟩ = some (.slice vo (Dk.get nm D.L).dat.length vc) from HX6.out.cell 0)
    have HS1 := Lib.hid (show w6.cell? ⟨X, 1, none⟩ = some (.int .i64 (Dk.get nm D.L).safe) from HX6.out.cell 1)
    refine wp_region_Z (S := fun V => V.cell? ⟨d, 2, none⟩ = some (.map (some mb)) ∧ V.cell? ⟨X, 0, none⟩ = some (.slice vo (Dk.get nm D.L).dat.length vc) ∧ V.cell? ⟨X, 1, none⟩ = some (.int .i64 (Dk.get nm D.L).safe)) 6 (by kernel_rfl) ?_ (fun hHeld => ?_)
    · exact ⟨HS2.out, HS0.out, HS1.out⟩
    have HM7 := Lib.hid HM6.out.drew
    have HW7 := Lib.hid (show Wr (fun _ => False) w6 w6.drew from (Wr.refl _ _).drew)
    obtain ⟨W7, hW7⟩ : ∃ x, x = World.drew w6 := ⟨_, rfl⟩
    rw [← hW7] at HM7 HW7 hHeld ⊢
    clear hW7 m2
    have HLEN := Lib.hid (show (Dk.del to (Dk.struck D).2.L).length ≤ 100000 from by have h1 := Dk.len_del (nm := to) HOK3.out.l.ne; have h2 := HOK3.out.few; omega)
    refine wpAnyZ_takeY (i := 0) (oi := { dst := some 34, op := Op.move (Operand.tmp 0), type := 24, pos := "disk.go:115", after := #[], guard := none }) (v := ?_) rfl (by kernel_rfl) (by kernel_rfl) (by kernel_rfl) (by rfl) (fun _ _ _ h => h) (Or.inl ⟨by rfl, ?_⟩) (by assumption) ?_
    rotate_left
    · (intro w; go_simp); (first | done | with_reducible rfl)
    try simp only [Act.put, List.setIfInBounds_toArray, List.set_cons_zero, List.set_cons_succ]
    refine wpAnyZ_takeY (i := 1) (oi := { dst := some 35, op := Op.nilCheck (Operand.tmp 34), type := 0, pos := "disk.go:115", after := #[{ on := 0, ground := Ground.data }], guard := none }) (v := ?_) rfl (by kernel_rfl) (by kernel_rfl) (by kernel_rfl) (by rfl) (fun _ _ _ h => h) (Or.inl ⟨by rfl, ?_⟩) (by assumption) ?_
    rotate_left
    · (intro w; go_simp); (first | done | with_reducible rfl)
    try simp only [Act.put, List.setIfInBounds_toArray, List.set_cons_zero, List.set_cons_succ]
    refine wpAnyZ_takeY (i := 2) (oi := { dst := some 36, op := Op.fieldAddr 51 (Operand.tmp 35) 2, type := 0, pos := "disk.go:115", after := #[{ on := 1, ground := Ground.data }], guard := none }) (v := ?_) rfl (by kernel_rfl) (by kernel_rfl) (by kernel_rfl) (by rfl) (fun _ _ _ h => h) (Or.inl ⟨by rfl, ?_⟩) (by assumption) ?_
    rotate_left
    · (intro w; go_simp); (first | done | with_reducible rfl)
    try simp only [Act.put, List.setIfInBounds_toArray, List.set_cons_zero, List.set_cons_succ]
    refine wpAnyZ_take (i := 3) (oi := { dst := some 37, op := Op.load 49 (Operand.tmp 36), type := 49, pos := "disk.go:115", after := #[{ on := 2, ground := Ground.data }], guard := none }) (v := ?_) [6] rfl (by kernel_rfl) (by kernel_rfl) (by kernel_rfl) (by kernel_rfl) (fun _ _ _ h => h) (Or.inl ⟨by rfl, ?_⟩) (by assumption) ?_
    rotate_left
    · (intro w hSw; (try dsimp only at hSw); go_simp); (first | done | with_reducible rfl)
    try simp only [Act.put, List.setIfInBounds_toArray, List.set_cons_zero, List.set_cons_succ]
    refine wpAnyZ_takeY (i := 4) (oi := { dst := some 38, op := Op.move (Operand.tmp 2), type := 9, pos := "disk.go:115", after := #[], guard := none }) (v := ?_) rfl (by kernel_rfl) (by kernel_rfl) (by kernel_rfl) (by rfl) (fun _ _ _ h => h) (Or.inl ⟨by rfl, ?_⟩) (by assumption) ?_
    rotate_left
    · (intro w; go_simp); (first | done | with_reducible rfl)
    try simp only [Act.put, List.setIfInBounds_toArray, List.set_cons_zero, List.set_cons_succ]
    refine wpAnyZ_take (i := 5) (oi := { dst := some 39, op := Op.load 118 (Operand.tmp 7), type := 118, pos := "disk.go:115", after := #[], guard := none }) (v := ?_) [6] rfl (by kernel_rfl) (by kernel_rfl) (by kernel_rfl) (by kernel_rfl) (fun _ _ _ h => h) (Or.inl ⟨by rfl, ?_⟩) (by assumption) ?_
    rotate_left
    · (intro w hSw; (try dsimp only at hSw); go_simp); (first | done | with_reducible rfl)
    try simp only [Act.put, List.setIfInBounds_toArray, List.set_cons_zero, List.set_cons_succ]
    refine wpAnyZ_ready (rs := [6]) (by kernel_rfl) (by simp) ?_
    refine AllReadyZ.last (o := { dst := none, op := Op.mapUpdate 49 (Operand.tmp 37) (Operand.tmp 38) (Operand.tmp 39), type := 0, pos := "disk.go:115", after := #[{ on := 3, ground := Ground.data }, { on := 4, ground := Ground.data }, { on := 5, ground := Ground.data }, { on := 0, ground := Ground.phase }, { on := 1, ground := Ground.phase }, { on := 2, ground := Ground.phase }, { on := 3, ground := Ground.phase }, { on := 4, ground := Ground.phase }, { on := 5, ground := Ground.phase }], guard := none }) rfl (fun K hK => ?_) AllReadyZ.nil
    refine step_put5 (f := (⟨to, (Dk.get nm D.L).dat, (Dk.get nm D.L).safe⟩ : Dk.Fl)) (u := .slice vo (Dk.get nm D.L).dat.length vc) (by rfl) _ _ _ (by rfl) (by rfl) (by rfl) (by rfl) HM7.out HLEN.out HL2.out ?_
    intro w8 hm8 ht8
    refine hK.out _ _ ?_
    clear hK K
    refine wpAny_done (by kernel_rfl) ?_ _
    have hm9 := hm8
    simp only [HDL.out] at hm9
    have HFIN := Lib.hid (rename_asm5 HI3.out HOK3.out HDL.out HNE.out HVN.out HHH.out HNT.out HC4.out HW4.out HT6.out HW7.out ht8 hm9 HSZ3.out HBs.out HFB.out HFT3.out HRW.out)
    clear hm8 hm9 ht8 hHeld
    go_wp2_with fail
    go_ret
    refine ⟨?_, ?_, HFIN.out.2⟩
    · rw [HE.out]; rfl
    · rw [HE.out]; exact HFIN.out.1
theorem rename5 (h : DkAt B F d D w) (hB : B ≤ w.heap.size) (nm to : List UInt8) (hl : nm.length ≤ 140737488351232) (hl2 : to.length ≤ 140737488351232) : Calls Tryz.prog 160 #[.pointer (some ⟨d, 0, none⟩), .string (S nm), .string (S to)] w (OpR B F d (Dk.rename nm to D) w) := by
  cases hu : D.up with
  | false => exact rename_down5 h hB nm to hl hl2 hu
  | true =>
    cases hh : Dk.has nm D.L with
    | false => exact rename_none5 h hB nm to hl hl2 hu hh
    | true =>
      cases hn : Dk.named to with
      | false => exact rename_bad5 h hB nm to hl hl2 hu hh hn
      | true =>
        by_cases e : nm = to
        · exact rename_same5 h hB nm to hl hl2 hu hh hn e
        · exact rename_ok5 h hB nm to hl hl2 hu hh hn e
end

end Go.Proofs.YtmammmjmipgmoaaGreatDoor

/- Layer 5: Crash, Fail, Start. -/
namespace Go.Proofs.YtmammmjmipgmoaaGreatDoor
set_option linter.unusedVariables false
open Go Go.RowKit Go.Maps

def CloneN (ks : List Int) (w : World) (e : Ending) (w' : World) : Prop := ∃ ao cap, e = .returned (.slice ao ks.length cap) ∧ w'.ownsRow w.heap.size 3 1 (.slice ao ks.length cap) ks.length (ks.map (Value.int .i64)) ∧ Below w.heap.size w w'
theorem clone5 (ks : List Int) (ao : Option Addr) (cap : Nat) (hk : ks.length ≤ 1000000) (w : World) (h : NsA5 w ao ks) : Calls Tryz.prog 80 #[.slice ao ks.length cap] w (CloneN ks w) := by
  by_cases hn : ks = []
  · subst hn
    cases ao with
    | none =>
      refine (Tryz.slices_Clone_int_nil 0 cap w).mono ?_
      rintro e w' ⟨rfl, rfl⟩
      exact ⟨none, 0, rfl, World.ownsRow_nil _ _ _ _, Below.refl _ _⟩
    | some a =>
      refine (Tryz.slices_Clone_int_zero a cap w).mono ?_
      rintro e w' ⟨v, rfl, hr, _, hb⟩
      obtain ⟨ao', ac, rfl⟩ := row_shape5 hr
      exact ⟨ao', ac, rfl, hr, hb⟩
  · obtain ⟨g, off, rfl, hc⟩ := h hn
    refine (Tryz.slices_Clone_int g off ks.length cap ks w (Nat.le_refl _) (by omega) hc).mono ?_
    rintro e w' ⟨v, rfl, hr, _, hb⟩
    rw [List.take_length] at hr
    obtain ⟨ao', ac, rfl⟩ := row_shape5 hr
    exact ⟨ao', ac, rfl, hr, hb⟩
section
variable {B d mb : Nat} {V : List UInt8 → Value} {sv : Value} {c : Cs} {D : Dk.St} {w : World} {F : Nat → Prop}
set_option maxRecDepth 100000 in
theorem crash_down5 (h : DkAt B F d D w) (hB : B ≤ w.heap.size) (ks : List Int) (ao : Option Addr) (cap : Nat) (hu : D.up = false) : Calls Tryz.prog 27 #[.pointer (some ⟨d, 0, none⟩), .slice ao ks.length cap] w (OpR B F d (Dk.crash ks D) w) := by
  have CS := Lib.hid (state5 h)
  have HR := Lib.hid (show OpR B F d (Dk.crash ks D) w (.returned (.int .i64 51)) w from by
    have e : Dk.crash ks D = (51, D) := by unfold Dk.crash; rw [if_pos hu]
    rw [e]; exact opR_same h hB (Below.refl _ _) 51)
  have hst : stE D = 51 := by unfold stE; rw [hu]; rfl
  rw [hst] at CS
  clear h hB hu hst
  go_enter Tryz.func27, Tryz.ntmps27
  go_wp2_with fail
  with_reducible refine CS.out.mono ?_
  rintro e w1 ⟨rfl, rfl⟩
  go_wp2_with fail
  go_ret
  exact HR.out
set_option maxRecDepth 100000 in
theorem crash_up5 (h : DkAt B F d D w) (hB : B ≤ w.heap.size) (ks : List Int) (ao : Option Addr) (cap : Nat) (hK : Dk.KsOk ks) (hk : NsA5 w ao ks) (hkF : ∀ a, ks ≠ [] → ao = some a → ¬ F a.block) (hu : D.up = true) : Calls Tryz.prog 27 #[.pointer (some ⟨d, 0, none⟩), .slice ao ks.length cap] w (OpR B F d (Dk.crash ks D) w) := by
  have CS := Lib.hid (state5 h)
  have HE := Lib.hid (show Dk.crash ks D = (0, Dk.fall ks D) from by unfold Dk.crash; rw [if_neg (by rw [hu]; simp)])
  have hst : stE D = 0 := by unfold stE; rw [hu]; rfl
  rw [hst] at CS
  obtain ⟨hO, mb, V, sv, c, hI, hFt, hFB⟩ := h
  have CF := Lib.hid (fall5 hI.co (hFB d (hFt d (.inl rfl))).1 (hFB mb (hFt mb (.inr (.inl rfl)))).1 hO.l hO.room hO.most hO.few ks ao cap hK hk (fun a hn ha e => hkF a hn ha (e ▸ hFt d (.inl rfl))))
  have HF := Lib.hid (show ∀ w' V', DkCo B d mb V' .nilFunc (Dk.fall ks D) w' → (∀ nm, (V' nm).ownBlock = (V nm).ownBlock) → Wr (fun q => q = d ∨ q = mb) w w' → OpR B F d (0, Dk.fall ks D) w (.returned (.int .i64 0)) w' from fun w' V' hC hV hW =>
    ⟨rfl, (hC.in (c := c) rfl).at (Dk.fall_ok5 hO ks) hW.size hB hFB (fun b hb => .inl (by
      rcases hb with e | e | ⟨f, hf, hq⟩ | ⟨hn, _⟩
      · exact hFt _ (.inl e)
      · exact hFt _ (.inr (.inl e))
      · rw [hV] at hq
        obtain ⟨g, hg, kk, rfl⟩ := Dk.mem_cut hf
        exact hFt _ (.inr (.inr (.inl ⟨g, hg, hq⟩)))
      · exact absurd rfl hn)), hW.mono (fun x hx => .inl (hFt x (hx.elim .inl (fun e => .inr (.inl e)))))⟩)
  clear hO hI hFt hFB hB hu hst hK hk hkF
  go_enter Tryz.func27, Tryz.ntmps27
  go_wp2_with fail
  with_reducible refine CS.out.mono ?_
  rintro e w1 ⟨rfl, rfl⟩
  go_wp2_with fail
  with_reducible refine CF.out.mono ?_
  rintro e w2 ⟨rfl, ⟨V', hC, hV⟩, hW⟩
  have HR := Lib.hid (HF.out _ _ hC hV hW)
  clear hC hV hW
  go_wp2_with fail
  go_ret
  rw [HE.out]
  exact HR.out
theorem crash5 (h : DkAt B F d D w) (hB : B ≤ w.heap.size) (ks : List Int) (ao : Option Addr) (cap : Nat) (hK : Dk.KsOk ks) (hk : NsA5 w ao ks) (hkF : ∀ a, ks ≠ [] → ao = some a → ¬ F a.block) : Calls Tryz.prog 27 #[.pointer (some ⟨d, 0, none⟩), .slice ao ks.length cap] w (OpR B F d (Dk.crash ks D) w) := by
  cases hu : D.up with
  | false => exact crash_down5 h hB ks ao cap hu
  | true => exact crash_up5 h hB ks ao cap hK hk hkF hu
theorem Dk.start_ok5 {D : Dk.St} (h : Dk.Ok D) (hu : D.up = false) : Dk.Ok { D with up := true, starts := D.starts + 1 } := ⟨h.l, h.few, h.room, h.most, h.n, (fun hd => by cases hd), h.k⟩
set_option maxRecDepth 100000 in
theorem start5 (h : DkAt B F d D w) (hB : B ≤ w.heap.size) (hs : D.starts ≤ 1000000000) : Calls Tryz.prog 31 #[.pointer (some ⟨d, 0, none⟩)] w (OpR B F d (Dk.start D) w) := by
  have CN := Lib.hid (none5 h)
  cases hu : D.up with
  | true =>
    have HR := Lib.hid (show OpR B F d (Dk.start D) w (.returned (.int .i64 2)) w from by
      have e : Dk.start D = (2, D) := by unfold Dk.start; rw [if_pos hu]
      rw [e]; exact opR_same h hB (Below.refl _ _) 2)
    obtain ⟨mb, V, sv, c, hI⟩ := h.in
    have c3 : w.cell? ⟨d, 3, none⟩ = some (.bool true) := by rw [hI.box.cell 3, ← hu]; rfl
    clear h hB hI hu
    go_enter Tryz.func31, Tryz.ntmps31
    go_wp2_with fail
    with_reducible refine CN.out.mono ?_
    rintro e w1 ⟨rfl, rfl⟩
    go_wp2_with fail
    go_ret
    exact HR.out
  | false =>
    have HE := Lib.hid (show Dk.start D = (0, { D with up := true, starts := D.starts + 1 }) from by unfold Dk.start; rw [if_neg (by rw [hu]; simp)])
    obtain ⟨hO, mb, V, sv, c, hI, hFt, hFB⟩ := h
    have c3 : w.cell? ⟨d, 3, none⟩ = some (.bool false) := by rw [hI.box.cell 3, ← hu]; rfl
    have c4 : w.cell? ⟨d, 4, none⟩ = some (.int .i64 D.starts) := hI.box.cell 4
    have cf : ∀ j, w.frozen? ⟨d, j, none⟩ = false := fun j => hI.box.free j
    have HF := Lib.hid (show OpR B F d (0, { D with up := true, starts := D.starts + 1 }) w (.returned (.int .i64 0)) ((w.setCell ⟨d, 3, none⟩ (.bool true)).setCell ⟨d, 4, none⟩ (.int .i64 ((D.starts : Int) + 1))) from by
      have hw : Wr (fun q => q = d) w ((w.setCell ⟨d, 3, none⟩ (.bool true)).setCell ⟨d, 4, none⟩ (.int .i64 ((D.starts : Int) + 1))) := (wr_set (A := fun q => q = d) _ _ _ rfl).trans (wr_set (A := fun q => q = d) _ _ _ rfl)
      have hb := (hI.box.set 3 (.bool true)).set 4 (.int .i64 ((D.starts : Int) + 1))
      have hset : SetAt B d sv c ((w.setCell ⟨d, 3, none⟩ (.bool true)).setCell ⟨d, 4, none⟩ (.int .i64 ((D.starts : Int) + 1))) D.set := hI.setW hw (fun q hq => .inl hq)
      have h1 : DkIn B d mb V sv c { D with up := true, starts := D.starts + 1 } ((w.setCell ⟨d, 3, none⟩ (.bool true)).setCell ⟨d, 4, none⟩ (.int .i64 ((D.starts : Int) + 1))) := (hI.co.boxed (D' := { D with up := true, starts := D.starts + 1 }) (sv' := sv) hw rfl (by exact hb)).in hset
      exact ⟨rfl, h1.at (Dk.start_ok5 hO hu) hw.size hB hFB (fun b hb => .inl (hFt b hb)), hw.mono (fun x hx => .inl (by rw [hx]; exact hFt _ (.inl rfl)))⟩)
    clear hO hI hFt hFB hB hu
    go_enter Tryz.func31, Tryz.ntmps31
    go_wp2_with fail
    with_reducible refine CN.out.mono ?_
    rintro e w1 ⟨rfl, rfl⟩
    go_wp2_with fail
    go_ret
    rw [HE.out]
    exact HF.out
set_option maxRecDepth 100000 in
theorem fail_down5 (h : DkAt B F d D w) (hB : B ≤ w.heap.size) (n : Int) (ks : List Int) (ao : Option Addr) (cap : Nat) (hu : D.up = false) : Calls Tryz.prog 29 #[.pointer (some ⟨d, 0, none⟩), .int .i64 n, .slice ao ks.length cap] w (OpR B F d (Dk.fail n ks D) w) := by
  have CS := Lib.hid (fun o o' => state5 (h.below (below_two5 w o o')))
  have HR := Lib.hid (fun w' (hb : Below w.heap.size w w') => show OpR B F d (Dk.fail n ks D) w (.returned (.int .i64 51)) w' from by
    have e : Dk.fail n ks D = (51, D) := by unfold Dk.fail; rw [if_pos hu]
    rw [e]; exact opR_same h hB hb 51)
  have hst : stE D = 51 := by unfold stE; rw [hu]; rfl
  rw [hst] at CS
  clear h hB hu hst
  go_enter Tryz.func29, Tryz.ntmps29
  go_wp2_with fail
  with_reducible refine (CS.out _ _).mono ?_
  rintro e w1 ⟨rfl, rfl⟩
  go_wp2_with fail
  go_ret
  exact HR.out _ (below_two5 _ _ _)
set_option maxRecDepth 100000 in
theorem fail_bad5 (h : DkAt B F d D w) (hB : B ≤ w.heap.size) (n : Int) (ks : List Int) (ao : Option Addr) (cap : Nat) (hu : D.up = true) (hn : n < 0) : Calls Tryz.prog 29 #[.pointer (some ⟨d, 0, none⟩), .int .i64 n, .slice ao ks.length cap] w (OpR B F d (Dk.fail n ks D) w) := by
  have CS := Lib.hid (fun o o' => state5 (h.below (below_two5 w o o')))
  have HR := Lib.hid (fun w' (hb : Below w.heap.size w w') => show OpR B F d (Dk.fail n ks D) w (.returned (.int .i64 2)) w' from by
    have e : Dk.fail n ks D = (2, D) := by unfold Dk.fail; rw [if_neg (by rw [hu]; simp), if_pos hn]
    rw [e]; exact opR_same h hB hb 2)
  have hst : stE D = 0 := by unfold stE; rw [hu]; rfl
  rw [hst] at CS
  have d1 : decide (n < 0) = true := by simpa using hn
  clear h hB hu hst hn
  go_enter Tryz.func29, Tryz.ntmps29
  go_wp2_with fail
  with_reducible refine (CS.out _ _).mono ?_
  rintro e w1 ⟨rfl, rfl⟩
  go_wp2_with fail
  go_ret
  exact HR.out _ (below_two5 _ _ _)
theorem Dk.fail_ok5 {D : Dk.St} (h : Dk.Ok D) (hu : D.up = true) {n : Nat} {ks : List Int} (hn : (n : Int) ≤ 9223372036854775807) (hK : Dk.KsOk ks) : Dk.Ok { D with set := some (n, ks) } :=
  ⟨h.l, h.few, h.room, h.most, (fun p hp => by cases hp; exact hn), (fun hd => by rw [show ({ D with set := some (n, ks) } : Dk.St).up = D.up from rfl, hu] at hd; cases hd), fun p hp => by cases hp; exact hK⟩
/-- What a Fail leaves in memory. -/
theorem fail_asm5 (hI : DkIn B d mb V sv c D w) (hO : Dk.Ok D) (hu : D.up = true) (hB : B ≤ w.heap.size) (hFt : ∀ b, Ft d mb V c D b → F b) (hFB : ∀ b, F b → B ≤ b ∧ b < w.heap.size) {n : Nat} {ks : List Int} {ao : Option Addr} {cap : Nat} {w2 w3 : World} (hn : (n : Int) ≤ 9223372036854775807) (hK : Dk.KsOk ks)
    (hw2 : w2 = (w.alloc (.cells #[.pointer (some ⟨d, 0, none⟩)] 24)).alloc (.cells #[.int .i64 n] 3)) (hrow : w3.ownsRow w2.heap.size 3 1 (.slice ao ks.length cap) ks.length (ks.map (Value.int .i64))) (hb3 : Below w2.heap.size w2 w3) :
    OpR B F d (0, { D with set := some (n, ks) }) w (.returned (.int .i64 0)) ((w3.alloc (.cells #[.slice ao ks.length cap] 40)).setCell ⟨d, 5, none⟩ (csV ⟨w.heap.size + 1, w.heap.size, w3.heap.size, ao, cap⟩)) := by
  have hs2 : w2.heap.size = w.heap.size + 2 := by rw [hw2, sz5, sz5]
  have hb2 : Below w.heap.size w w2 := by rw [hw2]; exact below_two5 w _ _
  have hb4 : Below w.heap.size w (w3.alloc (.cells #[.slice ao ks.length cap] 40)) := (below_step hb2 hb3).alloc (below_step hb2 hb3).size _
  have hdl := hI.box.lt
  have hw5 : Wr (fun q => q = d) (w3.alloc (.cells #[.slice ao ks.length cap] 40)) ((w3.alloc (.cells #[.slice ao ks.length cap] 40)).setCell ⟨d, 5, none⟩ (csV ⟨w.heap.size + 1, w.heap.size, w3.heap.size, ao, cap⟩)) := wr_set _ _ _ rfl
  have hw : Wr (fun q => q = d) w ((w3.alloc (.cells #[.slice ao ks.length cap] 40)).setCell ⟨d, 5, none⟩ (csV ⟨w.heap.size + 1, w.heap.size, w3.heap.size, ao, cap⟩)) := (wr_below hb4).step hw5 (fun x hx => .inl hx)
  have n2 : Bk #[.int .i64 n] 3 w2 (w.heap.size + 1) := by
    have := bk_new #[.int .i64 n] 3 (w.alloc (.cells #[.pointer (some ⟨d, 0, none⟩)] 24))
    rw [sz5] at this
    rw [hw2]; exact this
  have p2 : Bk #[.pointer (some ⟨d, 0, none⟩)] 24 w2 w.heap.size := by rw [hw2]; exact (bk_new _ _ _).more _
  have k4 : Bk #[.slice ao ks.length cap] 40 (w3.alloc (.cells #[.slice ao ks.length cap] 40)) w3.heap.size := bk_new _ _ _
  have n4 := (n2.below hb3).more (.cells #[.slice ao ks.length cap] 40)
  have p4 := (p2.below hb3).more (.cells #[.slice ao ks.length cap] 40)
  have hsz3 : w.heap.size + 2 ≤ w3.heap.size := by have := hb3.size; omega
  have r4 := row_below5 hrow ((Below.refl _ _).alloc (Nat.le_refl _) (.cells #[.slice ao ks.length cap] 40))
  have hco := (hI.co.below hb4)
  have hbox := hco.box.set 5 (csV ⟨w.heap.size + 1, w.heap.size, w3.heap.size, ao, cap⟩)
  have h1 := hco.boxed (D' := { D with set := some (n, ks) }) (sv' := csV ⟨w.heap.size + 1, w.heap.size, w3.heap.size, ao, cap⟩) hw5 rfl (by exact hbox)
  have hrb : ∀ q, (Value.slice ao ks.length cap).ownBlock = some q → w.heap.size + 2 ≤ q := fun q hq => by have := (hrow.lt q hq).1; omega
  have h2 : DkIn B d mb V (csV ⟨w.heap.size + 1, w.heap.size, w3.heap.size, ao, cap⟩) ⟨w.heap.size + 1, w.heap.size, w3.heap.size, ao, cap⟩ { D with set := some (n, ks) } _ := h1.in (by
    refine ⟨rfl, n4.wr hw5 (fun e => by have e' : w.heap.size + 1 = d := e; omega), p4.wr hw5 (fun e => by have e' : w.heap.size = d := e; omega), ?_, fun _ => row_wr (row_base5 r4 (by omega)) hw5 (fun q hq => by have := hrb q hq; omega), fun a hn' ha => ?_⟩
    · exact k4.wr hw5 (fun e => by have e' : w3.heap.size = d := e; omega)
    · have := hrb a.block (by rw [show ao = some a from ha]; rfl)
      simp only; omega)
  refine ⟨rfl, h2.at (Dk.fail_ok5 hO hu hn hK) hw.size hB hFB (fun b hb => ?_), hw.mono (fun x hx => .inl (by rw [hx]; exact hFt _ (.inl rfl)))⟩
  rcases hb with e | e | ⟨f, hf, hq⟩ | ⟨_, hx⟩
  · exact .inl (hFt _ (.inl e))
  · exact .inl (hFt _ (.inr (.inl e)))
  · exact .inl (hFt _ (.inr (.inr (.inl ⟨f, hf, hq⟩))))
  · refine .inr ?_
    rcases hx with e | e | e | ⟨a, p, hp, hne, ha, e⟩
    · rw [e]; simp only; omega
    · rw [e]; exact Nat.le_refl _
    · rw [e]; simp only; omega
    · have := hrb a.block (by rw [show ao = some a from ha]; rfl)
      omega
set_option maxRecDepth 100000 in
set_option maxHeartbeats 1000000 in
theorem fail_up5 (h : DkAt B F d D w) (hB : B ≤ w.heap.size) (n : Nat) (ks : List Int) (ao : Option Addr) (cap : Nat) (hn : (n : Int) ≤ 9223372036854775807) (hK : Dk.KsOk ks) (hk : NsA5 w ao ks) (hu : D.up = true) : Calls Tryz.prog 29 #[.pointer (some ⟨d, 0, none⟩), .int .i64 n, .slice ao ks.length cap] w (OpR B F d (Dk.fail n ks D) w) := by
  have CS := Lib.hid (fun o o' => state5 (h.below (below_two5 w o o')))
  have CC := Lib.hid (fun o o' => clone5 ks ao cap hK.len ((w.alloc o).alloc o') (hk.below (below_two5 w o o')))
  have HE := Lib.hid (show Dk.fail n ks D = (0, { D with set := some (n, ks) }) from by unfold Dk.fail; rw [if_neg (by rw [hu]; simp), if_neg (by omega)]; rfl)
  have hst : stE D = 0 := by unfold stE; rw [hu]; rfl
  rw [hst] at CS
  obtain ⟨hO, mb, V, sv, c, hI, hFt, hFB⟩ := h
  have HA := Lib.hid (fun ao' cap' w3 => fail_asm5 (ao := ao') (cap := cap') (w3 := w3) hI hO hu hB hFt hFB hn hK rfl)
  have HX := Lib.hid hI
  have HDL := Lib.hid hI.box.lt
  have d1 : decide ((n : Int) < 0) = false := by simp
  clear hO hI hFt hFB hB hu hst hK hk
  go_enter Tryz.func29, Tryz.ntmps29
  go_wp2_with fail
  with_reducible refine (CS.out _ _).mono ?_
  rintro e w1 ⟨rfl, rfl⟩
  go_wp2_with fail
  with_reducible refine (CC.out _ _).mono ?_
  rintro e w3 ⟨ao', cap', rfl, hrow, hb3⟩
  have HAS := Lib.hid (HA.out _ _ _ hrow hb3)
  have hX3 : Bk (dkC D mb sv) 51 w3 d := (HX.out.box.below (below_two5 w _ _)).below hb3
  have hp3 : Bk #[.pointer (some ⟨d, 0, none⟩)] 24 w3 w.heap.size := ((bk_new _ _ _).more _).below hb3
  have x5 : ∀ o, (w3.alloc o).cell? ⟨d, 5, none⟩ = some sv := fun o => (hX3.more o).cell 5
  have xf : ∀ o j, (w3.alloc o).frozen? ⟨d, j, none⟩ = false := fun o j => (hX3.more o).free j
  have p0 : ∀ o, (w3.alloc o).cell? ⟨w.heap.size, 0, none⟩ = some (.pointer (some ⟨d, 0, none⟩)) := fun o => (hp3.more o).cell 0
  clear hrow hb3 hX3 hp3 HA
  go_wp2_with fail
  go_ret
  rw [HE.out]
  exact HAS.out
theorem fail5 (h : DkAt B F d D w) (hB : B ≤ w.heap.size) (n : Int) (ks : List Int) (ao : Option Addr) (cap : Nat) (hn : n ≤ 9223372036854775807) (hK : Dk.KsOk ks) (hk : NsA5 w ao ks) : Calls Tryz.prog 29 #[.pointer (some ⟨d, 0, none⟩), .int .i64 n, .slice ao ks.length cap] w (OpR B F d (Dk.fail n ks D) w) := by
  cases hu : D.up with
  | false => exact fail_down5 h hB n ks ao cap hu
  | true =>
    by_cases h0 : n < 0
    · exact fail_bad5 h hB n ks ao cap hu h0
    · obtain ⟨m, rfl⟩ := Int.eq_ofNat_of_zero_le (Int.not_lt.1 h0)
      exact fail_up5 h hB m ks ao cap hn hK hk hu
end

end Go.Proofs.YtmammmjmipgmoaaGreatDoor

/- Layer 5: a disk beside blocks that it may not write; acts. -/
namespace Go.Proofs.YtmammmjmipgmoaaGreatDoor
set_option linter.unusedVariables false
open Go Go.RowKit Go.Maps

/-- A disk that has none of some blocks. -/
def DkX (X : Nat → Prop) (B d : Nat) (D : Dk.St) (w : World) : Prop := ∃ F, DkAt B F d D w ∧ ∀ k, F k → ¬ X k
def OpX (X : Nat → Prop) (B d : Nat) (r : Int × Dk.St) (w : World) (e : Ending) (w' : World) : Prop := e = .returned (.int .i64 r.1) ∧ DkX X B d r.2 w' ∧ Wr (fun k => B ≤ k ∧ ¬ X k) w w'
section
variable {X : Nat → Prop} {B d : Nat} {D : Dk.St} {w w' : World}
theorem DkX.below (h : DkX X B d D w) (hb : Below w.heap.size w w') : DkX X B d D w' := by
  obtain ⟨F, h1, h2⟩ := h
  exact ⟨F, h1.below hb, h2⟩
theorem DkX.more {X' : Nat → Prop} (h : DkX X B d D w) (hX : ∀ k, X' k → X k ∨ w.heap.size ≤ k) : DkX X' B d D w := by
  obtain ⟨F, h1, h2⟩ := h
  refine ⟨F, h1, fun k hk hx => ?_⟩
  rcases hX k hx with q | q
  · exact h2 k hk q
  · obtain ⟨_, _, _, _, _, _, _, h3⟩ := h1
    have := (h3 k hk).2
    omega
theorem DkX.ok (h : DkX X B d D w) : Dk.Ok D := by obtain ⟨F, h1, _⟩ := h; exact h1.ok
theorem DkX.wr {A : Nat → Prop} (h : DkX X B d D w) (hw : Wr A w w') (hA : ∀ k, A k → X k) : DkX X B d D w' := by
  obtain ⟨F, h1, h2⟩ := h
  exact ⟨F, h1.wr hw (fun b hb ha => h2 b hb (hA b ha)), h2⟩
theorem opX_of {F : Nat → Prop} {r : Int × Dk.St} {e : Ending} (h : DkAt B F d D w) (hF : ∀ k, F k → ¬ X k) (hX : ∀ k, X k → k < w.heap.size) (hR : OpR B F d r w e w') : OpX X B d r w e w' := by
  obtain ⟨h1, h2, h3⟩ := hR
  obtain ⟨_, _, _, _, _, _, _, h4⟩ := h
  refine ⟨h1, ⟨_, h2, fun k hk hx => ?_⟩, h3.mono (fun k hk => .inl ⟨(h4 k hk).1, hF k hk⟩)⟩
  rcases hk with q | q
  · exact hF k q hx
  · have := hX k hx; omega
theorem appendX (h : DkX X B d D w) (hX : ∀ k, X k → k < w.heap.size) (hB : B ≤ w.heap.size) (nm s : List UInt8) (hl : nm.length ≤ 140737488351232) (hs : s.length ≤ 140737488351232) : Calls Tryz.prog 123 #[.pointer (some ⟨d, 0, none⟩), .string (S nm), .string (S s)] w (OpX X B d (Dk.append nm s D) w) := by
  obtain ⟨F, h1, h2⟩ := h
  exact (append5 h1 hB nm s hl hs).mono fun e w' hr => opX_of h1 h2 hX hr
theorem syncX (h : DkX X B d D w) (hX : ∀ k, X k → k < w.heap.size) (hB : B ≤ w.heap.size) (nm : List UInt8) (hl : nm.length ≤ 140737488351232) : Calls Tryz.prog 125 #[.pointer (some ⟨d, 0, none⟩), .string (S nm)] w (OpX X B d (Dk.sync nm D) w) := by
  obtain ⟨F, h1, h2⟩ := h
  exact (sync5 h1 hB nm hl).mono fun e w' hr => opX_of h1 h2 hX hr
theorem removeX (h : DkX X B d D w) (hX : ∀ k, X k → k < w.heap.size) (hB : B ≤ w.heap.size) (nm : List UInt8) (hl : nm.length ≤ 140737488351232) : Calls Tryz.prog 75 #[.pointer (some ⟨d, 0, none⟩), .string (S nm)] w (OpX X B d (Dk.remove nm D) w) := by
  obtain ⟨F, h1, h2⟩ := h
  exact (remove5 h1 hB nm hl).mono fun e w' hr => opX_of h1 h2 hX hr
theorem renameX (h : DkX X B d D w) (hX : ∀ k, X k → k < w.heap.size) (hB : B ≤ w.heap.size) (nm to : List UInt8) (hl : nm.length ≤ 140737488351232) (hl2 : to.length ≤ 140737488351232) : Calls Tryz.prog 160 #[.pointer (some ⟨d, 0, none⟩), .string (S nm), .string (S to)] w (OpX X B d (Dk.rename nm to D) w) := by
  obtain ⟨F, h1, h2⟩ := h
  exact (rename5 h1 hB nm to hl hl2).mono fun e w' hr => opX_of h1 h2 hX hr
theorem crashX (h : DkX X B d D w) (hX : ∀ k, X k → k < w.heap.size) (hB : B ≤ w.heap.size) (ks : List Int) (ao : Option Addr) (cap : Nat) (hK : Dk.KsOk ks) (hk : NsA5 w ao ks) (hkX : ∀ a, ks ≠ [] → ao = some a → X a.block ∨ a.block < B) : Calls Tryz.prog 27 #[.pointer (some ⟨d, 0, none⟩), .slice ao ks.length cap] w (OpX X B d (Dk.crash ks D) w) := by
  obtain ⟨F, h1, h2⟩ := h
  have h4 := h1.2
  obtain ⟨_, _, _, _, _, _, h3⟩ := h4
  refine (crash5 h1 hB ks ao cap hK hk (fun a hn ha hf => ?_)).mono fun e w' hr => opX_of h1 h2 hX hr
  rcases hkX a hn ha with q | q
  · exact h2 _ hf q
  · have := (h3 _ hf).1; omega
theorem failX (h : DkX X B d D w) (hX : ∀ k, X k → k < w.heap.size) (hB : B ≤ w.heap.size) (n : Int) (ks : List Int) (ao : Option Addr) (cap : Nat) (hn : n ≤ 9223372036854775807) (hK : Dk.KsOk ks) (hk : NsA5 w ao ks) : Calls Tryz.prog 29 #[.pointer (some ⟨d, 0, none⟩), .int .i64 n, .slice ao ks.length cap] w (OpX X B d (Dk.fail n ks D) w) := by
  obtain ⟨F, h1, h2⟩ := h
  exact (fail5 h1 hB n ks ao cap hn hK hk).mono fun e w' hr => opX_of h1 h2 hX hr
theorem startX (h : DkX X B d D w) (hX : ∀ k, X k → k < w.heap.size) (hB : B ≤ w.heap.size) (hs : D.starts ≤ 1000000000) : Calls Tryz.prog 31 #[.pointer (some ⟨d, 0, none⟩)] w (OpX X B d (Dk.start D) w) := by
  obtain ⟨F, h1, h2⟩ := h
  exact (start5 h1 hB hs).mono fun e w' hr => opX_of h1 h2 hX hr
theorem readX (h : DkX X B d D w) (nm : List UInt8) (hl : nm.length ≤ 140737488351232) : Calls Tryz.prog 107 #[.pointer (some ⟨d, 0, none⟩), .string (S nm)] w fun e w' => e = .returned (.tuple #[.string (S (Dk.read nm D).2), .int .i64 (Dk.read nm D).1]) ∧ Below w.heap.size w w' := by
  obtain ⟨F, h1, _⟩ := h; exact read5 h1 nm hl
theorem syncedX (h : DkX X B d D w) (nm : List UInt8) (hl : nm.length ≤ 140737488351232) : Calls Tryz.prog 77 #[.pointer (some ⟨d, 0, none⟩), .string (S nm)] w fun e w' => e = .returned (.int .i64 (Dk.get nm D.L).safe) ∧ w = w' := by
  obtain ⟨F, h1, _⟩ := h; exact synced5 h1 nm hl
theorem namesX (h : DkX X B d D w) : Calls Tryz.prog 36 #[.pointer (some ⟨d, 0, none⟩)] w (RowT (Dk.names D.L) w) := by obtain ⟨F, h1, _⟩ := h; exact names5 h1
theorem unsyncedX (h : DkX X B d D w) : Calls Tryz.prog 37 #[.pointer (some ⟨d, 0, none⟩)] w (RowN (Dk.unsynced D.L) w) := by obtain ⟨F, h1, _⟩ := h; exact unsynced5 h1
theorem upX (h : DkX X B d D w) : Calls Tryz.prog 30 #[.pointer (some ⟨d, 0, none⟩)] w fun e w' => e = .returned (.bool D.up) ∧ w = w' := by obtain ⟨F, h1, _⟩ := h; exact up5 h1
theorem startsX (h : DkX X B d D w) : Calls Tryz.prog 106 #[.pointer (some ⟨d, 0, none⟩)] w fun e w' => e = .returned (.int .i64 D.starts) ∧ w = w' := by obtain ⟨F, h1, _⟩ := h; exact starts5 h1
theorem sizeX (h : DkX X B d D w) : Calls Tryz.prog 38 #[.pointer (some ⟨d, 0, none⟩)] w fun e w' => e = .returned (.int .i64 (Dk.size D.L)) ∧ w = w' := by obtain ⟨F, h1, _⟩ := h; exact size5 h1
/-- A new disk. -/
def NewXd5 (n : Nat) (w : World) (e : Ending) (w' : World) : Prop := ∃ d, e = .returned (.tuple #[.pointer (some ⟨d, 0, none⟩), .int .i64 0]) ∧ DkX (fun _ => False) w.heap.size d (Dk.new n) w' ∧ Below w.heap.size w w' ∧ w.heap.size ≤ d
theorem newXd5 (n : Nat) (w : World) (h1 : 1 ≤ n) (h2 : n ≤ 1048576) : Calls Tryz.prog 11 #[.int .i64 n] w (NewXd5 n w) :=
  (new_yes5 n w h1 h2).mono fun e w' ⟨d, he, hk, hb⟩ => ⟨d, he, ⟨_, hk, fun _ _ q => q⟩, hb, by
    obtain ⟨_, mb, V, sv, c, _, h3, h4⟩ := hk
    exact (h4 d (h3 d (.inl rfl))).1⟩
end

/-- An act. -/
structure Ra where
  kind : Int
  name : List UInt8
  other : List UInt8
  data : List UInt8
  n : Int
  keep : List Int
  o : Option Addr
  k : Nat
def ra0 : Ra := ⟨0, [], [], [], 0, [], none, 0⟩
def Dk.act (r : Ra) (D : Dk.St) : Int × Dk.St :=
  if r.kind % 12 = 4 ∨ r.kind % 12 = 5 then Dk.sync r.name D
  else if r.kind % 12 = 6 then Dk.rename r.name r.other D
  else if r.kind % 12 = 7 then Dk.remove r.name D
  else if r.kind % 12 = 8 then Dk.crash r.keep D
  else if r.kind % 12 = 9 ∨ r.kind % 12 = 10 then Dk.start D
  else if r.kind % 12 = 11 then Dk.fail r.n r.keep D
  else Dk.append r.name r.data D
section
variable {X : Nat → Prop} {B d : Nat} {D : Dk.St} {w w' : World}
end

end Go.Proofs.YtmammmjmipgmoaaGreatDoor

/- Layer 5: SameInts, SameTexts. -/
namespace Go.Proofs.YtmammmjmipgmoaaGreatDoor
set_option linter.unusedVariables false
open Go Go.RowKit Go.Maps

/-- Texts that are to be read. -/
def TsA5 (w : World) (ao : Option Addr) (l : List (List UInt8)) : Prop := l ≠ [] → ∃ g off, ao = some ⟨g, off, none⟩ ∧ ∀ j, j < l.length → w.cell? ⟨g, off + j, none⟩ = some (.string (S (l.getD j [])))
theorem TsA5.wr {w w' : World} {ao : Option Addr} {l : List (List UInt8)} {A : Nat → Prop} (h : TsA5 w ao l) (hw : Wr A w w') (hA : ∀ a, l ≠ [] → ao = some a → ¬ A a.block) : TsA5 w' ao l := fun hn => by
  obtain ⟨g, off, e, hc⟩ := h hn
  refine ⟨g, off, e, fun j hj => ?_⟩
  have h1 := hc j hj
  rw [← h1]
  exact World.cell?_of_block (a := ⟨g, off + j, none⟩) (hw.block g (cell_lt5 h1) (hA _ hn e))
theorem TsA5.below {w w' : World} {ao : Option Addr} {l : List (List UInt8)} (h : TsA5 w ao l) (hb : Below w.heap.size w w') : TsA5 w' ao l := h.wr (A := fun _ => False) (wr_below hb) (fun _ _ _ q => q)
theorem tsA_row5 {w : World} {B : Nat} {ao : Option Addr} {cap : Nat} {l : List (List UInt8)} (h : w.ownsRow B 9 1 (.slice ao l.length cap) l.length (txs5 l)) : TsA5 w ao l := fun hn => by
  have hl : 0 < l.length := List.length_pos_iff.2 hn
  obtain ⟨g, e, _, _, _⟩ := row_at5 h hl
  refine ⟨g, 0, e, fun j hj => ?_⟩
  obtain ⟨g', e', _, _, hc⟩ := row_at5 h hj
  rw [e] at e'
  injection e' with e'
  injection e' with e'
  subst e'
  rw [Nat.zero_add, hc]
  simp [txs5, List.getD, hj]
def SameTo5 {α : Type} (z : α) (a b : List α) (k : Nat) : Prop := ∀ j, j < k → a.getD j z = b.getD j z
theorem same_all5 {α : Type} {z : α} {a b : List α} (hl : a.length = b.length) (h : SameTo5 z a b a.length) : a = b := by
  refine List.ext_getElem hl fun j h1 h2 => ?_
  have := h j h1
  simpa [List.getD, List.getElem?_eq_getElem h1, List.getElem?_eq_getElem h2] using this
set_option maxHeartbeats 1000000 in
theorem sameInts5_eq (a b : List Int) (ha : a.length ≤ 1000000) (hl : a.length = b.length) (ao bo : Option Addr) (ca cb : Nat) (w : World) (ra : NsA5 w ao a) (rb : NsA5 w bo b) :
    Calls Tryz.prog 40 #[.slice ao a.length ca, .slice bo a.length cb] w fun e w' => e = .returned (.bool (decide (a = b))) ∧ Below w.heap.size w w' := by
  have HL := Lib.hid hl
  by_cases hz : a = []
  · have hb0 : b = [] := List.length_eq_zero_iff.1 (by rw [← hl, hz]; rfl)
    have hd : decide (a = b) = true := by simp [hz, hb0]
    rw [hd]
    clear ra rb hl HL
    have hz0 : a.length = 0 := by rw [hz]; rfl
    rw [hz0]
    go_enter Tryz.func40, Tryz.ntmps40
    go_wp2_with fail
    refine wp_loop_rounds 1 ?_
    rw [rounds_succ]
    go_wp2_with fail
    go_ret
    exact ⟨rfl, Below.refl _ _⟩
  · have hzb : b ≠ [] := fun e => hz (List.length_eq_zero_iff.1 (by rw [hl, e]; rfl))
    have RA := Lib.hid ra
    have RB := Lib.hid rb
    obtain ⟨ga, oa, rfl, _⟩ := ra hz
    obtain ⟨gb, ob, rfl, _⟩ := rb hzb
    have HZ := Lib.hid hz
    have HZB := Lib.hid hzb
    clear ra rb hl hz hzb
    go_enter Tryz.func40, Tryz.ntmps40
    go_wp2_with fail
    go_loopw [5] (fun i wr => ∃ k : Nat, k ≤ a.length ∧ i = .int .i64 k ∧ SameTo5 0 a b k ∧ Below w.heap.size w wr) (fun i _ => a.length - (intOf i).toNat)
    case atStart => exact ⟨0, by omega, rfl, fun j hj => by omega, Below.refl _ _⟩
    case round =>
      obtain ⟨k, hk, rfl, hst, hb⟩ := hrel
      by_cases hka : k < a.length
      · obtain ⟨_, _, e1, xa'⟩ := (RA.out.below hb) HZ.out
        obtain ⟨_, _, e2, xb'⟩ := (RB.out.below hb) HZB.out
        injection e1 with e1; injection e1 with e1 e1'; subst e1 e1'
        injection e2 with e2; injection e2 with e2 e2'; subst e2 e2'
        have xa := xa' k hka
        have xb := xb' k (by have := HL.out; omega)
        have HS := Lib.hid hst
        clear hst xa' xb'
        by_cases he : a.getD k 0 = b.getD k 0
        · rw [← he] at xb
          have HE := Lib.hid he
          clear he
          generalize hu : a.getD k 0 = u at *
          have HU := Lib.hid hu
          clear hu
          go_wp2_with fail
          go_quiet (fail)
          go_wp2_with fail
          go_roundw
          case rel => exact ⟨k + 1, by omega, by go_num, fun j hj => by
            by_cases e : j = k
            · subst e; rw [HU.out]; exact HE.out
            · exact HS.out j (by omega), below_drewN hb _⟩
          case measure => simp [intOf]; omega
        · have hd : decide (a = b) = false := by simp; intro e; exact he (by rw [e])
          have HD := Lib.hid hd
          clear hd
          generalize a.getD k 0 = u at *
          generalize b.getD k 0 = v at *
          have huv : (u == v) = false := by simpa using he
          have huw : (u != v) = true := by simpa using he
          go_wp2_with fail
          go_quiet (fail)
          go_wp2_with fail
          go_ret
          exact ⟨ret_bool HD.out.symm, below_drewN hb _⟩
      · obtain rfl : k = a.length := by omega
        have hd : decide (a = b) = true := by simp; exact same_all5 HL.out hst
        have HD := Lib.hid hd
        clear hd
        go_wp2_with fail
        go_ret
        exact ⟨ret_bool HD.out.symm, hb⟩
theorem sameInts5_any (a b : List Int) (ha : a.length ≤ 1000000) (hb : b.length ≤ 1000000) (ao bo : Option Addr) (ca cb : Nat) (w : World) (ra : NsA5 w ao a) (rb : NsA5 w bo b) :
    Calls Tryz.prog 40 #[.slice ao a.length ca, .slice bo b.length cb] w fun e w' => e = .returned (.bool (decide (a = b))) ∧ Below w.heap.size w w' := by
  by_cases hl : a.length = b.length
  · have := sameInts5_eq a b ha hl ao bo ca cb w ra rb
    rw [← hl]
    exact this
  · have hd : decide (a = b) = false := by simp; intro e; exact hl (by rw [e])
    rw [hd]
    have d1 : ((a.length : Int) != (b.length : Int)) = true := by simp; omega
    have d2 : ((a.length : Int) == (b.length : Int)) = false := by simp; omega
    have d3 : (a.length != b.length) = true := by simpa using hl
    have d4 : (a.length == b.length) = false := by simpa using hl
    clear hl ra rb hd
    go_enter Tryz.func40, Tryz.ntmps40
    go_wp2_with fail
    go_ret
    exact ⟨rfl, Below.refl _ _⟩
set_option maxHeartbeats 1000000 in
theorem sameTexts5_eq (a b : List (List UInt8)) (ha : a.length ≤ 1000000) (hl : a.length = b.length) (ao bo : Option Addr) (ca cb : Nat) (w : World) (ra : TsA5 w ao a) (rb : TsA5 w bo b) :
    Calls Tryz.prog 39 #[.slice ao a.length ca, .slice bo a.length cb] w fun e w' => e = .returned (.bool (decide (a = b))) ∧ Below w.heap.size w w' := by
  have HL := Lib.hid hl
  by_cases hz : a = []
  · have hb0 : b = [] := List.length_eq_zero_iff.1 (by rw [← hl, hz]; rfl)
    have hd : decide (a = b) = true := by simp [hz, hb0]
    rw [hd]
    clear ra rb hl HL
    have hz0 : a.length = 0 := by rw [hz]; rfl
    rw [hz0]
    go_enter Tryz.func39, Tryz.ntmps39
    go_wp2_with fail
    refine wp_loop_rounds 1 ?_
    rw [rounds_succ]
    go_wp2_with fail
    go_ret
    exact ⟨rfl, Below.refl _ _⟩
  · have hzb : b ≠ [] := fun e => hz (List.length_eq_zero_iff.1 (by rw [hl, e]; rfl))
    have RA := Lib.hid ra
    have RB := Lib.hid rb
    obtain ⟨ga, oa, rfl, _⟩ := ra hz
    obtain ⟨gb, ob, rfl, _⟩ := rb hzb
    have HZ := Lib.hid hz
    have HZB := Lib.hid hzb
    clear ra rb hl hz hzb
    go_enter Tryz.func39, Tryz.ntmps39
    go_wp2_with fail
    go_loopw [5] (fun i wr => ∃ k : Nat, k ≤ a.length ∧ i = .int .i64 k ∧ SameTo5 [] a b k ∧ Below w.heap.size w wr) (fun i _ => a.length - (intOf i).toNat)
    case atStart => exact ⟨0, by omega, rfl, fun j hj => by omega, Below.refl _ _⟩
    case round =>
      obtain ⟨k, hk, rfl, hst, hb⟩ := hrel
      by_cases hka : k < a.length
      · obtain ⟨_, _, e1, xa'⟩ := (RA.out.below hb) HZ.out
        obtain ⟨_, _, e2, xb'⟩ := (RB.out.below hb) HZB.out
        injection e1 with e1; injection e1 with e1 e1'; subst e1 e1'
        injection e2 with e2; injection e2 with e2 e2'; subst e2 e2'
        have xa := xa' k hka
        have xb := xb' k (by have := HL.out; omega)
        have HS := Lib.hid hst
        clear hst xa' xb'
        by_cases he : a.getD k [] = b.getD k []
        · rw [← he] at xb
          have HE := Lib.hid he
          clear he
          generalize hu : a.getD k [] = u at *
          have HU := Lib.hid hu
          clear hu
          go_wp2_with fail
          go_quiet (fail)
          go_wp2_with fail
          go_roundw
          case rel => exact ⟨k + 1, by omega, by go_num, fun j hj => by
            by_cases e : j = k
            · subst e; rw [HU.out]; exact HE.out
            · exact HS.out j (by omega), below_drewN hb _⟩
          case measure => simp [intOf]; omega
        · have hd : decide (a = b) = false := by simp; intro e; exact he (by rw [e])
          have HD := Lib.hid hd
          clear hd
          generalize a.getD k [] = u at *
          generalize b.getD k [] = v at *
          have huv : (u == v) = false := by simpa using he
          go_wp2_with fail
          go_quiet (fail)
          go_wp2_with fail
          go_ret
          exact ⟨ret_bool HD.out.symm, below_drewN hb _⟩
      · obtain rfl : k = a.length := by omega
        have hd : decide (a = b) = true := by simp; exact same_all5 HL.out hst
        have HD := Lib.hid hd
        clear hd
        go_wp2_with fail
        go_ret
        exact ⟨ret_bool HD.out.symm, hb⟩
theorem sameTexts5_any (a b : List (List UInt8)) (ha : a.length ≤ 1000000) (hb : b.length ≤ 1000000) (ao bo : Option Addr) (ca cb : Nat) (w : World) (ra : TsA5 w ao a) (rb : TsA5 w bo b) :
    Calls Tryz.prog 39 #[.slice ao a.length ca, .slice bo b.length cb] w fun e w' => e = .returned (.bool (decide (a = b))) ∧ Below w.heap.size w w' := by
  by_cases hl : a.length = b.length
  · have := sameTexts5_eq a b ha hl ao bo ca cb w ra rb
    rw [← hl]
    exact this
  · have hd : decide (a = b) = false := by simp; intro e; exact hl (by rw [e])
    rw [hd]
    have d1 : ((a.length : Int) != (b.length : Int)) = true := by simp; omega
    have d2 : ((a.length : Int) == (b.length : Int)) = false := by simp; omega
    have d3 : (a.length != b.length) = true := by simpa using hl
    have d4 : (a.length == b.length) = false := by simpa using hl
    clear hl ra rb hd
    go_enter Tryz.func39, Tryz.ntmps39
    go_wp2_with fail
    go_ret
    exact ⟨rfl, Below.refl _ _⟩

end Go.Proofs.YtmammmjmipgmoaaGreatDoor
