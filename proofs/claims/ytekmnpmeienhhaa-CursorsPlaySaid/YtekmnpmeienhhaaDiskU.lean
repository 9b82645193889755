/- Layer 5: Sync, Remove. -/
import Derived.Test.YtekmnpmeienhhaaDiskT
namespace Go.Proofs.Ytekmnpmeienhhaa
set_option linter.unusedVariables false
open Go Go.RowKit Go.Maps

section
variable {B d mb : Nat} {V : List UInt8 → Value} {sv : Value} {c : Cs} {D' : Dk.St} {W5 : World} {F : Nat → Prop}
theorem sync_asm5 (hI : DkIn B d mb V sv c D' W5) (hO : Dk.Ok D') {L0 : List Dk.Fl} (hL : D'.L = L0) {nm : List UInt8} {vo : Option Addr} {vc n : Nat} {w w8 : World} (hvn : V nm = .slice vo (Dk.get nm L0).dat.length vc) (hh : Dk.has nm L0 = true) (hn : Dk.named nm = true)
    (hmap : w8.ownsMap Try.prog 9 heldR mb n (datM (upV V nm (.slice vo (Dk.get nm L0).dat.length vc)) (Dk.put ⟨nm, (Dk.get nm L0).dat, (Dk.get nm L0).dat.length⟩ D'.L))) (ht : W5.mapTurned w8 mb)
    (hs : w.heap.size ≤ W5.heap.size) (hB : B ≤ w.heap.size) (hF : ∀ b, F b → B ≤ b ∧ b < w.heap.size) (hFt : ∀ b, Ft d mb V c D' b → F b) (hW : Wr F w W5) :
    DkAt B (gr F w w8) d { D' with L := Dk.put ⟨nm, (Dk.get nm L0).dat, (Dk.get nm L0).dat.length⟩ L0 } w8 ∧ Wr F w w8 := by
  subst hL
  have hw : Wr (fun q => q = mb) W5 w8 := wr_turned ht rfl
  have hco := hI.co
  have hvo : vOf V nm D'.L = V nm := if_pos hh
  have hszp : Dk.size (Dk.put ⟨nm, (Dk.get nm D'.L).dat, (Dk.get nm D'.L).dat.length⟩ D'.L) = Dk.size D'.L := by
    have := Dk.size_put hO.l ⟨nm, (Dk.get nm D'.L).dat, (Dk.get nm D'.L).dat.length⟩
    simp only at this
    omega
  have hrow := hI.vrow nm
  rw [hvo, hvn] at hrow
  have hb : ∀ q, (Value.slice vo (Dk.get nm D'.L).dat.length vc).ownBlock = some q → ∃ g ∈ D'.L, (V g.name).ownBlock = some q := fun q hq => by
    rw [← hvn, ← hvo] at hq
    obtain ⟨g, hg, _, e⟩ := vOf_block hq
    exact ⟨g, hg, e⟩
  have h1 := hI.putA (f := ⟨nm, (Dk.get nm D'.L).dat, (Dk.get nm D'.L).dat.length⟩) (v := .slice vo (Dk.get nm D'.L).dat.length vc) hw (fun q hq => .inr (.inl hq)) (by
      have h2 := hI.box.wr hw (fun e => hco.ne e.symm)
      unfold dkC at h2 ⊢
      simp only at h2 ⊢
      rw [hszp]
      exact h2) hmap (row_wr hrow hw (fun q hq => by
      obtain ⟨g, hg, e⟩ := hb q hq
      exact (hco.rne hg e).2.1)) (fun q hq => .inl (by rw [hvo, hvn]; exact hq))
  refine ⟨h1.at (Dk.put_ok5 hO hn (Nat.le_refl _) (.inl hh) (by have := hO.room; simp only; omega)) (Nat.le_trans hs hw.size) hB hF (ft_put (fun q hq => .inl (hb q hq)) hFt), hW.step hw (fun x hx => .inl (by rw [hx]; exact hFt _ (.inr (.inl rfl))))⟩
end
section
variable {B d mb : Nat} {V : List UInt8 → Value} {sv : Value} {c : Cs} {D' : Dk.St} {W3 : World} {F : Nat → Prop}
theorem remove_asm5 (hI : DkIn B d mb V sv c D' W3) (hO : Dk.Ok D') {L0 : List Dk.Fl} (hL : D'.L = L0) {nm : List UInt8} {w W4 : World} (hC : DkCo B d mb V sv { D' with L := Dk.del nm D'.L } W4) (hw : Wr (fun q => q = d ∨ q = mb) W3 W4)
    (hs : w.heap.size ≤ W3.heap.size) (hB : B ≤ w.heap.size) (hF : ∀ b, F b → B ≤ b ∧ b < w.heap.size) (hFt : ∀ b, Ft d mb V c D' b → F b) (hW : Wr F w W3) :
    DkAt B (gr F w W4) d { D' with L := Dk.del nm L0 } W4 ∧ Wr F w W4 := by
  subst hL
  have h1 : DkIn B d mb V sv c { D' with L := Dk.del nm D'.L } W4 := hC.in (hI.setW hw (fun q hq => hq.elim .inl (fun e => .inr (.inl e))))
  refine ⟨h1.at (Dk.del_ok5 hO nm) (Nat.le_trans hs hw.size) hB hF (fun b hb => .inl (hFt b ?_)), hW.step hw (fun x hx => .inl (hFt x (hx.elim .inl (fun e => .inr (.inl e)))))⟩
  rcases hb with e | e | ⟨f, hf, hq⟩ | hx
  · exact .inl e
  · exact .inr (.inl e)
  · exact .inr (.inr (.inl ⟨f, (Dk.mem_del.1 hf).1, hq⟩))
  · exact .inr (.inr (.inr hx))
end
section
variable {B d mb : Nat} {V : List UInt8 → Value} {sv : Value} {c : Cs} {D : Dk.St} {w : World} {F : Nat → Prop}
set_option maxRecDepth 100000 in
set_option maxHeartbeats 4000000 in
theorem sync_down5 (h : DkAt B F d D w) (hB : B ≤ w.heap.size) (nm : List UInt8) (hl : nm.length ≤ 140737488351232) (hu : D.up = false) : Calls Try.prog 41 #[.pointer (some ⟨d, 0, none⟩), .string (S nm)] w (OpR B F d (Dk.sync nm D) w) := by
  have HR := Lib.hid (fun w' (hb : Below w.heap.size w w') => show OpR B F d (Dk.sync nm D) w (.returned (.int .i64 51)) w' from by
    have e : Dk.sync nm D = (51, D) := by unfold Dk.sync; rw [if_pos hu]
    rw [e]; exact opR_same h hB hb 51)
  obtain ⟨hO, mb, V, sv, c, hI, hFt, hFB⟩ := h
  have CF := Lib.hid (find5 ⟨hO, mb, V, sv, c, hI, hFt, hFB⟩ hI nm hl)
  have hE : fndE nm D = 51 := by unfold fndE; rw [if_pos hu]
  have hV : fndV V nm D = .slice none 0 0 := by unfold fndV; rw [hE]; rfl
  have hS : fndS nm D = 0 := by unfold fndS; rw [hE]; rfl
  rw [hE, hV, hS] at CF
  clear hO hI hFt hFB hB hl hE hV hS  hu
  go_enter Try.func41, Try.ntmps41
  go_wp2_with fail
  with_reducible refine CF.out.mono ?_
  rintro e w1 ⟨rfl, hb⟩
  have HB := Lib.hid hb
  clear hb
  go_wp2_with fail
  go_ret
  exact HR.out _ (HB.out.alloc HB.out.size _)
set_option maxRecDepth 100000 in
set_option maxHeartbeats 4000000 in
theorem sync_none5 (h : DkAt B F d D w) (hB : B ≤ w.heap.size) (nm : List UInt8) (hl : nm.length ≤ 140737488351232) (hu : D.up = true) (hh : Dk.has nm D.L = false) : Calls Try.prog 41 #[.pointer (some ⟨d, 0, none⟩), .string (S nm)] w (OpR B F d (Dk.sync nm D) w) := by
  have HR := Lib.hid (fun w' (hb : Below w.heap.size w w') => show OpR B F d (Dk.sync nm D) w (.returned (.int .i64 4)) w' from by
    have e : Dk.sync nm D = (4, D) := by unfold Dk.sync; rw [if_neg (by rw [hu]; simp), if_pos hh]
    rw [e]; exact opR_same h hB hb 4)
  obtain ⟨hO, mb, V, sv, c, hI, hFt, hFB⟩ := h
  have CF := Lib.hid (find5 ⟨hO, mb, V, sv, c, hI, hFt, hFB⟩ hI nm hl)
  have hE : fndE nm D = 4 := by unfold fndE; rw [if_neg (by rw [hu]; simp), if_pos hh]
  have hV : fndV V nm D = .slice none 0 0 := by unfold fndV; rw [hE]; rfl
  have hS : fndS nm D = 0 := by unfold fndS; rw [hE]; rfl
  rw [hE, hV, hS] at CF
  clear hO hI hFt hFB hB hl hE hV hS  hu hh
  go_enter Try.func41, Try.ntmps41
  go_wp2_with fail
  with_reducible refine CF.out.mono ?_
  rintro e w1 ⟨rfl, hb⟩
  have HB := Lib.hid hb
  clear hb
  go_wp2_with fail
  go_ret
  exact HR.out _ (HB.out.alloc HB.out.size _)
set_option maxRecDepth 100000 in
set_option maxHeartbeats 4000000 in
theorem sync_ok5 (h : DkAt B F d D w) (hB : B ≤ w.heap.size) (nm : List UInt8) (hl : nm.length ≤ 140737488351232) (hu : D.up = true) (hh : Dk.has nm D.L = true) : Calls Try.prog 41 #[.pointer (some ⟨d, 0, none⟩), .string (S nm)] w (OpR B F d (Dk.sync nm D) w) := by
  have HE := Lib.hid (show Dk.sync nm D = if (Dk.struck D).1 then (51, (Dk.struck D).2) else (0, { (Dk.struck D).2 with L := Dk.put ⟨nm, (Dk.get nm D.L).dat, (Dk.get nm D.L).dat.length⟩ D.L }) from by unfold Dk.sync; rw [if_neg (by rw [hu]; simp), if_neg (by rw [hh]; simp)])
  obtain ⟨hO, mb, V, sv, c, hI, hFt, hFB⟩ := h
  have CF := Lib.hid (find5 ⟨hO, mb, V, sv, c, hI, hFt, hFB⟩ hI nm hl)
  have hE : fndE nm D = 0 := by unfold fndE; rw [if_neg (by rw [hu]; simp), if_neg (by rw [hh]; simp)]
  have hV : fndV V nm D = V nm := by unfold fndV; rw [hE]; rfl
  have hS : fndS nm D = (Dk.get nm D.L).safe := by unfold fndS; rw [hE]; rfl
  rw [hE, hV, hS] at CF
  obtain ⟨vo, vc, hv⟩ := row_shape5 (hI.vrow nm)
  have hvr := hI.vrow nm
  rw [hv] at hvr
  have hvn : V nm = .slice vo (Dk.get nm D.L).dat.length vc := by rw [← hv]; exact (if_pos hh).symm
  rw [hvn] at CF
  have HO := Lib.hid hO
  have HI := Lib.hid hI
  have HFT := Lib.hid hFt
  have HFB := Lib.hid hFB
  have HBs := Lib.hid hB
  have HL := Lib.hid hl
  have HVN := Lib.hid hvn
  have HHH := Lib.hid hh
  have HBD := Lib.hid (show B ≤ d from (hFB d (hFt d (.inl rfl))).1)
  have HBM := Lib.hid (show B ≤ mb from (hFB mb (hFt mb (.inr (.inl rfl)))).1)
  have hgz := Dk.get_size hO.l nm
  have hrm := hO.room
  have hms := hO.most
  have hfw := hO.few
  have HNM := Lib.hid (show Dk.named nm = true from by have h1 := hO.l.named _ (Dk.get_mem hh).1; rw [(Dk.get_mem hh).2] at h1; exact h1)
  have HVR := Lib.hid hvr
  clear hO hI hFt hFB hB hv hvr hl hu hh hE hV hS hvn
  go_enter Try.func41, Try.ntmps41
  go_wp2_with fail
  with_reducible refine CF.out.mono ?_
  rintro e w1 ⟨rfl, hb⟩
  have HB1 := Lib.hid hb
  clear hb CF
  go_wp2_with fail
  have HX := Lib.hid (bk_new #[.slice vo (Dk.get nm D.L).dat.length vc, .int .i64 (Dk.get nm D.L).safe] 93 w1)
  have HB2 := Lib.hid (show Below w.heap.size w (w1.alloc (.cells #[.slice vo (Dk.get nm D.L).dat.length vc, .int .i64 (Dk.get nm D.L).safe] 93)) from HB1.out.alloc HB1.out.size _)
  have HXW := Lib.hid (show w.heap.size ≤ w1.heap.size from HB1.out.size)
  generalize (w1.alloc (.cells #[.slice vo (Dk.get nm D.L).dat.length vc, .int .i64 (Dk.get nm D.L).safe] 93)) = W2 at *
  generalize w1.heap.size = X at *
  clear HB1
  have CK := Lib.hid (struck5 (HI.out.below HB2.out) HBD.out HBM.out HO.out)
  with_reducible refine CK.out.mono ?_
  rintro e W3 ⟨rfl, hR, hW3⟩
  have HRA := Lib.hid (strR_at ⟨rfl, hR, hW3⟩ HO.out HB2.out.size HBs.out HFB.out (fun b hb => .inl (HFT.out b hb)))
  have HRW := Lib.hid (strR_wr ⟨rfl, hR, hW3⟩ (wr_below HB2.out) (fun b hb => .inl (HFT.out b hb)))
  obtain ⟨V3, sv3, hI3, hV3, hV4⟩ := hR
  have HI3 := Lib.hid hI3
  have HV3 := Lib.hid hV3
  have HV4 := Lib.hid hV4
  have HW3 := Lib.hid hW3
  clear hI3 hV3 hV4 hW3 CK
  have HKP := Lib.hid (fun hq => Dk.struck_keep (D := D) hq)
  generalize hst : (Dk.struck D).1 = bb at *
  clear hst
  cases bb with
  | true =>
    go_wp2_with fail
    go_ret
    refine ⟨?_, ?_, HRW.out⟩
    · rw [HE.out]; rfl
    · rw [HE.out]; exact HRA.out
  | false =>
    have HV5 := Lib.hid (HV4.out rfl)
    rw [HV5.out] at HI3
    clear HV4 HV5 HV3 HRA
    have HDL := Lib.hid (HKP.out rfl).1
    have HDR := Lib.hid (HKP.out rfl).2
    have HOK3 := Lib.hid (Dk.struck_ok5 HO.out)
    have HFT3 := Lib.hid (show ∀ b, Ft d mb V c (Dk.struck D).2 b → F b from fun b hb => HFT.out b (ft_struck (fun _ => rfl) hb))
    have HSZ3 := Lib.hid (show w.heap.size ≤ W3.heap.size from Nat.le_trans HB2.out.size HW3.out.size)
    have HX3 := Lib.hid (HX.out.wr HW3.out (fun hq => by
      rcases hq with e | e | ⟨h1, e⟩
      · have := HI.out.box.lt; have := HXW.out; omega
      · have := HI.out.map.lt; have := HXW.out; omega
      · have h2 := HI.out.set
        cases hs : D.set with
        | none => exact h1 hs
        | some p =>
          rw [hs] at h2
          have := h2.2.1.lt; have := HXW.out; omega))
    have x0 : W3.cell? ⟨X, 0, none⟩ = some (.slice vo (Dk.get nm D.L).dat.length vc) := HX3.out.cell 0
    have x1 : W3.cell? ⟨X, 1, none⟩ = some (.int .i64 (Dk.get nm D.L).safe) := HX3.out.cell 1
    have xf : ∀ j, W3.frozen? ⟨X, j, none⟩ = false := fun j => HX3.out.free j
    go_wp2_with fail
    have HX4 := Lib.hid (HX3.out.set 1 (.int .i64 (Dk.get nm D.L).dat.length))
    have HW4 := Lib.hid (show Wr (fun q => q = X) W3 (W3.setCell ⟨X, 1, none⟩ (.int .i64 (Dk.get nm D.L).dat.length)) from wr_set _ _ _ rfl)
    have HNX := Lib.hid (HI3.out.apart HX3.out (by decide) (by decide) (by decide) (by decide) (by decide))
    have HI4 := Lib.hid (HI3.out.wr HW4.out (fun b hb e => HNX.out (e ▸ hb)))
    generalize (W3.setCell ⟨X, 1, none⟩ (.int .i64 (Dk.get nm D.L).dat.length)) = W4 at *
    clear x0 x1 xf
    have HS2 := Lib.hid (show W4.cell? ⟨d, 2, none⟩ = some (.map (some mb)) from HI4.out.box.cell 2)
    have HS0 := Lib.hid (show W4.cell? ⟨X, 0, none⟩ = some (.slice vo (Dk.get nm D.L).dat.length vc) from HX4.out.cell 0)
    have HS1 := Lib.hid (show W4.cell? ⟨X, 1, none⟩ = some (.int .i64 (Dk.get nm D.L).dat.length) from HX4.out.cell 1)
    refine wp_region_Z (S := fun V => V.cell? ⟨d, 2, none⟩ = some (.map (some mb)) ∧ V.cell? ⟨X, 0, none⟩ = some (.slice vo (Dk.get nm D.L).dat.length vc) ∧ V.cell? ⟨X, 1, none⟩ = some (.int .i64 (Dk.get nm D.L).dat.length)) 6 (by kernel_rfl) ?_ (fun hHeld => ?_)
    · exact ⟨HS2.out, HS0.out, HS1.out⟩
    have HI5 := Lib.hid (HI4.out.below ((Below.refl _ W4).drew))
    have HW5 := Lib.hid (HW4.out.drew)
    obtain ⟨W5, hW5⟩ : ∃ x, x = World.drew W4 := ⟨_, rfl⟩
    rw [← hW5] at HI5 HW5 hHeld ⊢
    clear hW5
    have HLEN := Lib.hid (show (Dk.struck D).2.L.length ≤ 100000 from by rw [HDL.out]; omega)
    refine wpAnyZ_takeY (i := 0) (oi := { dst := some 22, op := Op.move (Operand.tmp 0), type := 24, pos := "disk.go:96", after := #[], guard := none }) (v := ?_) rfl (by kernel_rfl) (by kernel_rfl) (by kernel_rfl) (by rfl) (fun _ _ _ h => h) (Or.inl ⟨by rfl, ?_⟩) (by assumption) ?_
    rotate_left
    · (intro w; go_simp); (first | done | with_reducible rfl)
    try simp only [Act.put, List.setIfInBounds_toArray, List.set_cons_zero, List.set_cons_succ]
    refine wpAnyZ_takeY (i := 1) (oi := { dst := some 23, op := Op.nilCheck (Operand.tmp 22), type := 0, pos := "disk.go:96", after := #[{ on := 0, ground := Ground.data }], guard := none }) (v := ?_) rfl (by kernel_rfl) (by kernel_rfl) (by kernel_rfl) (by rfl) (fun _ _ _ h => h) (Or.inl ⟨by rfl, ?_⟩) (by assumption) ?_
    rotate_left
    · (intro w; go_simp); (first | done | with_reducible rfl)
    try simp only [Act.put, List.setIfInBounds_toArray, List.set_cons_zero, List.set_cons_succ]
    refine wpAnyZ_takeY (i := 2) (oi := { dst := some 24, op := Op.fieldAddr 43 (Operand.tmp 23) 2, type := 0, pos := "disk.go:96", after := #[{ on := 1, ground := Ground.data }], guard := none }) (v := ?_) rfl (by kernel_rfl) (by kernel_rfl) (by kernel_rfl) (by rfl) (fun _ _ _ h => h) (Or.inl ⟨by rfl, ?_⟩) (by assumption) ?_
    rotate_left
    · (intro w; go_simp); (first | done | with_reducible rfl)
    try simp only [Act.put, List.setIfInBounds_toArray, List.set_cons_zero, List.set_cons_succ]
    refine wpAnyZ_take (i := 3) (oi := { dst := some 25, op := Op.load 41 (Operand.tmp 24), type := 41, pos := "disk.go:96", after := #[{ on := 2, ground := Ground.data }], guard := none }) (v := ?_) [6] rfl (by kernel_rfl) (by kernel_rfl) (by kernel_rfl) (by kernel_rfl) (fun _ _ _ h => h) (Or.inl ⟨by rfl, ?_⟩) (by assumption) ?_
    rotate_left
    · (intro w hSw; (try dsimp only at hSw); go_simp); (first | done | with_reducible rfl)
    try simp only [Act.put, List.setIfInBounds_toArray, List.set_cons_zero, List.set_cons_succ]
    refine wpAnyZ_takeY (i := 4) (oi := { dst := some 26, op := Op.move (Operand.tmp 1), type := 9, pos := "disk.go:96", after := #[], guard := none }) (v := ?_) rfl (by kernel_rfl) (by kernel_rfl) (by kernel_rfl) (by rfl) (fun _ _ _ h => h) (Or.inl ⟨by rfl, ?_⟩) (by assumption) ?_
    rotate_left
    · (intro w; go_simp); (first | done | with_reducible rfl)
    try simp only [Act.put, List.setIfInBounds_toArray, List.set_cons_zero, List.set_cons_succ]
    refine wpAnyZ_take (i := 5) (oi := { dst := some 27, op := Op.load 93 (Operand.tmp 5), type := 93, pos := "disk.go:96", after := #[], guard := none }) (v := ?_) [6] rfl (by kernel_rfl) (by kernel_rfl) (by kernel_rfl) (by kernel_rfl) (fun _ _ _ h => h) (Or.inl ⟨by rfl, ?_⟩) (by assumption) ?_
    rotate_left
    · (intro w hSw; (try dsimp only at hSw); go_simp); (first | done | with_reducible rfl)
    try simp only [Act.put, List.setIfInBounds_toArray, List.set_cons_zero, List.set_cons_succ]
    refine wpAnyZ_ready (rs := [6]) (by kernel_rfl) (by simp) ?_
    refine AllReadyZ.last (o := { dst := none, op := Op.mapUpdate 41 (Operand.tmp 25) (Operand.tmp 26) (Operand.tmp 27), type := 0, pos := "disk.go:96", after := #[{ on := 3, ground := Ground.data }, { on := 4, ground := Ground.data }, { on := 5, ground := Ground.data }, { on := 0, ground := Ground.phase }, { on := 1, ground := Ground.phase }, { on := 2, ground := Ground.phase }, { on := 3, ground := Ground.phase }, { on := 4, ground := Ground.phase }, { on := 5, ground := Ground.phase }], guard := none }) rfl (fun K hK => ?_) AllReadyZ.nil
    refine step_put5 (f := (⟨nm, (Dk.get nm D.L).dat, (Dk.get nm D.L).dat.length⟩ : Dk.Fl)) (u := .slice vo (Dk.get nm D.L).dat.length vc) (by rfl) _ _ _ (by rfl) (by rfl) (by rfl) (by rfl) HI5.out.map HLEN.out HL.out ?_
    intro w8 hm8 ht8
    refine hK.out _ _ ?_
    clear hK K
    refine wpAny_done (by kernel_rfl) ?_ _
    have HFIN := Lib.hid (sync_asm5 HI5.out HOK3.out HDL.out HVN.out HHH.out HNM.out hm8 ht8 (Nat.le_trans HSZ3.out HW5.out.size) HBs.out HFB.out HFT3.out (show Wr F w W5 from HRW.out.step HW5.out (fun x hx => .inr (by rw [hx]; exact HXW.out))))
    clear hm8 ht8 hHeld
    go_wp2_with fail
    go_ret
    refine ⟨?_, ?_, HFIN.out.2⟩
    · rw [HE.out]; rfl
    · rw [HE.out]; exact HFIN.out.1
theorem sync5 (h : DkAt B F d D w) (hB : B ≤ w.heap.size) (nm : List UInt8) (hl : nm.length ≤ 140737488351232) : Calls Try.prog 41 #[.pointer (some ⟨d, 0, none⟩), .string (S nm)] w (OpR B F d (Dk.sync nm D) w) := by
  cases hu : D.up with
  | false => exact sync_down5 h hB nm hl hu
  | true =>
    cases hh : Dk.has nm D.L with
    | false => exact sync_none5 h hB nm hl hu hh
    | true => exact sync_ok5 h hB nm hl hu hh
set_option maxRecDepth 100000 in
set_option maxHeartbeats 4000000 in
theorem remove_down5 (h : DkAt B F d D w) (hB : B ≤ w.heap.size) (nm : List UInt8) (hl : nm.length ≤ 140737488351232) (hu : D.up = false) : Calls Try.prog 43 #[.pointer (some ⟨d, 0, none⟩), .string (S nm)] w (OpR B F d (Dk.remove nm D) w) := by
  have HR := Lib.hid (fun w' (hb : Below w.heap.size w w') => show OpR B F d (Dk.remove nm D) w (.returned (.int .i64 51)) w' from by
    have e : Dk.remove nm D = (51, D) := by unfold Dk.remove; rw [if_pos hu]
    rw [e]; exact opR_same h hB hb 51)
  obtain ⟨hO, mb, V, sv, c, hI, hFt, hFB⟩ := h
  have CF := Lib.hid (find5 ⟨hO, mb, V, sv, c, hI, hFt, hFB⟩ hI nm hl)
  have hE : fndE nm D = 51 := by unfold fndE; rw [if_pos hu]
  have hV : fndV V nm D = .slice none 0 0 := by unfold fndV; rw [hE]; rfl
  have hS : fndS nm D = 0 := by unfold fndS; rw [hE]; rfl
  rw [hE, hV, hS] at CF
  clear hO hI hFt hFB hB hl hE hV hS  hu
  go_enter Try.func43, Try.ntmps43
  go_wp2_with fail
  with_reducible refine CF.out.mono ?_
  rintro e w1 ⟨rfl, hb⟩
  have HB := Lib.hid hb
  clear hb
  go_wp2_with fail
  go_ret
  exact HR.out _ (HB.out.alloc HB.out.size _)
set_option maxRecDepth 100000 in
set_option maxHeartbeats 4000000 in
theorem remove_none5 (h : DkAt B F d D w) (hB : B ≤ w.heap.size) (nm : List UInt8) (hl : nm.length ≤ 140737488351232) (hu : D.up = true) (hh : Dk.has nm D.L = false) : Calls Try.prog 43 #[.pointer (some ⟨d, 0, none⟩), .string (S nm)] w (OpR B F d (Dk.remove nm D) w) := by
  have HR := Lib.hid (fun w' (hb : Below w.heap.size w w') => show OpR B F d (Dk.remove nm D) w (.returned (.int .i64 4)) w' from by
    have e : Dk.remove nm D = (4, D) := by unfold Dk.remove; rw [if_neg (by rw [hu]; simp), if_pos hh]
    rw [e]; exact opR_same h hB hb 4)
  obtain ⟨hO, mb, V, sv, c, hI, hFt, hFB⟩ := h
  have CF := Lib.hid (find5 ⟨hO, mb, V, sv, c, hI, hFt, hFB⟩ hI nm hl)
  have hE : fndE nm D = 4 := by unfold fndE; rw [if_neg (by rw [hu]; simp), if_pos hh]
  have hV : fndV V nm D = .slice none 0 0 := by unfold fndV; rw [hE]; rfl
  have hS : fndS nm D = 0 := by unfold fndS; rw [hE]; rfl
  rw [hE, hV, hS] at CF
  clear hO hI hFt hFB hB hl hE hV hS  hu hh
  go_enter Try.func43, Try.ntmps43
  go_wp2_with fail
  with_reducible refine CF.out.mono ?_
  rintro e w1 ⟨rfl, hb⟩
  have HB := Lib.hid hb
  clear hb
  go_wp2_with fail
  go_ret
  exact HR.out _ (HB.out.alloc HB.out.size _)
set_option maxRecDepth 100000 in
set_option maxHeartbeats 4000000 in
theorem remove_ok5 (h : DkAt B F d D w) (hB : B ≤ w.heap.size) (nm : List UInt8) (hl : nm.length ≤ 140737488351232) (hu : D.up = true) (hh : Dk.has nm D.L = true) : Calls Try.prog 43 #[.pointer (some ⟨d, 0, none⟩), .string (S nm)] w (OpR B F d (Dk.remove nm D) w) := by
  have HE := Lib.hid (show Dk.remove nm D = if (Dk.struck D).1 then (51, (Dk.struck D).2) else (0, { (Dk.struck D).2 with L := Dk.del nm D.L }) from by unfold Dk.remove; rw [if_neg (by rw [hu]; simp), if_neg (by rw [hh]; simp)])
  obtain ⟨hO, mb, V, sv, c, hI, hFt, hFB⟩ := h
  have CF := Lib.hid (find5 ⟨hO, mb, V, sv, c, hI, hFt, hFB⟩ hI nm hl)
  have hE : fndE nm D = 0 := by unfold fndE; rw [if_neg (by rw [hu]; simp), if_neg (by rw [hh]; simp)]
  have hV : fndV V nm D = V nm := by unfold fndV; rw [hE]; rfl
  have hS : fndS nm D = (Dk.get nm D.L).safe := by unfold fndS; rw [hE]; rfl
  rw [hE, hV, hS] at CF
  obtain ⟨vo, vc, hv⟩ := row_shape5 (hI.vrow nm)
  have hvr := hI.vrow nm
  rw [hv] at hvr
  have hvn : V nm = .slice vo (Dk.get nm D.L).dat.length vc := by rw [← hv]; exact (if_pos hh).symm
  rw [hvn] at CF
  have HO := Lib.hid hO
  have HI := Lib.hid hI
  have HFT := Lib.hid hFt
  have HFB := Lib.hid hFB
  have HBs := Lib.hid hB
  have HL := Lib.hid hl
  have HVN := Lib.hid hvn
  have HHH := Lib.hid hh
  have HBD := Lib.hid (show B ≤ d from (hFB d (hFt d (.inl rfl))).1)
  have HBM := Lib.hid (show B ≤ mb from (hFB mb (hFt mb (.inr (.inl rfl)))).1)
  have hgz := Dk.get_size hO.l nm
  have hrm := hO.room
  have hms := hO.most
  have hfw := hO.few
  clear hO hI hFt hFB hB hv hvr hl hu hh hE hV hS hvn
  go_enter Try.func43, Try.ntmps43
  go_wp2_with fail
  with_reducible refine CF.out.mono ?_
  rintro e w1 ⟨rfl, hb⟩
  have HB1 := Lib.hid hb
  clear hb CF
  go_wp2_with fail
  have HX := Lib.hid (bk_new #[.slice vo (Dk.get nm D.L).dat.length vc, .int .i64 (Dk.get nm D.L).safe] 93 w1)
  have HB2 := Lib.hid (show Below w.heap.size w (w1.alloc (.cells #[.slice vo (Dk.get nm D.L).dat.length vc, .int .i64 (Dk.get nm D.L).safe] 93)) from HB1.out.alloc HB1.out.size _)
  have HXW := Lib.hid (show w.heap.size ≤ w1.heap.size from HB1.out.size)
  generalize (w1.alloc (.cells #[.slice vo (Dk.get nm D.L).dat.length vc, .int .i64 (Dk.get nm D.L).safe] 93)) = W2 at *
  generalize w1.heap.size = X at *
  clear HB1
  have CK := Lib.hid (struck5 (HI.out.below HB2.out) HBD.out HBM.out HO.out)
  with_reducible refine CK.out.mono ?_
  rintro e W3 ⟨rfl, hR, hW3⟩
  have HRA := Lib.hid (strR_at ⟨rfl, hR, hW3⟩ HO.out HB2.out.size HBs.out HFB.out (fun b hb => .inl (HFT.out b hb)))
  have HRW := Lib.hid (strR_wr ⟨rfl, hR, hW3⟩ (wr_below HB2.out) (fun b hb => .inl (HFT.out b hb)))
  obtain ⟨V3, sv3, hI3, hV3, hV4⟩ := hR
  have HI3 := Lib.hid hI3
  have HV3 := Lib.hid hV3
  have HV4 := Lib.hid hV4
  have HW3 := Lib.hid hW3
  clear hI3 hV3 hV4 hW3 CK
  have HKP := Lib.hid (fun hq => Dk.struck_keep (D := D) hq)
  generalize hst : (Dk.struck D).1 = bb at *
  clear hst
  cases bb with
  | true =>
    go_wp2_with fail
    go_ret
    refine ⟨?_, ?_, HRW.out⟩
    · rw [HE.out]; rfl
    · rw [HE.out]; exact HRA.out
  | false =>
    have HV5 := Lib.hid (HV4.out rfl)
    rw [HV5.out] at HI3
    clear HV4 HV5 HV3 HRA
    have HDL := Lib.hid (HKP.out rfl).1
    have HDR := Lib.hid (HKP.out rfl).2
    have HOK3 := Lib.hid (Dk.struck_ok5 HO.out)
    have HFT3 := Lib.hid (show ∀ b, Ft d mb V c (Dk.struck D).2 b → F b from fun b hb => HFT.out b (ft_struck (fun _ => rfl) hb))
    have HSZ3 := Lib.hid (show w.heap.size ≤ W3.heap.size from Nat.le_trans HB2.out.size HW3.out.size)
    have HX3 := Lib.hid (HX.out.wr HW3.out (fun hq => by
      rcases hq with e | e | ⟨h1, e⟩
      · have := HI.out.box.lt; have := HXW.out; omega
      · have := HI.out.map.lt; have := HXW.out; omega
      · have h2 := HI.out.set
        cases hs : D.set with
        | none => exact h1 hs
        | some p =>
          rw [hs] at h2
          have := h2.2.1.lt; have := HXW.out; omega))
    go_wp2_with fail
    have CD := Lib.hid (drop5 HI3.out.co HOK3.out.l (by rw [HDL.out]; omega) nm HL.out)
    with_reducible refine CD.out.mono ?_
    rintro e W4 ⟨rfl, hC, hW4⟩
    have HFIN := Lib.hid (remove_asm5 HI3.out HOK3.out HDL.out hC hW4 HSZ3.out HBs.out HFB.out HFT3.out HRW.out)
    clear hC hW4
    go_wp2_with fail
    go_ret
    refine ⟨?_, ?_, HFIN.out.2⟩
    · rw [HE.out]; rfl
    · rw [HE.out]; exact HFIN.out.1
theorem remove5 (h : DkAt B F d D w) (hB : B ≤ w.heap.size) (nm : List UInt8) (hl : nm.length ≤ 140737488351232) : Calls Try.prog 43 #[.pointer (some ⟨d, 0, none⟩), .string (S nm)] w (OpR B F d (Dk.remove nm D) w) := by
  cases hu : D.up with
  | false => exact remove_down5 h hB nm hl hu
  | true =>
    cases hh : Dk.has nm D.L with
    | false => exact remove_none5 h hB nm hl hu hh
    | true => exact remove_ok5 h hB nm hl hu hh
end

end Go.Proofs.Ytekmnpmeienhhaa
