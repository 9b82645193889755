/- Layer 16: the document's Apply, by a contract (genrefapply.py). -/
import Derived.Test.YtfcmjgcjmldpcaaEditsAn
import Derived.Test.YtfcmjgcjmldpcaaEditsAl
import Derived.Test.YtfcmjgcjmldpcaaEditsAh
import Derived.Deep.RegionHeld
namespace Go.Proofs.Ytfcmjgcjmldpcaa
set_option linter.unusedVariables false
set_option linter.unusedSimpArgs false
open Go Go.RowKit
attribute [local go_sem ↓] run_index_S
attribute [local go_sem] S_append S_extract

theorem up_strict16 {next : Int} : ∀ {l : List Int} {last : Int}, Ed.up last next l → l.Pairwise (· < ·)
  | [], _, _ => List.Pairwise.nil
  | x :: t, last, ⟨_, _, h⟩ => List.pairwise_cons.2 ⟨fun y hy => (Ed.up_take h y hy).1, up_strict16 h⟩
set_option maxHeartbeats 4000000 in
set_option maxRecDepth 100000 in
theorem refTablet_else (w0 : World) (b g c : Nat) (Rs Rk : List Rt) (log next : Int) (so : Option Addr) (sc : Nat) (y : Re) (k : Nat) (hq : RtQ w0 Rs Rk so y k) (h1 : ¬ y.kind = 1) (h2 : ¬ y.kind = 2) (h3 : ¬ y.kind = 3) (h4 : ¬ y.kind = 4) (h5 : ¬ y.kind = 5) (w : World) (h : Ahd w0 b g c Rs Rk log next w) :
    Calls Try.prog 33 #[.pointer (some ⟨b, 0, none⟩), .agg #[.slice so Rs.length sc, .int .i64 log, .int .i64 next], .agg (edA y)] w (EditR w0 w b ⟨tbs Rk, log, next⟩ y) := by
  obtain ⟨kind, at_, file, fs, fo, fk, key⟩ := y
  have hat := hq.yat
  simp only at h1 h2 h3 h4 h5 hat
  subst hat
  have HQ := Lib.hid hq
  have hk := hq.kn
  have hn16 := hq.n16
  have hlen : Rk.length = Rs.length := h.cl.len
  have HB := Lib.hid (show Below w.heap.size w ((w.alloc (.cells #[.slice so Rs.length sc, .int .i64 log, .int .i64 next] 24)).alloc (.cells #[.int .i64 kind, .int .i64 k, .int .i64 file, .slice fo fs.length fk, .string (S key)] 27)) from bel_two _ _ _)
  have HH := Lib.hid (h.below HB.out)
  have HKP := Lib.hid ((Kp.refl b w).below HB.out)
  obtain ⟨gs, os, rfl, ct⟩ := hq.at_.off k hk
  have HED := Lib.hid (show Ed.edit ⟨tbs Rk, log, next⟩ (⟨kind, k, file, fs, fo, fk, key⟩ : Re).ed = none from by
    rw [edit_in (k := k) h5 rfl (by simp only [tbs_length]; rw [hlen]; exact hk)]
    exact (if_neg h1).trans ((if_neg h2).trans ((if_neg h3).trans (if_neg h4))))
  have hki : (k : Int) < (Rs.length : Int) := by omega
  have o1 : ((w.alloc (.cells #[.slice (some ⟨gs, os, none⟩) Rs.length sc, .int .i64 log, .int .i64 next] 24)).alloc (.cells #[.int .i64 kind, .int .i64 k, .int .i64 file, .slice fo fs.length fk, .string (S key)] 27)).cell? ⟨gs, os + k * 2 + 1, none⟩ = some (.slice (Rs.getD k rt0).o (Rs.getD k rt0).l.length (Rs.getD k rt0).k) := (ct.below HH.out.cl.bel).2.1
  unfold edA
  simp only
  clear ct hq h hlen
  generalize Rs.getD k rt0 = rs at *
  obtain ⟨sf, sl, sro, srk⟩ := rs
  simp only at o1
  have d6 : (kind == 1) = false := by simpa using h1
  have d7 : (kind == 2) = false := by simpa using h2
  have d8 : (kind == 3) = false := by simpa using h3
  have d9 : (kind == 4) = false := by simpa using h4
  go_enter Try.func33, Try.ntmps33
  go_wp2_with fail
  go_ret
  exact .inl ⟨HED.out, rfl, HH.out.cl.bel, HKP.out⟩
theorem refTablet16_any (w0 : World) (b g c : Nat) (Rs Rk : List Rt) (log next : Int) (so : Option Addr) (sc : Nat) (y : Re) (k : Nat) (hq : RtQ w0 Rs Rk so y k) (h5 : ¬ y.kind = 5) (w : World) (h : Ahd w0 b g c Rs Rk log next w) :
    Calls Try.prog 33 #[.pointer (some ⟨b, 0, none⟩), .agg #[.slice so Rs.length sc, .int .i64 log, .int .i64 next], .agg (edA y)] w (EditR w0 w b ⟨tbs Rk, log, next⟩ y) := by
  by_cases h1 : y.kind = 1
  · exact refTablet_one w0 b g c Rs Rk log next so sc y k hq h1 w h
  by_cases h2 : y.kind = 2
  · exact refTablet_two w0 b g c Rs Rk log next so sc y k hq h2 w h
  by_cases h3 : y.kind = 3
  · exact refTablet_three w0 b g c Rs Rk log next so sc y k hq h3 w h
  by_cases h4 : y.kind = 4
  · exact refTablet_four w0 b g c Rs Rk log next so sc y k hq h4 w h
  exact refTablet_else w0 b g c Rs Rk log next so sc y k hq h1 h2 h3 h4 h5 w h
set_option maxHeartbeats 4000000 in
set_option maxRecDepth 100000 in
theorem refApply16_any (Rs : List Rt) (hR : RtsOk Rs) (ao : Option Addr) (cap : Nat) (log next : Int) (y : Re) (hfl : y.fs.length ≤ 100000) (hkl : y.key.length ≤ 9223372036854775807) (hfi : ∀ n ∈ y.fs, -9223372036854775808 ≤ n ∧ n ≤ 9223372036854775807) (hcap : ∀ r, r ∈ Rs → r.l.length ≤ r.k) (w : World) (h : TbsAt w ao Rs) (hN : NsAt w y.o y.fs) :
    Calls Try.prog 13 #[stV ao Rs.length cap log next, .agg (edA y)] w (ApplyR ⟨tbs Rs, log, next⟩ y w) := by
  obtain ⟨w2, hw2⟩ : ∃ x, x = ((w.alloc (.cells (stA ao Rs.length cap log next) 24)).alloc (.cells (edA y) 27)).alloc (.cells #[.slice none 0 0, .int .i64 0, .int .i64 0] 24) := ⟨_, rfl⟩
  have hb2 : Below w.heap.size w w2 := by rw [hw2]; exact (bel_two _ _ _).alloc (bel_two _ _ _).size _
  have hsz : w2.heap.size = w.heap.size + 3 := by rw [hw2]; simp
  have HS := Lib.hid (show BkIn (stA ao Rs.length cap log next) 24 w2 w.heap.size from by rw [hw2]; exact ((bkIn_new _ _ w).below ((Below.refl _ _).alloc (Nat.le_refl _) _)).below ((Below.refl _ _).alloc (Nat.le_refl _) _))
  have HE := Lib.hid (show BkIn (edA y) 27 w2 (w.heap.size + 1) from by rw [hw2]; have := (bkIn_new (edA y) 27 (w.alloc (.cells (stA ao Rs.length cap log next) 24))).below ((Below.refl _ _).alloc (Nat.le_refl _) (.cells #[.slice none 0 0, .int .i64 0, .int .i64 0] 24)); simpa using this)
  have HZ := Lib.hid (show BkIn #[.slice none 0 0, .int .i64 0, .int .i64 0] 24 w2 (w.heap.size + 1 + 1) from by rw [hw2]; have := bkIn_new #[.slice none 0 0, .int .i64 0, .int .i64 0] 24 ((w.alloc (.cells (stA ao Rs.length cap log next) 24)).alloc (.cells (edA y) 27)); simpa using this)
  have HB := Lib.hid hb2
  have HA := Lib.hid h
  have HN := Lib.hid hN
  have HR := Lib.hid hR
  have CK := Lib.hid (refCheck16_any Rs hR ao cap log next w2 (h.below hb2))
  have HSZ := Lib.hid hsz
  clear h hN hR hb2 hsz
  unfold stV at CK ⊢
  unfold stA at hw2
  go_enter Try.func13, Try.ntmps13
  go_wp2_with fail
  rw [← hw2]
  with_reducible refine (CK.out).mono ?_
  rintro e w3 ⟨bb, rfl, hbb, hb3⟩
  have HS3 := Lib.hid (HS.out.below hb3)
  have HE3 := Lib.hid (HE.out.below hb3)
  have HZ3 := Lib.hid (HZ.out.below hb3)
  have HB3 := Lib.hid (HB.out.trans (hb3.mono HB.out.size))
  have HG3 := Lib.hid (show w.heap.size + 3 ≤ w3.heap.size from by have := hb3.size; have := HSZ.out; omega)
  have e2 : w3.cell? ⟨w.heap.size + 1, 2, none⟩ = some (.int .i64 y.file) := HE3.out.cell 2
  clear hb3 hw2 CK HS HE HZ HB HSZ
  by_cases hok : Ed.Ok ⟨tbs Rs, log, next⟩ ∧ 0 ≤ y.file ∧ y.file < 2147483647
  · obtain ⟨ho, hf1, hf2⟩ := hok
    obtain rfl : bb = true := hbb.2 ho
    have d1 : decide (y.file < 0) = false := decide_eq_false (by omega)
    have d2 : decide (2147483647 ≤ y.file) = false := decide_eq_false (by omega)
    have hsm := Ok.small ho
    have HO := Lib.hid ho
    have s0 : w3.cell? ⟨w.heap.size, 0, none⟩ = some (.slice ao Rs.length cap) := HS3.out.cell 0
    have s1 : w3.cell? ⟨w.heap.size, 1, none⟩ = some (.int .i64 log) := HS3.out.cell 1
    have s2 : w3.cell? ⟨w.heap.size, 2, none⟩ = some (.int .i64 next) := HS3.out.cell 2
    have CL := Lib.hid (refCopied16_any Rs hsm.1 hsm.2.1 (fun r hr => by have := (hsm.2.2 r hr).2; omega) ao cap log next w3 (HA.out.below HB3.out))
    have HSM := Lib.hid hsm
    have HF := Lib.hid (And.intro hf1 hf2)
    unfold stV at CL
    clear hbb ho hsm hf1 hf2
    go_wp2_with fail
    with_reducible refine (CL.out).mono ?_
    rintro e w4 ⟨Rk, g, c, rfl, hcl⟩
    unfold stV
    have hba := (Below.refl w4.heap.size w4).alloc (Nat.le_refl _) (.cells (stA (some ⟨g, 0, none⟩) Rs.length c log next) 24)
    have HS5 := Lib.hid ((HS3.out.below hcl.bel).below hba)
    have HE5 := Lib.hid ((HE3.out.below hcl.bel).below hba)
    have HZ5 := Lib.hid ((HZ3.out.below hcl.bel).below hba)
    have hgl := hcl.row.lt g rfl
    have HBG := Lib.hid (show w.heap.size + 3 ≤ w4.heap.size from by have := HG3.out; omega)
    have HH := Lib.hid (show Ahd w w4.heap.size g c Rs Rk log next (w4.alloc (.cells (stA (some ⟨g, 0, none⟩) Rs.length c log next) 24)) from
      ⟨(hcl.rebase HB3.out).below hba, bkIn_new _ _ w4, by have := HBG.out; omega, by omega⟩)
    unfold stA at HS5 HE5 HZ5 HH
    obtain ⟨kind, at_, file, fs, fo, fk, key⟩ := y
    clear hba hgl CL HS3 HE3 HZ3 e2 s0 s1 s2 d1 d2
    have HSA := Lib.hid hcl.same
    have HLEN := Lib.hid hcl.len
    clear hcl
    generalize hw5 : w4.alloc (.cells #[.slice (some ⟨g, 0, none⟩) Rs.length c, .int .i64 log, .int .i64 next] 24) = w5 at *
    have HW5 := Lib.hid hw5
    clear hw5
    have HBB := Lib.hid (show w4.heap.size = w4.heap.size from rfl)
    have y0 : w5.cell? ⟨w.heap.size + 1, 0, none⟩ = some (.int .i64 kind) := HE5.out.cell 0
    have y1 : w5.cell? ⟨w.heap.size + 1, 1, none⟩ = some (.int .i64 at_) := HE5.out.cell 1
    have y2 : w5.cell? ⟨w.heap.size + 1, 2, none⟩ = some (.int .i64 file) := HE5.out.cell 2
    have y3 : w5.cell? ⟨w.heap.size + 1, 3, none⟩ = some (.slice fo fs.length fk) := HE5.out.cell 3
    have y4 : w5.cell? ⟨w.heap.size + 1, 4, none⟩ = some (.string (S key)) := HE5.out.cell 4
    have s0 : w5.cell? ⟨w.heap.size, 0, none⟩ = some (.slice ao Rs.length cap) := HS5.out.cell 0
    have s1 : w5.cell? ⟨w.heap.size, 1, none⟩ = some (.int .i64 log) := HS5.out.cell 1
    have s2 : w5.cell? ⟨w.heap.size, 2, none⟩ = some (.int .i64 next) := HS5.out.cell 2
    rw [← HW5.out] at y0 y1 y2 y3 y4 s0 s1 s2
    by_cases h5 : kind = 5
    · subst h5
      go_wp2_with fail
      rw [HW5.out] at *
      clear y0 y1 y2 y3 y4 s0 s1 s2
      generalize w4.heap.size = b at *
      have HM0 := Lib.hid (HH.out.mg (Kp.refl b w5))
      have HM := Lib.hid (HM0.out.below (Below.refl _ w5).drew)
      replace HE5 := Lib.hid (HE5.out.below (Below.refl _ w5).drew)
      clear HH HM0
      have ew : IntKind.i64.wrap (file + 1) = file + 1 := IntWalk.i64_in _ (by have := HF.out; omega)
      refine wp_region_held_drew (S := fun V => V.cell? ⟨w.heap.size + 1, 2, none⟩ = some (.int .i64 file)) (by kernel_rfl) ?_ (fun hHeld => ?_)
      · exact HE5.out.cell 2
      obtain ⟨wd, hwd⟩ : ∃ x, x = World.drew w5 := ⟨_, rfl⟩
      rw [← hwd] at HM HE5 hHeld ⊢
      clear hwd
      refine wpAnyH_take (i := 0) (oi := { dst := some 32, op := Op.fieldAddr 27 (Operand.tmp 3) 2, type := 0, pos := "ref.go:70", after := #[], guard := none }) (v := ?_) rfl (by kernel_rfl) (by kernel_rfl) (by kernel_rfl) (fun _ _ _ h => h) (Or.inl ⟨by rfl, ?_⟩) (by assumption) ?_
      rotate_left
      · (intro w hSw; (try dsimp only at hSw); go_simp); (first | done | with_reducible rfl)
      try simp only [Act.put, List.setIfInBounds_toArray, List.set_cons_zero, List.set_cons_succ]
      refine wpAnyH_take (i := 1) (oi := { dst := some 33, op := Op.load 3 (Operand.tmp 32), type := 3, pos := "ref.go:70", after := #[{ on := 0, ground := Ground.data }], guard := none }) (v := ?_) rfl (by kernel_rfl) (by kernel_rfl) (by kernel_rfl) (fun _ _ _ h => h) (Or.inl ⟨by rfl, ?_⟩) (by assumption) ?_
      rotate_left
      · (intro w hSw; (try dsimp only at hSw); go_simp); (first | done | with_reducible rfl)
      try simp only [Act.put, List.setIfInBounds_toArray, List.set_cons_zero, List.set_cons_succ]
      refine wpAnyH_take (i := 2) (oi := { dst := some 34, op := Op.fieldAddr 27 (Operand.tmp 3) 2, type := 0, pos := "ref.go:70", after := #[{ on := 6, ground := Ground.gcOnly Departure.lateStores }], guard := none }) (v := ?_) rfl (by kernel_rfl) (by kernel_rfl) (by kernel_rfl) (fun _ _ _ h => h) (Or.inl ⟨by rfl, ?_⟩) (by assumption) ?_
      rotate_left
      · (intro w hSw; (try dsimp only at hSw); go_simp); (first | done | with_reducible rfl)
      try simp only [Act.put, List.setIfInBounds_toArray, List.set_cons_zero, List.set_cons_succ]
      refine wpAnyH_take (i := 3) (oi := { dst := some 35, op := Op.load 3 (Operand.tmp 34), type := 3, pos := "ref.go:70", after := #[{ on := 2, ground := Ground.data }, { on := 6, ground := Ground.gcOnly Departure.lateStores }], guard := none }) (v := ?_) rfl (by kernel_rfl) (by kernel_rfl) (by kernel_rfl) (fun _ _ _ h => h) (Or.inl ⟨by rfl, ?_⟩) (by assumption) ?_
      rotate_left
      · (intro w hSw; (try dsimp only at hSw); go_simp); (first | done | with_reducible rfl)
      try simp only [Act.put, List.setIfInBounds_toArray, List.set_cons_zero, List.set_cons_succ]
      refine wpAnyH_take (i := 4) (oi := { dst := some 36, op := Op.binOp BinOp.add 3 (Operand.tmp 35) (Operand.const (Value.int IntKind.i64 1)) 3, type := 3, pos := "ref.go:70", after := #[{ on := 3, ground := Ground.data }, { on := 6, ground := Ground.gcOnly Departure.lateStores }], guard := none }) (v := ?_) rfl (by kernel_rfl) (by kernel_rfl) (by kernel_rfl) (fun _ _ _ h => h) (Or.inl ⟨by rfl, ?_⟩) (by assumption) ?_
      rotate_left
      · (intro w hSw; (try dsimp only at hSw); go_simp); (first | done | with_reducible rfl)
      try simp only [Act.put, List.setIfInBounds_toArray, List.set_cons_zero, List.set_cons_succ]
      refine wpAnyH_take (i := 5) (oi := { dst := some 37, op := Op.fieldAddr 24 (Operand.tmp 6) 1, type := 0, pos := "ref.go:70", after := #[{ on := 0, ground := Ground.phase }, { on := 1, ground := Ground.phase }, { on := 2, ground := Ground.textOnly Departure.lateStores }, { on := 3, ground := Ground.textOnly Departure.lateStores }, { on := 4, ground := Ground.textOnly Departure.lateStores }], guard := none }) (v := ?_) rfl (by kernel_rfl) (by kernel_rfl) (by kernel_rfl) (fun _ _ _ h => h) (Or.inl ⟨by rfl, ?_⟩) (by assumption) ?_
      rotate_left
      · (intro w hSw; (try dsimp only at hSw); go_simp); (first | done | with_reducible rfl)
      try simp only [Act.put, List.setIfInBounds_toArray, List.set_cons_zero, List.set_cons_succ]
      refine wpAnyH_ready (rs := [6]) (by kernel_rfl) (by simp) ?_
      refine AllReadyH.cons (o := { dst := none, op := Op.store 3 (Operand.tmp 37) (Operand.tmp 33), type := 0, pos := "ref.go:70", after := #[{ on := 5, ground := Ground.data }, { on := 1, ground := Ground.data }, { on := 0, ground := Ground.phase }, { on := 1, ground := Ground.phase }, { on := 2, ground := Ground.textOnly Departure.lateStores }, { on := 3, ground := Ground.textOnly Departure.lateStores }, { on := 4, ground := Ground.textOnly Departure.lateStores }], guard := none }) rfl (fun K hK => ?_) (AllReadyH.nil)
      have f9 := HM.out.bx.free 1
      have m9 := HM.out.bx.cell 1
      go_simp
      replace HM := Lib.hid (HM.out.setLog file)
      replace HE5 := Lib.hid (HE5.out.other (show w.heap.size + 1 ≠ b from by have := HBG.out; omega) 1 (.int .i64 file))
      clear f9 m9
      generalize wd.setCell ⟨b, 1, none⟩ (.int .i64 file) = wx at *
      refine hK.out _ _ ?_ (fun hHeld => ?_)
      · exact HE5.out.cell 2
      clear hK K
      try simp only [Act.put, List.setIfInBounds_toArray, List.set_cons_zero, List.set_cons_succ]
      refine wpAnyH_take (i := 7) (oi := { dst := some 38, op := Op.fieldAddr 24 (Operand.tmp 6) 2, type := 0, pos := "ref.go:70", after := #[{ on := 0, ground := Ground.phase }, { on := 1, ground := Ground.phase }, { on := 2, ground := Ground.phase }, { on := 3, ground := Ground.phase }, { on := 4, ground := Ground.phase }, { on := 5, ground := Ground.phase }, { on := 6, ground := Ground.phase }], guard := none }) (v := ?_) rfl (by kernel_rfl) (by kernel_rfl) (by kernel_rfl) (fun _ _ _ h => h) (Or.inl ⟨by rfl, ?_⟩) (by assumption) ?_
      rotate_left
      · (intro w hSw; (try dsimp only at hSw); go_simp); (first | done | with_reducible rfl)
      try simp only [Act.put, List.setIfInBounds_toArray, List.set_cons_zero, List.set_cons_succ]
      refine wpAnyH_ready (rs := [8]) (by kernel_rfl) (by simp) ?_
      refine AllReadyH.cons (o := { dst := none, op := Op.store 3 (Operand.tmp 38) (Operand.tmp 36), type := 0, pos := "ref.go:70", after := #[{ on := 7, ground := Ground.data }, { on := 4, ground := Ground.data }, { on := 6, ground := Ground.chain }, { on := 0, ground := Ground.phase }, { on := 1, ground := Ground.phase }, { on := 2, ground := Ground.phase }, { on := 3, ground := Ground.phase }, { on := 4, ground := Ground.phase }, { on := 5, ground := Ground.phase }, { on := 6, ground := Ground.phase }], guard := none }) rfl (fun K hK => ?_) (AllReadyH.nil)
      have f9 := HM.out.bx.free 2
      have m9 := HM.out.bx.cell 2
      go_simp
      replace HM := Lib.hid (HM.out.setNext (file + 1))
      replace HE5 := Lib.hid (HE5.out.other (show w.heap.size + 1 ≠ b from by have := HBG.out; omega) 2 (.int .i64 (file + 1)))
      clear f9 m9
      generalize wx.setCell ⟨b, 2, none⟩ (.int .i64 (file + 1)) = w6 at *
      refine hK.out _ _ ?_ (fun hHeld => ?_)
      · exact HE5.out.cell 2
      clear hK K
      try simp only [Act.put, List.setIfInBounds_toArray, List.set_cons_zero, List.set_cons_succ]
      refine wpAnyH_done (by kernel_rfl) ?_ _
      have HED0 := Lib.hid (edit_five (s := ⟨tbs Rs, log, next⟩) (e := (⟨5, at_, file, fs, fo, fk, key⟩ : Re).ed) rfl)
      have HKP := Lib.hid HM.out.kp
      clear hHeld HE5
      by_cases hq : next ≤ file
      · have dq : decide (next ≤ file) = true := decide_eq_true hq
        have HEO := Lib.hid (show EdOut w b (tbs Rs) file (file + 1) w6 from by have := (HM.out.ed rfl).1; rw [HSA.out] at this; exact this)
        obtain ⟨T6, lg, nx, n', HED, HOUT, HQQ⟩ : ∃ (T6 : List Ed.Tb) (lg nx n' : Int), Hid (Ed.edit ⟨tbs Rs, log, next⟩ (⟨5, at_, file, fs, fo, fk, key⟩ : Re).ed = some ⟨T6, lg, nx⟩) ∧ Hid (EdOut w b T6 lg n' w6) ∧ Hid (n' = nx ∨ ¬ Ed.Ok ⟨T6, lg, nx⟩ ∧ ¬ Ed.Ok ⟨T6, lg, n'⟩) :=
          ⟨_, _, _, _, Lib.hid (HED0.out.trans (if_pos hq)), HEO, Lib.hid (.inl rfl)⟩
        clear HM HED0 HEO hq
        have HZ6 := Lib.hid (HKP.out _ _ (by have := HBG.out; omega) HZ5.out)
        obtain ⟨R6, g6, c6, hX6, hO6, htb⟩ := HOUT.out
        have hts := edit_small (s := ⟨tbs Rs, log, next⟩) ⟨by simp only [tbs_length]; exact HSM.out.2.1, fun x hx => by
          obtain ⟨r, hr, rfl⟩ := List.mem_map.1 hx
          exact HSM.out.2.2 r hr⟩ hfl hkl HED.out
        have CK6 := Lib.hid (refCheck16_any R6 (rtsOk_of htb hts) (some ⟨g6, 0, none⟩) c6 lg n' w6 hO6.at_)
        have HX6 := Lib.hid hX6
        have HO6 := Lib.hid hO6
        have HTB := Lib.hid htb
        have HAP := Lib.hid (apply_some (e := (⟨5, at_, file, fs, fo, fk, key⟩ : Re).ed) ⟨HO.out, HF.out.1, HF.out.2⟩ HED.out)
        have s0 : w6.cell? ⟨b, 0, none⟩ = some (.slice (some ⟨g6, 0, none⟩) R6.length c6) := HX6.out.cell 0
        have s1 : w6.cell? ⟨b, 1, none⟩ = some (.int .i64 lg) := HX6.out.cell 1
        have s2 : w6.cell? ⟨b, 2, none⟩ = some (.int .i64 n') := HX6.out.cell 2
        unfold stV at CK6
        clear hX6 hO6 htb hts HOUT HKP HED HZ5
        go_wp2_with fail
        with_reducible refine (CK6.out).mono ?_
        rintro e w7 ⟨b7, rfl, hbw, hb7⟩
        have HZ7 := Lib.hid (HZ6.out.below hb7)
        have HX7 := Lib.hid (HX6.out.below hb7)
        have HO7 := Lib.hid (HO6.out.below hb7)
        clear hb7 CK6 HZ6 HX6 HO6 s0 s1 s2
        rw [HTB.out] at hbw
        cases b7 with
        | false =>
          have HNO := Lib.hid (show Ed.apply ⟨tbs Rs, log, next⟩ (⟨5, at_, file, fs, fo, fk, key⟩ : Re).ed = none from HAP.out.trans (if_neg (fun h => by
            rcases HQQ.out with rfl | h2
            · exact nomatch hbw.2 h
            · exact h2.1 h)))
          clear hbw
          go_wp2_with (refine wpList_store_row rfl 24 _ _ rfl (w.heap.size + 1 + 1) _ rfl rfl 24 _ HZ7.out infoSt_size rfl (by simp [Value.oneCell']) ?_)
          exact bodyPost_ret (ret_st2 rfl _ _ (w.heap.size + 1 + 1) rfl (load_st rfl (HZ7.out.rowPut stZ))) rfl ⟨below_row16 HO7.out.bel (by omega) _, .inr ⟨HNO.out, rfl⟩⟩
        | true =>
          have hok7 := hbw.1 rfl
          obtain rfl : n' = nx := by
            rcases HQQ.out with h2 | h2
            · exact h2
            · exact absurd hok7 h2.2
          have HYES := Lib.hid (HAP.out.trans (if_pos hok7))
          have s0 : w7.cell? ⟨b, 0, none⟩ = some (.slice (some ⟨g6, 0, none⟩) R6.length c6) := HX7.out.cell 0
          have s1 : w7.cell? ⟨b, 1, none⟩ = some (.int .i64 lg) := HX7.out.cell 1
          have s2 : w7.cell? ⟨b, 2, none⟩ = some (.int .i64 n') := HX7.out.cell 2
          clear hok7 hbw HQQ
          go_wp2_with (refine wpList_store_row rfl 24 _ _ rfl (w.heap.size + 1 + 1) _ rfl rfl 24 _ HZ7.out infoSt_size rfl (by simp [Value.oneCell']) ?_)
          exact bodyPost_ret (ret_st2 rfl _ _ (w.heap.size + 1 + 1) rfl (load_st rfl (HZ7.out.rowPut (stA (some ⟨g6, 0, none⟩) R6.length c6 lg n')))) rfl ⟨below_row16 HO7.out.bel (by omega) _, .inl ⟨_, R6, g6, c6, HYES.out, rfl, HO7.out.rowSt HZ7.out (by omega) _, HTB.out⟩⟩
      · have HED := Lib.hid (HED0.out.trans (if_neg hq))
        have dq : decide (next ≤ file) = false := decide_eq_false hq
        have HBEL := Lib.hid HM.out.own.bel
        clear HM HED0
        have HZ6 := Lib.hid (HKP.out _ _ (by have := HBG.out; omega) HZ5.out)
        have HAP := Lib.hid (apply_none HED.out)
        clear HED HKP HZ5
        go_wp2_with (refine wpList_store_row rfl 24 _ _ rfl (w.heap.size + 1 + 1) _ rfl rfl 24 _ HZ6.out infoSt_size rfl (by simp [Value.oneCell']) ?_)
        exact bodyPost_ret (ret_st2 rfl _ _ (w.heap.size + 1 + 1) rfl (load_st rfl (HZ6.out.rowPut stZ))) rfl ⟨below_row16 HBEL.out (by omega) _, .inr ⟨HAP.out, rfl⟩⟩
    · have d5 : (kind == 5) = false := by simpa using h5
      have HKP0 := Lib.hid (Kp.refl w4.heap.size w5)
      by_cases a1 : at_ < 0
      · have d1 : decide ((0 : Int) ≤ at_) = false := decide_eq_false (by omega)
        have HED := Lib.hid (edit_out (s := ⟨tbs Rs, log, next⟩) (e := (⟨kind, at_, file, fs, fo, fk, key⟩ : Re).ed) h5 (.inl a1))
        have HBEL := Lib.hid HH.out.cl.bel
        have HAP := Lib.hid (apply_none HED.out)
        rw [← HW5.out] at HZ5 HBEL
        go_wp2_with (refine wpList_store_row rfl 24 _ _ rfl (w.heap.size + 1 + 1) _ rfl rfl 24 _ HZ5.out infoSt_size rfl (by simp [Value.oneCell']) ?_)
        exact bodyPost_ret (ret_st2 rfl _ _ (w.heap.size + 1 + 1) rfl (load_st rfl (HZ5.out.rowPut stZ))) rfl ⟨below_row16 HBEL.out (by omega) _, .inr ⟨HAP.out, rfl⟩⟩
      have d1 : decide ((0 : Int) ≤ at_) = true := decide_eq_true (by omega)
      by_cases a2 : (Rs.length : Int) ≤ at_
      · have d2 : decide (at_ < (Rs.length : Int)) = false := decide_eq_false (by omega)
        have HED := Lib.hid (edit_out (s := ⟨tbs Rs, log, next⟩) (e := (⟨kind, at_, file, fs, fo, fk, key⟩ : Re).ed) h5 (.inr (by simp only [tbs_length]; exact a2)))
        have HBEL := Lib.hid HH.out.cl.bel
        have HAP := Lib.hid (apply_none HED.out)
        rw [← HW5.out] at HZ5 HBEL
        go_wp2_with (refine wpList_store_row rfl 24 _ _ rfl (w.heap.size + 1 + 1) _ rfl rfl 24 _ HZ5.out infoSt_size rfl (by simp [Value.oneCell']) ?_)
        exact bodyPost_ret (ret_st2 rfl _ _ (w.heap.size + 1 + 1) rfl (load_st rfl (HZ5.out.rowPut stZ))) rfl ⟨below_row16 HBEL.out (by omega) _, .inr ⟨HAP.out, rfl⟩⟩
      have d2 : decide (at_ < (Rs.length : Int)) = true := decide_eq_true (by omega)
      obtain ⟨k, rfl⟩ : ∃ k : Nat, at_ = k := ⟨at_.toNat, by omega⟩
      have CT := Lib.hid (refTablet16_any w w4.heap.size g c Rs Rk log next ao cap ⟨kind, k, file, fs, fo, fk, key⟩ k ⟨HA.out, hcap, fun r hr => ⟨(HSM.out.2.2 r hr).2, by
        obtain ⟨j, hj, rfl⟩ := List.getElem_of_mem hr
        have h1 := (HO.out.each j (by simp only [tbs_length]; exact hj)).2.2.1
        simp only [tbs_at, Rt.tb, show Rs.getD j rt0 = Rs[j] from by simp [List.getD, hj]] at h1
        exact up_strict16 h1⟩, HSM.out.2.1, by omega, rfl, HF.out, hfl, hfi, HN.out⟩ h5 w5 HH.out)
      rw [HSA.out] at CT
      unfold edA at CT
      simp only at CT
      rw [← HW5.out] at CT
      go_wp2_with fail
      with_reducible refine (CT.out).mono ?_
      rintro e w6 (⟨h1, rfl, hbel, hkp⟩ | ⟨⟨T6, lg, nx⟩, n', h1, rfl, ⟨hout, hkp⟩, hqq⟩)
      · have HED := Lib.hid h1
        have HKP := Lib.hid hkp
        have HBEL := Lib.hid hbel
        rw [HW5.out] at HKP
        clear h1 hkp hbel CT y0 y1 y2 y3 y4 s0 s1 s2
        generalize w4.heap.size = b at *
        have HZ6 := Lib.hid (HKP.out _ _ (by have := HBG.out; omega) HZ5.out)
        have HAP := Lib.hid (apply_none HED.out)
        clear HED HKP HZ5
        go_wp2_with (refine wpList_store_row rfl 24 _ _ rfl (w.heap.size + 1 + 1) _ rfl rfl 24 _ HZ6.out infoSt_size rfl (by simp [Value.oneCell']) ?_)
        exact bodyPost_ret (ret_st2 rfl _ _ (w.heap.size + 1 + 1) rfl (load_st rfl (HZ6.out.rowPut stZ))) rfl ⟨below_row16 HBEL.out (by omega) _, .inr ⟨HAP.out, rfl⟩⟩
      · simp only at hout hqq
        have HED := Lib.hid h1
        have HKP := Lib.hid hkp
        have HOUT := Lib.hid hout
        have HQQ := Lib.hid hqq
        rw [HW5.out] at HKP
        clear h1 hkp hout hqq CT y0 y1 y2 y3 y4 s0 s1 s2
        generalize w4.heap.size = b at *
        have HZ6 := Lib.hid (HKP.out _ _ (by have := HBG.out; omega) HZ5.out)
        obtain ⟨R6, g6, c6, hX6, hO6, htb⟩ := HOUT.out
        have hts := edit_small (s := ⟨tbs Rs, log, next⟩) ⟨by simp only [tbs_length]; exact HSM.out.2.1, fun x hx => by
          obtain ⟨r, hr, rfl⟩ := List.mem_map.1 hx
          exact HSM.out.2.2 r hr⟩ hfl hkl HED.out
        have CK6 := Lib.hid (refCheck16_any R6 (rtsOk_of htb hts) (some ⟨g6, 0, none⟩) c6 lg n' w6 hO6.at_)
        have HX6 := Lib.hid hX6
        have HO6 := Lib.hid hO6
        have HTB := Lib.hid htb
        have HAP := Lib.hid (apply_some (e := (⟨kind, k, file, fs, fo, fk, key⟩ : Re).ed) ⟨HO.out, HF.out.1, HF.out.2⟩ HED.out)
        have s0 : w6.cell? ⟨b, 0, none⟩ = some (.slice (some ⟨g6, 0, none⟩) R6.length c6) := HX6.out.cell 0
        have s1 : w6.cell? ⟨b, 1, none⟩ = some (.int .i64 lg) := HX6.out.cell 1
        have s2 : w6.cell? ⟨b, 2, none⟩ = some (.int .i64 n') := HX6.out.cell 2
        unfold stV at CK6
        clear hX6 hO6 htb hts HOUT HKP HED HZ5
        go_wp2_with fail
        with_reducible refine (CK6.out).mono ?_
        rintro e w7 ⟨b7, rfl, hbw, hb7⟩
        have HZ7 := Lib.hid (HZ6.out.below hb7)
        have HX7 := Lib.hid (HX6.out.below hb7)
        have HO7 := Lib.hid (HO6.out.below hb7)
        clear hb7 CK6 HZ6 HX6 HO6 s0 s1 s2
        rw [HTB.out] at hbw
        cases b7 with
        | false =>
          have HNO := Lib.hid (show Ed.apply ⟨tbs Rs, log, next⟩ (⟨kind, k, file, fs, fo, fk, key⟩ : Re).ed = none from HAP.out.trans (if_neg (fun h => by
            rcases HQQ.out with rfl | h2
            · exact nomatch hbw.2 h
            · exact h2.1 h)))
          clear hbw
          go_wp2_with (refine wpList_store_row rfl 24 _ _ rfl (w.heap.size + 1 + 1) _ rfl rfl 24 _ HZ7.out infoSt_size rfl (by simp [Value.oneCell']) ?_)
          exact bodyPost_ret (ret_st2 rfl _ _ (w.heap.size + 1 + 1) rfl (load_st rfl (HZ7.out.rowPut stZ))) rfl ⟨below_row16 HO7.out.bel (by omega) _, .inr ⟨HNO.out, rfl⟩⟩
        | true =>
          have hok7 := hbw.1 rfl
          obtain rfl : n' = nx := by
            rcases HQQ.out with h2 | h2
            · exact h2
            · exact absurd hok7 h2.2
          have HYES := Lib.hid (HAP.out.trans (if_pos hok7))
          have s0 : w7.cell? ⟨b, 0, none⟩ = some (.slice (some ⟨g6, 0, none⟩) R6.length c6) := HX7.out.cell 0
          have s1 : w7.cell? ⟨b, 1, none⟩ = some (.int .i64 lg) := HX7.out.cell 1
          have s2 : w7.cell? ⟨b, 2, none⟩ = some (.int .i64 n') := HX7.out.cell 2
          clear hok7 hbw HQQ
          go_wp2_with (refine wpList_store_row rfl 24 _ _ rfl (w.heap.size + 1 + 1) _ rfl rfl 24 _ HZ7.out infoSt_size rfl (by simp [Value.oneCell']) ?_)
          exact bodyPost_ret (ret_st2 rfl _ _ (w.heap.size + 1 + 1) rfl (load_st rfl (HZ7.out.rowPut (stA (some ⟨g6, 0, none⟩) R6.length c6 lg n')))) rfl ⟨below_row16 HO7.out.bel (by omega) _, .inl ⟨_, R6, g6, c6, HYES.out, rfl, HO7.out.rowSt HZ7.out (by omega) _, HTB.out⟩⟩
  · have HNO := Lib.hid (apply_bad (e := y.ed) hok)
    cases bb with
    | false =>
      clear hbb e2 hok
      go_wp2_with (refine wpList_store_row rfl 24 _ _ rfl (w.heap.size + 1 + 1) _ rfl rfl 24 _ HZ3.out infoSt_size rfl (by simp [Value.oneCell']) ?_)
      exact bodyPost_ret (ret_st2 rfl _ _ (w.heap.size + 1 + 1) rfl (load_st rfl (HZ3.out.rowPut stZ))) rfl ⟨below_row16 HB3.out (by omega) _, .inr ⟨HNO.out, rfl⟩⟩
    | true =>
      have ho := hbb.1 rfl
      by_cases q1 : y.file < 0
      · have d1 : decide (y.file < 0) = true := decide_eq_true q1
        clear hbb hok ho
        go_wp2_with (refine wpList_store_row rfl 24 _ _ rfl (w.heap.size + 1 + 1) _ rfl rfl 24 _ HZ3.out infoSt_size rfl (by simp [Value.oneCell']) ?_)
        exact bodyPost_ret (ret_st2 rfl _ _ (w.heap.size + 1 + 1) rfl (load_st rfl (HZ3.out.rowPut stZ))) rfl ⟨below_row16 HB3.out (by omega) _, .inr ⟨HNO.out, rfl⟩⟩
      · have d1 : decide (y.file < 0) = false := decide_eq_false q1
        have d2 : decide (2147483647 ≤ y.file) = true := decide_eq_true (by
          rcases Int.lt_or_le y.file 2147483647 with q | q
          · exact absurd ⟨ho, by omega, q⟩ hok
          · exact q)
        clear hbb hok ho
        go_wp2_with (refine wpList_store_row rfl 24 _ _ rfl (w.heap.size + 1 + 1) _ rfl rfl 24 _ HZ3.out infoSt_size rfl (by simp [Value.oneCell']) ?_)
        exact bodyPost_ret (ret_st2 rfl _ _ (w.heap.size + 1 + 1) rfl (load_st rfl (HZ3.out.rowPut stZ))) rfl ⟨below_row16 HB3.out (by omega) _, .inr ⟨HNO.out, rfl⟩⟩

end Go.Proofs.Ytfcmjgcjmldpcaa
