/- Layer 16: the document's tablet, kind 4, by a contract (gentablet.py). -/
import Derived.Test.YtfcmjgcjmldpcaaEditsAm
namespace Go.Proofs.Ytfcmjgcjmldpcaa
set_option linter.unusedVariables false
set_option linter.unusedSimpArgs false
open Go Go.RowKit
attribute [local go_sem ↓] run_index_S
attribute [local go_sem] S_append S_extract

theorem put_len (n : Int) : ∀ l : List Int, (Ed.put n l).length ≤ l.length + 1
  | [] => by simp [Ed.put]
  | x :: t => by
    have := put_len n t
    unfold Ed.put
    split
    · simp
    · split
      · simp
      · simp only [List.length_cons]; omega
/-- Numbers laid one by one to those that are there. -/
def puts16 (l k : List Int) : List Int := k.foldl (fun a n => Ed.put n a) l
theorem puts16_snoc (l k : List Int) (n : Int) : puts16 l (k ++ [n]) = Ed.put n (puts16 l k) := by unfold puts16; rw [List.foldl_append]; rfl
theorem puts16_strict {l : List Int} (k : List Int) (h : l.Pairwise (· < ·)) : (puts16 l k).Pairwise (· < ·) := (Ed.fold_spec k l h).1
theorem puts16_len (l : List Int) : ∀ k : List Int, (puts16 l k).length ≤ l.length + k.length := fun k => by
  induction k generalizing l with
  | nil => simp [puts16]
  | cons x k ih =>
    have h1 := ih (Ed.put x l)
    have h2 := put_len x l
    unfold puts16 at *
    simp only [List.foldl_cons, List.length_cons]
    omega
theorem puts16_uni {l : List Int} (k : List Int) (h : l.Pairwise (· < ·)) : puts16 l k = Ed.uni (l ++ k) := by
  have h1 : Ed.uni l = l := strict_eq (Ed.uni_spec l).1 h (fun x => (Ed.uni_spec l).2 x)
  unfold Ed.uni at *
  rw [List.foldl_append, h1]; rfl
set_option maxHeartbeats 4000000 in
set_option maxRecDepth 100000 in
theorem refTablet_four (w0 : World) (b g c : Nat) (Rs Rk : List Rt) (log next : Int) (so : Option Addr) (sc : Nat) (y : Re) (k : Nat) (hq : RtQ w0 Rs Rk so y k) (hkd : y.kind = 4) (w : World) (h : Ahd w0 b g c Rs Rk log next w) :
    Calls Try.prog 33 #[.pointer (some ⟨b, 0, none⟩), .agg #[.slice so Rs.length sc, .int .i64 log, .int .i64 next], .agg (edA y)] w (EditR w0 w b ⟨tbs Rk, log, next⟩ y) := by
  obtain ⟨kind, at_, file, fs, fo, fk, key⟩ := y
  have hat := hq.yat
  simp only at hkd hat
  subst hkd
  subst hat
  have HQ := Lib.hid hq
  have HFL := Lib.hid hq.fok
  have hfl := hq.fl
  simp only at hfl
  have hk := hq.kn
  have hn16 := hq.n16
  have hlen : Rk.length = Rs.length := h.cl.len
  obtain ⟨w1, hw1⟩ : ∃ x, x = (w.alloc (.cells #[.slice so Rs.length sc, .int .i64 log, .int .i64 next] 24)).alloc (.cells #[.int .i64 4, .int .i64 k, .int .i64 file, .slice fo fs.length fk, .string (S key)] 27) := ⟨_, rfl⟩
  have HI := Lib.hid (show RtI w0 w b g c Rs Rk log next so sc ⟨4, k, file, fs, fo, fk, key⟩ w.heap.size w1 from by
    have hb2 : Below w.heap.size w w1 := by rw [hw1]; exact bel_two _ _ _
    refine ⟨h.below hb2, (Kp.refl b w).below hb2, by rw [hw1]; exact (bkIn_new _ _ w).below ((Below.refl _ _).alloc (Nat.le_refl _) _), ?_, h.bx.lt⟩
    rw [hw1]
    exact bkIn_put16 _ _ (by simp))
  have HSA := Lib.hid (same_at h.cl.same k)
  obtain ⟨gs, os, rfl, ct⟩ := hq.at_.off k hk
  have HT := Lib.hid ct
  have HED := Lib.hid (edit_in (s := ⟨tbs Rk, log, next⟩) (e := (⟨4, k, file, fs, fo, fk, key⟩ : Re).ed) (k := k) (by simp [Re.ed]) rfl (by simp only [tbs_length]; rw [hlen]; exact hk))
  simp only [Re.ed, setT_tbs, tbs_at, tbs_length, Rt.tb] at HED
  have HLEN := Lib.hid hlen
  have HMEM := Lib.hid (Ed.gD_mem (d := rt0) hk)
  have hki : (k : Int) < (Rs.length : Int) := by omega
  have hki2 : (k : Int) < (Rk.length : Int) := by omega
  unfold edA
  simp only
  clear ct hq h hlen
  generalize hrs : Rs.getD k rt0 = rs at *
  obtain ⟨sf, sl, sro, srk⟩ := rs
  have HRS := Lib.hid hrs
  clear hrs
  have G0 := Lib.hid (show ∃ G, G = w.heap.size from ⟨_, rfl⟩)
  have e1 : w1.cell? ⟨w.heap.size + 1, 1, none⟩ = some (.int .i64 k) := HI.out.eb.cell 1
  have e0 : w1.cell? ⟨w.heap.size + 1, 0, none⟩ = some (.int .i64 4) := HI.out.eb.cell 0
  have s0 : w1.cell? ⟨w.heap.size, 0, none⟩ = some (.slice (some ⟨gs, os, none⟩) Rs.length sc) := HI.out.sb.cell 0
  have o1 : w1.cell? ⟨gs, os + k * 2 + 1, none⟩ = some (.slice sro sl.length srk) := (HT.out.below HI.out.ah.cl.bel).2.1
  rw [hw1] at e0 e1 s0 o1
  go_enter Try.func33, Try.ntmps33
  obtain ⟨i0, zz, hi0, hz0, h01, h02, h03⟩ := infoN_parts
  obtain ⟨i1, z1, hi1, hz1, h11, h12, h13⟩ := infoTb_parts
  have ek1 : IntKind.i64.wrap ((k : Int) + 1) = (k : Int) + 1 := IntWalk.i64_in _ (by omega)
  have ek2 : IntKind.i64.wrap ((k : Int) + 2) = (k : Int) + 2 := IntWalk.i64_in _ (by omega)
  have e1' : decide ((0 : Int) ≤ (k : Int) + 1) = true := decide_eq_true (by omega)
  by_cases hlast : k + 1 < Rs.length
  · have d1 : decide ((Rs.length : Int) ≤ (k : Int) + 1) = false := decide_eq_false (by omega)
    have d2 : decide (Rs.length ≤ k + 1) = false := decide_eq_false (by omega)
    obtain ⟨gs', os', e, ct2⟩ := HQ.out.at_.off (k + 1) hlast
    cases e
    have HT2 := Lib.hid ct2
    have HMEM2 := Lib.hid (Ed.gD_mem (d := rt0) hlast)
    have HSA2 := Lib.hid (same_at HI.out.ah.cl.same (k + 1))
    generalize Rs.getD (k + 1) rt0 = nr at *
    obtain ⟨nf, nl, nro, nrk⟩ := nr
    have hsl := HQ.out.up _ HMEM.out
    have hnl := (HQ.out.up _ HMEM2.out).1
    try simp only at hsl
    try simp only at hnl
    have HSU := Lib.hid hsl.2
    have hsl1 := hsl.1
    clear ct2 hsl
    go_wp2_with fail
    rw [← hw1]
    clear hw1 e0 e1 s0 o1 d1 d2
    generalize w.heap.size = G at *
    have hk1i : (k : Int) + 1 < (Rs.length : Int) := by omega
    go_loopw [10, 11] (fun lv i wr => ∃ (j : Nat) (aj : Option Addr) (cj : Nat), j ≤ nl.length ∧ i = .int .i64 j ∧ lv = .slice aj (puts16 sl (nl.take j)).length cj ∧ Hid (NsAt wr aj (puts16 sl (nl.take j))) ∧ Hid ((puts16 sl (nl.take j)).length ≤ cj) ∧ Hid (Below w1.heap.size w1 wr)) (fun lv i _ => nl.length - (intOf i).toNat)
    case atStart => exact ⟨0, sro, srk, Nat.zero_le _, rfl, rfl, Lib.hid (HT.out.2.2.below HI.out.ah.cl.bel), Lib.hid (HQ.out.cap _ HMEM.out), Lib.hid (Below.refl _ _)⟩
    case round =>
      obtain ⟨j, aj, cj, hj, rfl, rfl, HN, HCJ, HB⟩ := hrel
      have e1 : wr.cell? ⟨G + 1, 1, none⟩ = some (.int .i64 k) := (HI.out.below HB.out).eb.cell 1
      have s0 : wr.cell? ⟨G, 0, none⟩ = some (.slice (some ⟨gs, os, none⟩) Rs.length sc) := (HI.out.below HB.out).sb.cell 0
      have o2 : wr.cell? ⟨gs, os + (k + 1) * 2 + 1, none⟩ = some (.slice nro nl.length nrk) := (HT2.out.below (HI.out.below HB.out).ah.cl.bel).2.1
      by_cases hlt : j < nl.length
      · have hji : (j : Int) < (nl.length : Int) := by omega
        obtain ⟨gn, on, e, x0⟩ := (HT2.out.below (HI.out.below HB.out).ah.cl.bel).2.2.off j hlt
        try simp only at e
        subst e
        have HTK := Lib.hid (Ed.take_snoc nl j 0 hlt)
        have HLT := Lib.hid hlt
        have hpl := puts16_len sl (nl.take j)
        have htl : (nl.take j).length ≤ 256 := by rw [List.length_take]; omega
        generalize nl.getD j 0 = n at *
        have CP := Lib.hid (refPut16_any (puts16 sl (nl.take j)) (by omega) (puts16_strict _ HSU.out) aj cj HCJ.out n wr HN.out)
        have HP := Lib.hid (show Ed.put n (puts16 sl (nl.take j)) = puts16 sl (nl.take (j + 1)) from by rw [HTK.out, puts16_snoc])
        unfold RefPutR at CP
        rw [HP.out] at CP
        clear hpl htl hlt
        go_wp2_with fail
        with_reducible refine (CP.out).mono ?_
        rintro e w3 ⟨a3, c3, rfl, h3, h4, hb3⟩
        have HN3 := Lib.hid h3
        have HC3 := Lib.hid h4
        have HB3 := Lib.hid (below_step HB.out hb3)
        clear h3 h4 hb3 CP HN HB HCJ e1 s0 o2 x0
        go_wp2_with fail
        go_roundw
        case rel => exact ⟨j + 1, a3, c3, by have := HLT.out; omega, by go_num, rfl, HN3, HC3, HB3⟩
        case measure => have := HLT.out; simp [intOf]; omega
      · obtain rfl : j = nl.length := by omega
        rw [List.take_length] at HN HCJ ⊢
        have hml := puts16_len sl nl
        have HPU := Lib.hid (puts16_uni nl HSU.out)
        generalize puts16 sl nl = Lm at *
        have d0 : decide ((nl.length : Int) < (nl.length : Int)) = false := by simp
        have d1 : decide (nl.length < nl.length) = false := by simp
        go_wp2_with fail
        clear d0 d1 e1 s0 o2
        have HJ := Lib.hid (HI.out.below HB.out)
        replace HN := Lib.hid (HN.out.below (Below.refl _ wr).drew)
        replace HJ := Lib.hid (HJ.out.below (Below.refl _ wr).drew)
        refine wp_region_Z (S := fun V => V.cell? ⟨b, 0, none⟩ = some (.slice (some ⟨g, 0, none⟩) Rs.length c) ∧ V.cell? ⟨G + 1, 1, none⟩ = some (.int .i64 k)) 10 (by kernel_rfl) ?_ (fun hHeld => ?_)
        · exact ⟨HJ.out.ah.bx.cell 0, HJ.out.eb.cell 1⟩
        obtain ⟨wd, hwd⟩ : ∃ x, x = World.drew wr := ⟨_, rfl⟩
        rw [← hwd] at HJ HN hHeld ⊢
        clear hwd
        have HSS := Lib.hid (show wd.cell? ⟨b, 0, none⟩ = some (.slice (some ⟨g, 0, none⟩) Rs.length c) ∧ wd.cell? ⟨G + 1, 1, none⟩ = some (.int .i64 k) from ⟨HJ.out.ah.bx.cell 0, HJ.out.eb.cell 1⟩)
        refine wpAnyZ_takeY (i := 0) (oi := { dst := some 175, op := Op.move (Operand.tmp 0), type := 59, pos := "ref.go:110", after := #[], guard := none }) (v := ?_) rfl (by kernel_rfl) (by kernel_rfl) (by kernel_rfl) (by rfl) (fun _ _ _ h => h) (Or.inl ⟨by rfl, ?_⟩) (by assumption) ?_
        rotate_left
        · (intro w; go_simp); (first | done | with_reducible rfl)
        try simp only [Act.put, List.setIfInBounds_toArray, List.set_cons_zero, List.set_cons_succ]
        refine wpAnyZ_takeY (i := 1) (oi := { dst := some 176, op := Op.nilCheck (Operand.tmp 175), type := 0, pos := "ref.go:110", after := #[{ on := 0, ground := Ground.data }], guard := none }) (v := ?_) rfl (by kernel_rfl) (by kernel_rfl) (by kernel_rfl) (by rfl) (fun _ _ _ h => h) (Or.inl ⟨by rfl, ?_⟩) (by assumption) ?_
        rotate_left
        · (intro w; go_simp); (first | done | with_reducible rfl)
        try simp only [Act.put, List.setIfInBounds_toArray, List.set_cons_zero, List.set_cons_succ]
        refine wpAnyZ_takeY (i := 2) (oi := { dst := some 177, op := Op.fieldAddr 24 (Operand.tmp 176) 0, type := 0, pos := "ref.go:110", after := #[{ on := 1, ground := Ground.data }], guard := none }) (v := ?_) rfl (by kernel_rfl) (by kernel_rfl) (by kernel_rfl) (by rfl) (fun _ _ _ h => h) (Or.inl ⟨by rfl, ?_⟩) (by assumption) ?_
        rotate_left
        · (intro w; go_simp); (first | done | with_reducible rfl)
        try simp only [Act.put, List.setIfInBounds_toArray, List.set_cons_zero, List.set_cons_succ]
        refine wpAnyZ_take (i := 3) (oi := { dst := some 178, op := Op.load 22 (Operand.tmp 177), type := 22, pos := "ref.go:110", after := #[{ on := 2, ground := Ground.data }], guard := none }) (v := ?_) [8, 9, 10] rfl (by kernel_rfl) (by kernel_rfl) (by kernel_rfl) (by kernel_rfl) (fun _ _ _ h => h) (Or.inl ⟨by rfl, ?_⟩) (by assumption) ?_
        rotate_left
        · (intro w hSw; (try dsimp only at hSw); go_simp); (first | done | with_reducible rfl)
        try simp only [Act.put, List.setIfInBounds_toArray, List.set_cons_zero, List.set_cons_succ]
        refine wpAnyZ_takeY (i := 4) (oi := { dst := some 179, op := Op.fieldAddr 27 (Operand.tmp 5) 1, type := 0, pos := "ref.go:110", after := #[], guard := none }) (v := ?_) rfl (by kernel_rfl) (by kernel_rfl) (by kernel_rfl) (by rfl) (fun _ _ _ h => h) (Or.inl ⟨by rfl, ?_⟩) (by assumption) ?_
        rotate_left
        · (intro w; go_simp); (first | done | with_reducible rfl)
        try simp only [Act.put, List.setIfInBounds_toArray, List.set_cons_zero, List.set_cons_succ]
        refine wpAnyZ_take (i := 5) (oi := { dst := some 180, op := Op.load 3 (Operand.tmp 179), type := 3, pos := "ref.go:110", after := #[{ on := 4, ground := Ground.data }], guard := none }) (v := ?_) [8, 9, 10] rfl (by kernel_rfl) (by kernel_rfl) (by kernel_rfl) (by kernel_rfl) (fun _ _ _ h => h) (Or.inl ⟨by rfl, ?_⟩) (by assumption) ?_
        rotate_left
        · (intro w hSw; (try dsimp only at hSw); go_simp); (first | done | with_reducible rfl)
        try simp only [Act.put, List.setIfInBounds_toArray, List.set_cons_zero, List.set_cons_succ]
        refine wpAnyZ_takeY (i := 6) (oi := { dst := some 181, op := Op.move (Operand.tmp 10), type := 25, pos := "ref.go:110", after := #[], guard := none }) (v := ?_) rfl (by kernel_rfl) (by kernel_rfl) (by kernel_rfl) (by rfl) (fun _ _ _ h => h) (Or.inl ⟨by rfl, ?_⟩) (by assumption) ?_
        rotate_left
        · (intro w; go_simp); (first | done | with_reducible rfl)
        try simp only [Act.put, List.setIfInBounds_toArray, List.set_cons_zero, List.set_cons_succ]
        refine wpAnyZ_ready (rs := [7]) (by kernel_rfl) (by simp) ?_
        refine AllReadyZ.cons (o := { dst := some 182, op := Op.call { callee := Callee.builtin Builtin.append, args := #[Operand.const (Value.slice none 0 0), Operand.tmp 181], argTypes := #[25, 25] }, type := 25, pos := "ref.go:110", after := #[{ on := 6, ground := Ground.data }], guard := none }) rfl (by rfl) (fun K hK => ?_) (AllReadyZ.nil)
        refine step_append_nums16 (by rfl) _ _ 25 (by rfl) wd.heap.size i0 zz Try.underlying25 hi0 hz0 h01 h02 h03 (.slice none 0 0) 0 [] (by rfl) (World.ownsRow_nil _ _ _ _) aj cj Lm.length Lm (by rfl) rfl HN.out (by omega) (Nat.le_refl _) ?_
        intro v5 w5 ho5 hg5
        rw [Nat.zero_add, List.nil_append] at ho5
        obtain ⟨a5, c5, rfl⟩ := own_shape16 ho5
        have hb5 := (Below.refl wd.heap.size wd).grown hg5 (Nat.le_refl _) (fun q hq => by cases hq)
        have HO := Lib.hid (HJ.out.ah.own.store (k := k) (by rw [HLEN.out]; exact hk) hb5 ho5)
        replace HJ := Lib.hid (HJ.out.below hb5)
        clear ho5 hg5 hb5
        have HSS := Lib.hid (show w5.cell? ⟨b, 0, none⟩ = some (.slice (some ⟨g, 0, none⟩) Rs.length c) ∧ w5.cell? ⟨G + 1, 1, none⟩ = some (.int .i64 k) from ⟨HJ.out.ah.bx.cell 0, HJ.out.eb.cell 1⟩)
        refine hK.out _ _ ?_ (fun hHeld => ?_)
        · exact ⟨HJ.out.ah.bx.cell 0, HJ.out.eb.cell 1⟩
        clear hK K
        try simp only [Act.put, List.setIfInBounds_toArray, List.set_cons_zero, List.set_cons_succ]
        refine wpAnyZ_takeY (i := 8) (oi := { dst := some 183, op := Op.indexAddr 22 (Operand.tmp 178) (Operand.tmp 180), type := 0, pos := "ref.go:110", after := #[{ on := 3, ground := Ground.data }, { on := 5, ground := Ground.data }, { on := 0, ground := Ground.phase }, { on := 1, ground := Ground.phase }, { on := 2, ground := Ground.phase }, { on := 3, ground := Ground.phase }, { on := 4, ground := Ground.phase }, { on := 5, ground := Ground.phase }, { on := 6, ground := Ground.phase }, { on := 7, ground := Ground.phase }], guard := none }) (v := ?_) rfl (by kernel_rfl) (by kernel_rfl) (by kernel_rfl) (by rfl) (fun _ _ _ h => h) (Or.inl ⟨by rfl, ?_⟩) (by assumption) ?_
        rotate_left
        · (intro w; go_simp); (first | done | with_reducible rfl)
        try simp only [Act.put, List.setIfInBounds_toArray, List.set_cons_zero, List.set_cons_succ]
        refine wpAnyZ_takeY (i := 9) (oi := { dst := some 184, op := Op.fieldAddr 41 (Operand.tmp 183) 1, type := 0, pos := "ref.go:110", after := #[{ on := 8, ground := Ground.data }, { on := 0, ground := Ground.phase }, { on := 1, ground := Ground.phase }, { on := 2, ground := Ground.phase }, { on := 3, ground := Ground.phase }, { on := 4, ground := Ground.phase }, { on := 5, ground := Ground.phase }, { on := 6, ground := Ground.phase }, { on := 7, ground := Ground.phase }], guard := none }) (v := ?_) rfl (by kernel_rfl) (by kernel_rfl) (by kernel_rfl) (by rfl) (fun _ _ _ h => h) (Or.inl ⟨by rfl, ?_⟩) (by assumption) ?_
        rotate_left
        · (intro w; go_simp); (first | done | with_reducible rfl)
        try simp only [Act.put, List.setIfInBounds_toArray, List.set_cons_zero, List.set_cons_succ]
        refine wpAnyZ_ready (rs := [10]) (by kernel_rfl) (by simp) ?_
        refine AllReadyZ.last (o := { dst := none, op := Op.store 25 (Operand.tmp 184) (Operand.tmp 182), type := 0, pos := "ref.go:110", after := #[{ on := 9, ground := Ground.data }, { on := 7, ground := Ground.data }, { on := 7, ground := Ground.chain }, { on := 0, ground := Ground.phase }, { on := 1, ground := Ground.phase }, { on := 2, ground := Ground.phase }, { on := 3, ground := Ground.phase }, { on := 4, ground := Ground.phase }, { on := 5, ground := Ground.phase }, { on := 6, ground := Ground.phase }, { on := 7, ground := Ground.phase }], guard := none }) rfl (fun K hK => ?_) AllReadyZ.nil
        have f9 := HJ.out.ah.own.row.frozenAt (k * 2 + 1)
        have m9 := HJ.out.ah.cells hk
        go_simp
        refine hK.out _ _ ?_
        clear hK K
        refine wpAny_done (by kernel_rfl) ?_ _
        have HM := Lib.hid (show MgI w0 w b g c Rs.length (Rk.set k ⟨(Rk.getD k rt0).f, Lm, a5, c5⟩) log next (w5.setCell ⟨g, k * 2 + 1, none⟩ (.slice a5 Lm.length c5)) from ⟨HO.out, HJ.out.ah.bx.other HJ.out.ah.ne _ _, HJ.out.ah.ne, HJ.out.ah.b0, HJ.out.kp.cellT HJ.out.ah.cl.row _ _⟩)
        have HEB := Lib.hid (HJ.out.eb.other (show G + 1 ≠ g from fun e => own_of_blk HJ.out.eb HJ.out.ah.cl.row (by decide) (by rw [e]; rfl)) (k * 2 + 1) (.slice a5 Lm.length c5))
        have HRL := Lib.hid (show (Rk.set k ⟨(Rk.getD k rt0).f, Lm, a5, c5⟩).length = Rs.length from by rw [List.length_set, HLEN.out])
        have HTB := Lib.hid (tbs_mergeL Rk k (by rw [HLEN.out]; exact hk) ⟨(Rk.getD k rt0).f, Lm, a5, c5⟩)
        generalize Rk.set k ⟨(Rk.getD k rt0).f, Lm, a5, c5⟩ = R1 at *
        clear HO HJ HSS hHeld f9 m9 HN HCJ HB
        generalize (w5.setCell ⟨g, k * 2 + 1, none⟩ (.slice a5 Lm.length c5)) = w6 at *
        have hcap : Rs.length ≤ c := by rw [← HRL.out]; exact own_cap16 HM.out.own.row
        have hj1 : ((k : Int) + 1).toNat = k + 1 := by omega
        have hj2 : ((k : Int) + 2).toNat = k + 2 := by omega
        have b1 : (k : Int) + 1 ≤ (c : Int) := by omega
        have b2 : (0 : Int) ≤ (k : Int) + 1 := by omega
        have b3 : (k : Int) + 2 ≤ (Rs.length : Int) := by omega
        have b4 : (0 : Int) ≤ (k : Int) + 2 := by omega
        have b5 : (k : Int) + 2 ≤ (c : Int) := by omega
        go_wp2_with fail
        have FIN := Lib.hid (show ∀ (g8 c8 : Nat) (x : World), MgI w0 w b g c Rs.length R1 log next x → x.ownsRow w6.heap.size 41 2 (.slice (some ⟨g8, 0, none⟩) (k + 1 + (Rs.length - (k + 2))) c8) (k + 1 + (Rs.length - (k + 2))) (tbC (R1.take (k + 1)) ++ tbC (R1.drop (k + 2))) → EdOut w0 b (tbs (mergeL R1 k)) log next (x.setCell ⟨b, 0, none⟩ (.slice (some ⟨g8, 0, none⟩) (k + 1 + (Rs.length - (k + 2))) c8)) ∧ Kp b w (x.setCell ⟨b, 0, none⟩ (.slice (some ⟨g8, 0, none⟩) (k + 1 + (Rs.length - (k + 2))) c8)) from fun g8 c8 x hm ho => by
          have hln : (mergeL R1 k).length = k + 1 + (Rs.length - (k + 2)) := by rw [mergeL_len R1 k (by rw [HRL.out]; exact hlast), HRL.out]; omega
          have hrow : x.ownsRow w0.heap.size 41 2 (.slice (some ⟨g8, 0, none⟩) (mergeL R1 k).length c8) (mergeL R1 k).length (tbC (mergeL R1 k)) := by
            rw [hln]
            unfold mergeL
            rw [tbC_app]
            exact own_base16 ho HM.out.own.bel.size
          have hown : Own16 w0 g8 c8 (mergeL R1 k) x := ⟨hrow, fun r hr => hm.own.own r (mergeL_mem hr), hm.own.bel⟩
          refine ⟨(hown.box hm.bx hm.b0 0 _).out (c := c8) ?_, hm.kp.box 0 _⟩
          have := hm.bx.set 0 (.slice (some ⟨g8, 0, none⟩) (k + 1 + (Rs.length - (k + 2))) c8)
          rw [hln]
          simpa using this)
        by_cases hl2 : k + 2 < Rs.length
        · have q0 : ¬ (c = k + 2) := by omega
          have HB7 := Lib.hid ((Below.refl w6.heap.size w6).drew)
          have HK := Lib.hid (HM.out.below HB7.out)
          have HE := Lib.hid (HEB.out.below HB7.out)
          refine wp_region_Z (S := fun V => V.cell? ⟨b, 0, none⟩ = some (.slice (some ⟨g, 0, none⟩) Rs.length c) ∧ V.cell? ⟨G + 1, 1, none⟩ = some (.int .i64 k)) 21 (by kernel_rfl) ?_ (fun hHeld => ?_)
          · exact ⟨HK.out.bx.cell 0, HE.out.cell 1⟩
          obtain ⟨wd, hwd⟩ : ∃ x, x = World.drew w6 := ⟨_, rfl⟩
          rw [← hwd] at HB7 HK HE hHeld ⊢
          clear hwd
          refine wpAnyZ_takeY (i := 0) (oi := { dst := some 185, op := Op.move (Operand.tmp 0), type := 59, pos := "ref.go:111", after := #[], guard := none }) (v := ?_) rfl (by kernel_rfl) (by kernel_rfl) (by kernel_rfl) (by rfl) (fun _ _ _ h => h) (Or.inl ⟨by rfl, ?_⟩) (by assumption) ?_
          rotate_left
          · (intro w; go_simp); (first | done | with_reducible rfl)
          try simp only [Act.put, List.setIfInBounds_toArray, List.set_cons_zero, List.set_cons_succ]
          refine wpAnyZ_takeY (i := 1) (oi := { dst := some 186, op := Op.move (Operand.tmp 0), type := 59, pos := "ref.go:111", after := #[], guard := none }) (v := ?_) rfl (by kernel_rfl) (by kernel_rfl) (by kernel_rfl) (by rfl) (fun _ _ _ h => h) (Or.inl ⟨by rfl, ?_⟩) (by assumption) ?_
          rotate_left
          · (intro w; go_simp); (first | done | with_reducible rfl)
          try simp only [Act.put, List.setIfInBounds_toArray, List.set_cons_zero, List.set_cons_succ]
          refine wpAnyZ_takeY (i := 2) (oi := { dst := some 187, op := Op.nilCheck (Operand.tmp 186), type := 0, pos := "ref.go:111", after := #[{ on := 1, ground := Ground.data }], guard := none }) (v := ?_) rfl (by kernel_rfl) (by kernel_rfl) (by kernel_rfl) (by rfl) (fun _ _ _ h => h) (Or.inl ⟨by rfl, ?_⟩) (by assumption) ?_
          rotate_left
          · (intro w; go_simp); (first | done | with_reducible rfl)
          try simp only [Act.put, List.setIfInBounds_toArray, List.set_cons_zero, List.set_cons_succ]
          refine wpAnyZ_takeY (i := 3) (oi := { dst := some 188, op := Op.fieldAddr 24 (Operand.tmp 187) 0, type := 0, pos := "ref.go:111", after := #[{ on := 2, ground := Ground.data }], guard := none }) (v := ?_) rfl (by kernel_rfl) (by kernel_rfl) (by kernel_rfl) (by rfl) (fun _ _ _ h => h) (Or.inl ⟨by rfl, ?_⟩) (by assumption) ?_
          rotate_left
          · (intro w; go_simp); (first | done | with_reducible rfl)
          try simp only [Act.put, List.setIfInBounds_toArray, List.set_cons_zero, List.set_cons_succ]
          refine wpAnyZ_take (i := 4) (oi := { dst := some 189, op := Op.load 22 (Operand.tmp 188), type := 22, pos := "ref.go:111", after := #[{ on := 3, ground := Ground.data }], guard := none }) (v := ?_) [8, 9, 18, 19, 20, 21] rfl (by kernel_rfl) (by kernel_rfl) (by kernel_rfl) (by kernel_rfl) (fun _ _ _ h => h) (Or.inl ⟨by rfl, ?_⟩) (by assumption) ?_
          rotate_left
          · (intro w hSw; (try dsimp only at hSw); go_simp); (first | done | with_reducible rfl)
          try simp only [Act.put, List.setIfInBounds_toArray, List.set_cons_zero, List.set_cons_succ]
          refine wpAnyZ_takeY (i := 5) (oi := { dst := some 190, op := Op.fieldAddr 27 (Operand.tmp 5) 1, type := 0, pos := "ref.go:111", after := #[], guard := none }) (v := ?_) rfl (by kernel_rfl) (by kernel_rfl) (by kernel_rfl) (by rfl) (fun _ _ _ h => h) (Or.inl ⟨by rfl, ?_⟩) (by assumption) ?_
          rotate_left
          · (intro w; go_simp); (first | done | with_reducible rfl)
          try simp only [Act.put, List.setIfInBounds_toArray, List.set_cons_zero, List.set_cons_succ]
          refine wpAnyZ_take (i := 6) (oi := { dst := some 191, op := Op.load 3 (Operand.tmp 190), type := 3, pos := "ref.go:111", after := #[{ on := 5, ground := Ground.data }], guard := none }) (v := ?_) [7, 8, 9, 18, 19, 20, 21] rfl (by kernel_rfl) (by kernel_rfl) (by kernel_rfl) (by kernel_rfl) (fun _ _ _ h => h) (Or.inl ⟨by rfl, ?_⟩) (by assumption) ?_
          rotate_left
          · (intro w hSw; (try dsimp only at hSw); go_simp); (first | done | with_reducible rfl)
          try simp only [Act.put, List.setIfInBounds_toArray, List.set_cons_zero, List.set_cons_succ]
          refine wpAnyZ_takeY (i := 7) (oi := { dst := some 192, op := Op.binOp BinOp.add 3 (Operand.tmp 191) (Operand.const (Value.int IntKind.i64 1)) 3, type := 3, pos := "ref.go:111", after := #[{ on := 6, ground := Ground.data }], guard := none }) (v := ?_) rfl (by kernel_rfl) (by kernel_rfl) (by kernel_rfl) (by rfl) (fun _ _ _ h => h) (Or.inl ⟨by rfl, ?_⟩) (by assumption) ?_
          rotate_left
          · (intro w; go_simp); (first | done | with_reducible rfl)
          try simp only [Act.put, List.setIfInBounds_toArray, List.set_cons_zero, List.set_cons_succ]
          refine wpAnyZ_takeY (i := 8) (oi := { dst := some 193, op := Op.slice 22 (Operand.tmp 189) none (some (Operand.tmp 192)) none, type := 22, pos := "ref.go:111", after := #[{ on := 4, ground := Ground.data }, { on := 7, ground := Ground.data }], guard := none }) (v := ?_) rfl (by kernel_rfl) (by kernel_rfl) (by kernel_rfl) (by rfl) (fun _ _ _ h => h) (Or.inl ⟨by rfl, ?_⟩) (by assumption) ?_
          rotate_left
          · (intro w; go_simp); (first | done | with_reducible rfl)
          try simp only [Act.put, List.setIfInBounds_toArray, List.set_cons_zero, List.set_cons_succ]
          refine wpAnyZ_takeY (i := 10) (oi := { dst := some 195, op := Op.move (Operand.tmp 0), type := 59, pos := "ref.go:111", after := #[], guard := none }) (v := ?_) rfl (by kernel_rfl) (by kernel_rfl) (by kernel_rfl) (by rfl) (fun _ _ _ h => h) (Or.inl ⟨by rfl, ?_⟩) (by assumption) ?_
          rotate_left
          · (intro w; go_simp); (first | done | with_reducible rfl)
          try simp only [Act.put, List.setIfInBounds_toArray, List.set_cons_zero, List.set_cons_succ]
          refine wpAnyZ_takeY (i := 11) (oi := { dst := some 196, op := Op.nilCheck (Operand.tmp 195), type := 0, pos := "ref.go:111", after := #[{ on := 10, ground := Ground.data }], guard := none }) (v := ?_) rfl (by kernel_rfl) (by kernel_rfl) (by kernel_rfl) (by rfl) (fun _ _ _ h => h) (Or.inl ⟨by rfl, ?_⟩) (by assumption) ?_
          rotate_left
          · (intro w; go_simp); (first | done | with_reducible rfl)
          try simp only [Act.put, List.setIfInBounds_toArray, List.set_cons_zero, List.set_cons_succ]
          refine wpAnyZ_takeY (i := 12) (oi := { dst := some 197, op := Op.fieldAddr 24 (Operand.tmp 196) 0, type := 0, pos := "ref.go:111", after := #[{ on := 11, ground := Ground.data }], guard := none }) (v := ?_) rfl (by kernel_rfl) (by kernel_rfl) (by kernel_rfl) (by rfl) (fun _ _ _ h => h) (Or.inl ⟨by rfl, ?_⟩) (by assumption) ?_
          rotate_left
          · (intro w; go_simp); (first | done | with_reducible rfl)
          try simp only [Act.put, List.setIfInBounds_toArray, List.set_cons_zero, List.set_cons_succ]
          refine wpAnyZ_take (i := 13) (oi := { dst := some 198, op := Op.load 22 (Operand.tmp 197), type := 22, pos := "ref.go:111", after := #[{ on := 12, ground := Ground.data }], guard := none }) (v := ?_) [17, 18, 19, 20, 21] rfl (by kernel_rfl) (by kernel_rfl) (by kernel_rfl) (by kernel_rfl) (fun _ _ _ h => h) (Or.inl ⟨by rfl, ?_⟩) (by assumption) ?_
          rotate_left
          · (intro w hSw; (try dsimp only at hSw); go_simp); (first | done | with_reducible rfl)
          try simp only [Act.put, List.setIfInBounds_toArray, List.set_cons_zero, List.set_cons_succ]
          refine wpAnyZ_takeY (i := 14) (oi := { dst := some 199, op := Op.fieldAddr 27 (Operand.tmp 5) 1, type := 0, pos := "ref.go:111", after := #[], guard := none }) (v := ?_) rfl (by kernel_rfl) (by kernel_rfl) (by kernel_rfl) (by rfl) (fun _ _ _ h => h) (Or.inl ⟨by rfl, ?_⟩) (by assumption) ?_
          rotate_left
          · (intro w; go_simp); (first | done | with_reducible rfl)
          try simp only [Act.put, List.setIfInBounds_toArray, List.set_cons_zero, List.set_cons_succ]
          refine wpAnyZ_take (i := 15) (oi := { dst := some 200, op := Op.load 3 (Operand.tmp 199), type := 3, pos := "ref.go:111", after := #[{ on := 14, ground := Ground.data }], guard := none }) (v := ?_) [16, 17, 18, 19, 20, 21] rfl (by kernel_rfl) (by kernel_rfl) (by kernel_rfl) (by kernel_rfl) (fun _ _ _ h => h) (Or.inl ⟨by rfl, ?_⟩) (by assumption) ?_
          rotate_left
          · (intro w hSw; (try dsimp only at hSw); go_simp); (first | done | with_reducible rfl)
          try simp only [Act.put, List.setIfInBounds_toArray, List.set_cons_zero, List.set_cons_succ]
          refine wpAnyZ_takeY (i := 16) (oi := { dst := some 201, op := Op.binOp BinOp.add 3 (Operand.tmp 200) (Operand.const (Value.int IntKind.i64 2)) 3, type := 3, pos := "ref.go:111", after := #[{ on := 15, ground := Ground.data }], guard := none }) (v := ?_) rfl (by kernel_rfl) (by kernel_rfl) (by kernel_rfl) (by rfl) (fun _ _ _ h => h) (Or.inl ⟨by rfl, ?_⟩) (by assumption) ?_
          rotate_left
          · (intro w; go_simp); (first | done | with_reducible rfl)
          try simp only [Act.put, List.setIfInBounds_toArray, List.set_cons_zero, List.set_cons_succ]
          refine wpAnyZ_takeY (i := 17) (oi := { dst := some 202, op := Op.slice 22 (Operand.tmp 198) (some (Operand.tmp 201)) none none, type := 22, pos := "ref.go:111", after := #[{ on := 13, ground := Ground.data }, { on := 16, ground := Ground.data }], guard := none }) (v := ?_) rfl (by kernel_rfl) (by kernel_rfl) (by kernel_rfl) (by rfl) (fun _ _ _ h => h) (Or.inl ⟨by rfl, ?_⟩) (by assumption) ?_
          rotate_left
          · (intro w; go_simp); (first | done | with_reducible rfl)
          try simp only [Act.put, List.setIfInBounds_toArray, List.set_cons_zero, List.set_cons_succ]
          refine wpAnyZ_ready (rs := [9]) (by kernel_rfl) (by simp) ?_
          refine AllReadyZ.cons (o := { dst := some 194, op := Op.call { callee := Callee.builtin Builtin.append, args := #[Operand.const (Value.slice none 0 0), Operand.tmp 193], argTypes := #[22, 22] }, type := 22, pos := "ref.go:111", after := #[{ on := 8, ground := Ground.data }], guard := none }) rfl (by rfl) (fun K hK => ?_) (AllReadyZ.nil)
          refine step_append_tabs (by rfl) _ _ 22 (by rfl) w6.heap.size i1 z1 Try.underlying22 hi1 hz1 h11 h12 h13 (.slice none 0 0) 0 [] (by rfl) (World.ownsRow_nil _ _ _ _) ⟨g, 0, none⟩ _ (k + 1) (R1.take (k + 1)) (by rfl) (by rw [List.length_take, HRL.out]; omega) (cellsAt_take HK.out.own (k + 1)) (by omega) HB7.out.size ?_
          intro v7 w7 ho7 hg7
          rw [Nat.zero_add, List.nil_append] at ho7
          obtain ⟨a7, c7, rfl⟩ := own_shape16 ho7
          have HL := Lib.hid ho7
          replace HB7 := Lib.hid (HB7.out.grown hg7 HB7.out.size (fun q hq => by cases hq))
          replace HK := Lib.hid (HM.out.below HB7.out)
          replace HE := Lib.hid (HEB.out.below HB7.out)
          clear ho7 hg7
          refine hK.out _ _ ?_ (fun hHeld => ?_)
          · exact ⟨HK.out.bx.cell 0, HE.out.cell 1⟩
          clear hK K
          try simp only [Act.put, List.setIfInBounds_toArray, List.set_cons_zero, List.set_cons_succ]
          refine wpAnyZ_ready (rs := [18]) (by kernel_rfl) (by simp) ?_
          refine AllReadyZ.cons (o := { dst := some 203, op := Op.call { callee := Callee.builtin Builtin.append, args := #[Operand.tmp 194, Operand.tmp 202], argTypes := #[22, 22] }, type := 22, pos := "ref.go:111", after := #[{ on := 9, ground := Ground.data }, { on := 17, ground := Ground.data }, { on := 9, ground := Ground.chain }], guard := none }) rfl (by rfl) (fun K hK => ?_) (AllReadyZ.nil)
          refine step_append_tabs (by rfl) _ _ 22 (by rfl) w6.heap.size i1 z1 Try.underlying22 hi1 hz1 h11 h12 h13 (.slice a7 (k + 1) c7) (k + 1) (tbC (R1.take (k + 1))) (by rfl) HL.out ⟨g, (k + 2) * 2, none⟩ (c - (k + 2)) (Rs.length - (k + 2)) (R1.drop (k + 2)) (by simp [Act.eval, Act.put, q0]) (by rw [List.length_drop, HRL.out]) (cellsAt_drop HK.out.own (k + 2)) (by omega) HB7.out.size ?_
          intro v8 w8 ho8 hg8
          obtain ⟨a8, c8, rfl⟩ := own_shape16 ho8
          obtain ⟨g8, rfl, _⟩ := own_cell16 (by omega) ho8
          replace HB7 := Lib.hid (HB7.out.grown hg8 HB7.out.size (fun q hq => (HL.out.lt q hq).1))
          replace HK := Lib.hid (HM.out.below HB7.out)
          replace HE := Lib.hid (HEB.out.below HB7.out)
          have HF := Lib.hid (FIN.out g8 c8 w8 HK.out ho8)
          clear ho8 hg8
          refine hK.out _ _ ?_ (fun hHeld => ?_)
          · exact ⟨HK.out.bx.cell 0, HE.out.cell 1⟩
          clear hK K
          try simp only [Act.put, List.setIfInBounds_toArray, List.set_cons_zero, List.set_cons_succ]
          refine wpAnyZ_takeY (i := 19) (oi := { dst := some 204, op := Op.nilCheck (Operand.tmp 185), type := 0, pos := "ref.go:111", after := #[{ on := 0, ground := Ground.data }, { on := 0, ground := Ground.phase }, { on := 1, ground := Ground.phase }, { on := 2, ground := Ground.phase }, { on := 3, ground := Ground.phase }, { on := 4, ground := Ground.phase }, { on := 5, ground := Ground.phase }, { on := 6, ground := Ground.phase }, { on := 7, ground := Ground.phase }, { on := 8, ground := Ground.phase }, { on := 9, ground := Ground.phase }, { on := 10, ground := Ground.phase }, { on := 11, ground := Ground.phase }, { on := 12, ground := Ground.phase }, { on := 13, ground := Ground.phase }, { on := 14, ground := Ground.phase }, { on := 15, ground := Ground.phase }, { on := 16, ground := Ground.phase }, { on := 17, ground := Ground.phase }, { on := 18, ground := Ground.phase }], guard := none }) (v := ?_) rfl (by kernel_rfl) (by kernel_rfl) (by kernel_rfl) (by rfl) (fun _ _ _ h => h) (Or.inl ⟨by rfl, ?_⟩) (by assumption) ?_
          rotate_left
          · (intro w; go_simp); (first | done | with_reducible rfl)
          try simp only [Act.put, List.setIfInBounds_toArray, List.set_cons_zero, List.set_cons_succ]
          refine wpAnyZ_takeY (i := 20) (oi := { dst := some 205, op := Op.fieldAddr 24 (Operand.tmp 204) 0, type := 0, pos := "ref.go:111", after := #[{ on := 19, ground := Ground.data }, { on := 0, ground := Ground.phase }, { on := 1, ground := Ground.phase }, { on := 2, ground := Ground.phase }, { on := 3, ground := Ground.phase }, { on := 4, ground := Ground.phase }, { on := 5, ground := Ground.phase }, { on := 6, ground := Ground.phase }, { on := 7, ground := Ground.phase }, { on := 8, ground := Ground.phase }, { on := 9, ground := Ground.phase }, { on := 10, ground := Ground.phase }, { on := 11, ground := Ground.phase }, { on := 12, ground := Ground.phase }, { on := 13, ground := Ground.phase }, { on := 14, ground := Ground.phase }, { on := 15, ground := Ground.phase }, { on := 16, ground := Ground.phase }, { on := 17, ground := Ground.phase }, { on := 18, ground := Ground.phase }], guard := none }) (v := ?_) rfl (by kernel_rfl) (by kernel_rfl) (by kernel_rfl) (by rfl) (fun _ _ _ h => h) (Or.inl ⟨by rfl, ?_⟩) (by assumption) ?_
          rotate_left
          · (intro w; go_simp); (first | done | with_reducible rfl)
          try simp only [Act.put, List.setIfInBounds_toArray, List.set_cons_zero, List.set_cons_succ]
          refine wpAnyZ_ready (rs := [21]) (by kernel_rfl) (by simp) ?_
          refine AllReadyZ.last (o := { dst := none, op := Op.store 22 (Operand.tmp 205) (Operand.tmp 203), type := 0, pos := "ref.go:111", after := #[{ on := 20, ground := Ground.data }, { on := 18, ground := Ground.data }, { on := 18, ground := Ground.chain }, { on := 0, ground := Ground.phase }, { on := 1, ground := Ground.phase }, { on := 2, ground := Ground.phase }, { on := 3, ground := Ground.phase }, { on := 4, ground := Ground.phase }, { on := 5, ground := Ground.phase }, { on := 6, ground := Ground.phase }, { on := 7, ground := Ground.phase }, { on := 8, ground := Ground.phase }, { on := 9, ground := Ground.phase }, { on := 10, ground := Ground.phase }, { on := 11, ground := Ground.phase }, { on := 12, ground := Ground.phase }, { on := 13, ground := Ground.phase }, { on := 14, ground := Ground.phase }, { on := 15, ground := Ground.phase }, { on := 16, ground := Ground.phase }, { on := 17, ground := Ground.phase }, { on := 18, ground := Ground.phase }], guard := none }) rfl (fun K hK => ?_) AllReadyZ.nil
          have f9 := HK.out.bx.free 0
          have m9 := HK.out.bx.cell 0
          go_simp
          refine hK.out _ _ ?_
          clear hK K
          refine wpAny_done (by kernel_rfl) ?_ _
          have HG := Lib.hid HF.out
          clear HF
          go_wp2_with fail
          go_ret
          have HE2 := Lib.hid (HED.out.trans ((if_neg (by decide)).trans ((if_neg (by decide)).trans ((if_neg (by decide)).trans ((if_pos (by trivial)).trans (if_pos (by rw [HLEN.out]; exact hlast)))))))
          have h9 := HG.out
          rw [HTB.out] at h9
          unfold Rt.tb at h9
          rw [show ((Rk.getD k rt0).l) = sl from HSA.out.2, show ((Rk.getD (k + 1) rt0).l) = nl from HSA2.out.2, ← HPU.out] at HE2
          exact .inr ⟨_, _, HE2.out, rfl, h9, .inl rfl⟩
        · have e9 : R1.drop (k + 2) = [] := List.drop_eq_nil_of_le (by rw [HRL.out]; omega)
          rw [e9, show tbC ([] : List Rt) = [] from rfl] at FIN
          by_cases q0 : c = k + 2
          · have q1 := q0
            have HB7 := Lib.hid ((Below.refl w6.heap.size w6).drew)
            have HK := Lib.hid (HM.out.below HB7.out)
            have HE := Lib.hid (HEB.out.below HB7.out)
            refine wp_region_Z (S := fun V => V.cell? ⟨b, 0, none⟩ = some (.slice (some ⟨g, 0, none⟩) Rs.length c) ∧ V.cell? ⟨G + 1, 1, none⟩ = some (.int .i64 k)) 21 (by kernel_rfl) ?_ (fun hHeld => ?_)
            · exact ⟨HK.out.bx.cell 0, HE.out.cell 1⟩
            obtain ⟨wd, hwd⟩ : ∃ x, x = World.drew w6 := ⟨_, rfl⟩
            rw [← hwd] at HB7 HK HE hHeld ⊢
            clear hwd
            refine wpAnyZ_takeY (i := 0) (oi := { dst := some 185, op := Op.move (Operand.tmp 0), type := 59, pos := "ref.go:111", after := #[], guard := none }) (v := ?_) rfl (by kernel_rfl) (by kernel_rfl) (by kernel_rfl) (by rfl) (fun _ _ _ h => h) (Or.inl ⟨by rfl, ?_⟩) (by assumption) ?_
            rotate_left
            · (intro w; go_simp); (first | done | with_reducible rfl)
            try simp only [Act.put, List.setIfInBounds_toArray, List.set_cons_zero, List.set_cons_succ]
            refine wpAnyZ_takeY (i := 1) (oi := { dst := some 186, op := Op.move (Operand.tmp 0), type := 59, pos := "ref.go:111", after := #[], guard := none }) (v := ?_) rfl (by kernel_rfl) (by kernel_rfl) (by kernel_rfl) (by rfl) (fun _ _ _ h => h) (Or.inl ⟨by rfl, ?_⟩) (by assumption) ?_
            rotate_left
            · (intro w; go_simp); (first | done | with_reducible rfl)
            try simp only [Act.put, List.setIfInBounds_toArray, List.set_cons_zero, List.set_cons_succ]
            refine wpAnyZ_takeY (i := 2) (oi := { dst := some 187, op := Op.nilCheck (Operand.tmp 186), type := 0, pos := "ref.go:111", after := #[{ on := 1, ground := Ground.data }], guard := none }) (v := ?_) rfl (by kernel_rfl) (by kernel_rfl) (by kernel_rfl) (by rfl) (fun _ _ _ h => h) (Or.inl ⟨by rfl, ?_⟩) (by assumption) ?_
            rotate_left
            · (intro w; go_simp); (first | done | with_reducible rfl)
            try simp only [Act.put, List.setIfInBounds_toArray, List.set_cons_zero, List.set_cons_succ]
            refine wpAnyZ_takeY (i := 3) (oi := { dst := some 188, op := Op.fieldAddr 24 (Operand.tmp 187) 0, type := 0, pos := "ref.go:111", after := #[{ on := 2, ground := Ground.data }], guard := none }) (v := ?_) rfl (by kernel_rfl) (by kernel_rfl) (by kernel_rfl) (by rfl) (fun _ _ _ h => h) (Or.inl ⟨by rfl, ?_⟩) (by assumption) ?_
            rotate_left
            · (intro w; go_simp); (first | done | with_reducible rfl)
            try simp only [Act.put, List.setIfInBounds_toArray, List.set_cons_zero, List.set_cons_succ]
            refine wpAnyZ_take (i := 4) (oi := { dst := some 189, op := Op.load 22 (Operand.tmp 188), type := 22, pos := "ref.go:111", after := #[{ on := 3, ground := Ground.data }], guard := none }) (v := ?_) [8, 9, 18, 19, 20, 21] rfl (by kernel_rfl) (by kernel_rfl) (by kernel_rfl) (by kernel_rfl) (fun _ _ _ h => h) (Or.inl ⟨by rfl, ?_⟩) (by assumption) ?_
            rotate_left
            · (intro w hSw; (try dsimp only at hSw); go_simp); (first | done | with_reducible rfl)
            try simp only [Act.put, List.setIfInBounds_toArray, List.set_cons_zero, List.set_cons_succ]
            refine wpAnyZ_takeY (i := 5) (oi := { dst := some 190, op := Op.fieldAddr 27 (Operand.tmp 5) 1, type := 0, pos := "ref.go:111", after := #[], guard := none }) (v := ?_) rfl (by kernel_rfl) (by kernel_rfl) (by kernel_rfl) (by rfl) (fun _ _ _ h => h) (Or.inl ⟨by rfl, ?_⟩) (by assumption) ?_
            rotate_left
            · (intro w; go_simp); (first | done | with_reducible rfl)
            try simp only [Act.put, List.setIfInBounds_toArray, List.set_cons_zero, List.set_cons_succ]
            refine wpAnyZ_take (i := 6) (oi := { dst := some 191, op := Op.load 3 (Operand.tmp 190), type := 3, pos := "ref.go:111", after := #[{ on := 5, ground := Ground.data }], guard := none }) (v := ?_) [7, 8, 9, 18, 19, 20, 21] rfl (by kernel_rfl) (by kernel_rfl) (by kernel_rfl) (by kernel_rfl) (fun _ _ _ h => h) (Or.inl ⟨by rfl, ?_⟩) (by assumption) ?_
            rotate_left
            · (intro w hSw; (try dsimp only at hSw); go_simp); (first | done | with_reducible rfl)
            try simp only [Act.put, List.setIfInBounds_toArray, List.set_cons_zero, List.set_cons_succ]
            refine wpAnyZ_takeY (i := 7) (oi := { dst := some 192, op := Op.binOp BinOp.add 3 (Operand.tmp 191) (Operand.const (Value.int IntKind.i64 1)) 3, type := 3, pos := "ref.go:111", after := #[{ on := 6, ground := Ground.data }], guard := none }) (v := ?_) rfl (by kernel_rfl) (by kernel_rfl) (by kernel_rfl) (by rfl) (fun _ _ _ h => h) (Or.inl ⟨by rfl, ?_⟩) (by assumption) ?_
            rotate_left
            · (intro w; go_simp); (first | done | with_reducible rfl)
            try simp only [Act.put, List.setIfInBounds_toArray, List.set_cons_zero, List.set_cons_succ]
            refine wpAnyZ_takeY (i := 8) (oi := { dst := some 193, op := Op.slice 22 (Operand.tmp 189) none (some (Operand.tmp 192)) none, type := 22, pos := "ref.go:111", after := #[{ on := 4, ground := Ground.data }, { on := 7, ground := Ground.data }], guard := none }) (v := ?_) rfl (by kernel_rfl) (by kernel_rfl) (by kernel_rfl) (by rfl) (fun _ _ _ h => h) (Or.inl ⟨by rfl, ?_⟩) (by assumption) ?_
            rotate_left
            · (intro w; go_simp); (first | done | with_reducible rfl)
            try simp only [Act.put, List.setIfInBounds_toArray, List.set_cons_zero, List.set_cons_succ]
            refine wpAnyZ_takeY (i := 10) (oi := { dst := some 195, op := Op.move (Operand.tmp 0), type := 59, pos := "ref.go:111", after := #[], guard := none }) (v := ?_) rfl (by kernel_rfl) (by kernel_rfl) (by kernel_rfl) (by rfl) (fun _ _ _ h => h) (Or.inl ⟨by rfl, ?_⟩) (by assumption) ?_
            rotate_left
            · (intro w; go_simp); (first | done | with_reducible rfl)
            try simp only [Act.put, List.setIfInBounds_toArray, List.set_cons_zero, List.set_cons_succ]
            refine wpAnyZ_takeY (i := 11) (oi := { dst := some 196, op := Op.nilCheck (Operand.tmp 195), type := 0, pos := "ref.go:111", after := #[{ on := 10, ground := Ground.data }], guard := none }) (v := ?_) rfl (by kernel_rfl) (by kernel_rfl) (by kernel_rfl) (by rfl) (fun _ _ _ h => h) (Or.inl ⟨by rfl, ?_⟩) (by assumption) ?_
            rotate_left
            · (intro w; go_simp); (first | done | with_reducible rfl)
            try simp only [Act.put, List.setIfInBounds_toArray, List.set_cons_zero, List.set_cons_succ]
            refine wpAnyZ_takeY (i := 12) (oi := { dst := some 197, op := Op.fieldAddr 24 (Operand.tmp 196) 0, type := 0, pos := "ref.go:111", after := #[{ on := 11, ground := Ground.data }], guard := none }) (v := ?_) rfl (by kernel_rfl) (by kernel_rfl) (by kernel_rfl) (by rfl) (fun _ _ _ h => h) (Or.inl ⟨by rfl, ?_⟩) (by assumption) ?_
            rotate_left
            · (intro w; go_simp); (first | done | with_reducible rfl)
            try simp only [Act.put, List.setIfInBounds_toArray, List.set_cons_zero, List.set_cons_succ]
            refine wpAnyZ_take (i := 13) (oi := { dst := some 198, op := Op.load 22 (Operand.tmp 197), type := 22, pos := "ref.go:111", after := #[{ on := 12, ground := Ground.data }], guard := none }) (v := ?_) [17, 18, 19, 20, 21] rfl (by kernel_rfl) (by kernel_rfl) (by kernel_rfl) (by kernel_rfl) (fun _ _ _ h => h) (Or.inl ⟨by rfl, ?_⟩) (by assumption) ?_
            rotate_left
            · (intro w hSw; (try dsimp only at hSw); go_simp); (first | done | with_reducible rfl)
            try simp only [Act.put, List.setIfInBounds_toArray, List.set_cons_zero, List.set_cons_succ]
            refine wpAnyZ_takeY (i := 14) (oi := { dst := some 199, op := Op.fieldAddr 27 (Operand.tmp 5) 1, type := 0, pos := "ref.go:111", after := #[], guard := none }) (v := ?_) rfl (by kernel_rfl) (by kernel_rfl) (by kernel_rfl) (by rfl) (fun _ _ _ h => h) (Or.inl ⟨by rfl, ?_⟩) (by assumption) ?_
            rotate_left
            · (intro w; go_simp); (first | done | with_reducible rfl)
            try simp only [Act.put, List.setIfInBounds_toArray, List.set_cons_zero, List.set_cons_succ]
            refine wpAnyZ_take (i := 15) (oi := { dst := some 200, op := Op.load 3 (Operand.tmp 199), type := 3, pos := "ref.go:111", after := #[{ on := 14, ground := Ground.data }], guard := none }) (v := ?_) [16, 17, 18, 19, 20, 21] rfl (by kernel_rfl) (by kernel_rfl) (by kernel_rfl) (by kernel_rfl) (fun _ _ _ h => h) (Or.inl ⟨by rfl, ?_⟩) (by assumption) ?_
            rotate_left
            · (intro w hSw; (try dsimp only at hSw); go_simp); (first | done | with_reducible rfl)
            try simp only [Act.put, List.setIfInBounds_toArray, List.set_cons_zero, List.set_cons_succ]
            refine wpAnyZ_takeY (i := 16) (oi := { dst := some 201, op := Op.binOp BinOp.add 3 (Operand.tmp 200) (Operand.const (Value.int IntKind.i64 2)) 3, type := 3, pos := "ref.go:111", after := #[{ on := 15, ground := Ground.data }], guard := none }) (v := ?_) rfl (by kernel_rfl) (by kernel_rfl) (by kernel_rfl) (by rfl) (fun _ _ _ h => h) (Or.inl ⟨by rfl, ?_⟩) (by assumption) ?_
            rotate_left
            · (intro w; go_simp); (first | done | with_reducible rfl)
            try simp only [Act.put, List.setIfInBounds_toArray, List.set_cons_zero, List.set_cons_succ]
            refine wpAnyZ_takeY (i := 17) (oi := { dst := some 202, op := Op.slice 22 (Operand.tmp 198) (some (Operand.tmp 201)) none none, type := 22, pos := "ref.go:111", after := #[{ on := 13, ground := Ground.data }, { on := 16, ground := Ground.data }], guard := none }) (v := ?_) rfl (by kernel_rfl) (by kernel_rfl) (by kernel_rfl) (by rfl) (fun _ _ _ h => h) (Or.inl ⟨by rfl, ?_⟩) (by assumption) ?_
            rotate_left
            · (intro w; go_simp); (first | done | with_reducible rfl)
            try simp only [Act.put, List.setIfInBounds_toArray, List.set_cons_zero, List.set_cons_succ]
            refine wpAnyZ_ready (rs := [9]) (by kernel_rfl) (by simp) ?_
            refine AllReadyZ.cons (o := { dst := some 194, op := Op.call { callee := Callee.builtin Builtin.append, args := #[Operand.const (Value.slice none 0 0), Operand.tmp 193], argTypes := #[22, 22] }, type := 22, pos := "ref.go:111", after := #[{ on := 8, ground := Ground.data }], guard := none }) rfl (by rfl) (fun K hK => ?_) (AllReadyZ.nil)
            refine step_append_tabs (by rfl) _ _ 22 (by rfl) w6.heap.size i1 z1 Try.underlying22 hi1 hz1 h11 h12 h13 (.slice none 0 0) 0 [] (by rfl) (World.ownsRow_nil _ _ _ _) ⟨g, 0, none⟩ _ (k + 1) (R1.take (k + 1)) (by rfl) (by rw [List.length_take, HRL.out]; omega) (cellsAt_take HK.out.own (k + 1)) (by omega) HB7.out.size ?_
            intro v7 w7 ho7 hg7
            rw [Nat.zero_add, List.nil_append] at ho7
            obtain ⟨a7, c7, rfl⟩ := own_shape16 ho7
            have HL := Lib.hid ho7
            replace HB7 := Lib.hid (HB7.out.grown hg7 HB7.out.size (fun q hq => by cases hq))
            replace HK := Lib.hid (HM.out.below HB7.out)
            replace HE := Lib.hid (HEB.out.below HB7.out)
            clear ho7 hg7
            refine hK.out _ _ ?_ (fun hHeld => ?_)
            · exact ⟨HK.out.bx.cell 0, HE.out.cell 1⟩
            clear hK K
            try simp only [Act.put, List.setIfInBounds_toArray, List.set_cons_zero, List.set_cons_succ]
            refine wpAnyZ_ready (rs := [18]) (by kernel_rfl) (by simp) ?_
            refine AllReadyZ.cons (o := { dst := some 203, op := Op.call { callee := Callee.builtin Builtin.append, args := #[Operand.tmp 194, Operand.tmp 202], argTypes := #[22, 22] }, type := 22, pos := "ref.go:111", after := #[{ on := 9, ground := Ground.data }, { on := 17, ground := Ground.data }, { on := 9, ground := Ground.chain }], guard := none }) rfl (by rfl) (fun K hK => ?_) (AllReadyZ.nil)
            refine step_append_tabs (by rfl) _ _ 22 (by rfl) w6.heap.size i1 z1 Try.underlying22 hi1 hz1 h11 h12 h13 (.slice a7 (k + 1) c7) (k + 1) (tbC (R1.take (k + 1))) (by rfl) HL.out _ _ (Rs.length - (k + 2)) [] (by simp [Act.eval, Act.put, q0]; exact ⟨rfl, rfl⟩) (by simp only [List.length_nil]; omega) (cellsAt_nil _ _) (by omega) HB7.out.size ?_
            intro v8 w8 ho8 hg8
            obtain ⟨a8, c8, rfl⟩ := own_shape16 ho8
            obtain ⟨g8, rfl, _⟩ := own_cell16 (by omega) ho8
            replace HB7 := Lib.hid (HB7.out.grown hg8 HB7.out.size (fun q hq => (HL.out.lt q hq).1))
            replace HK := Lib.hid (HM.out.below HB7.out)
            replace HE := Lib.hid (HEB.out.below HB7.out)
            have HF := Lib.hid (FIN.out g8 c8 w8 HK.out ho8)
            clear ho8 hg8
            refine hK.out _ _ ?_ (fun hHeld => ?_)
            · exact ⟨HK.out.bx.cell 0, HE.out.cell 1⟩
            clear hK K
            try simp only [Act.put, List.setIfInBounds_toArray, List.set_cons_zero, List.set_cons_succ]
            refine wpAnyZ_takeY (i := 19) (oi := { dst := some 204, op := Op.nilCheck (Operand.tmp 185), type := 0, pos := "ref.go:111", after := #[{ on := 0, ground := Ground.data }, { on := 0, ground := Ground.phase }, { on := 1, ground := Ground.phase }, { on := 2, ground := Ground.phase }, { on := 3, ground := Ground.phase }, { on := 4, ground := Ground.phase }, { on := 5, ground := Ground.phase }, { on := 6, ground := Ground.phase }, { on := 7, ground := Ground.phase }, { on := 8, ground := Ground.phase }, { on := 9, ground := Ground.phase }, { on := 10, ground := Ground.phase }, { on := 11, ground := Ground.phase }, { on := 12, ground := Ground.phase }, { on := 13, ground := Ground.phase }, { on := 14, ground := Ground.phase }, { on := 15, ground := Ground.phase }, { on := 16, ground := Ground.phase }, { on := 17, ground := Ground.phase }, { on := 18, ground := Ground.phase }], guard := none }) (v := ?_) rfl (by kernel_rfl) (by kernel_rfl) (by kernel_rfl) (by rfl) (fun _ _ _ h => h) (Or.inl ⟨by rfl, ?_⟩) (by assumption) ?_
            rotate_left
            · (intro w; go_simp); (first | done | with_reducible rfl)
            try simp only [Act.put, List.setIfInBounds_toArray, List.set_cons_zero, List.set_cons_succ]
            refine wpAnyZ_takeY (i := 20) (oi := { dst := some 205, op := Op.fieldAddr 24 (Operand.tmp 204) 0, type := 0, pos := "ref.go:111", after := #[{ on := 19, ground := Ground.data }, { on := 0, ground := Ground.phase }, { on := 1, ground := Ground.phase }, { on := 2, ground := Ground.phase }, { on := 3, ground := Ground.phase }, { on := 4, ground := Ground.phase }, { on := 5, ground := Ground.phase }, { on := 6, ground := Ground.phase }, { on := 7, ground := Ground.phase }, { on := 8, ground := Ground.phase }, { on := 9, ground := Ground.phase }, { on := 10, ground := Ground.phase }, { on := 11, ground := Ground.phase }, { on := 12, ground := Ground.phase }, { on := 13, ground := Ground.phase }, { on := 14, ground := Ground.phase }, { on := 15, ground := Ground.phase }, { on := 16, ground := Ground.phase }, { on := 17, ground := Ground.phase }, { on := 18, ground := Ground.phase }], guard := none }) (v := ?_) rfl (by kernel_rfl) (by kernel_rfl) (by kernel_rfl) (by rfl) (fun _ _ _ h => h) (Or.inl ⟨by rfl, ?_⟩) (by assumption) ?_
            rotate_left
            · (intro w; go_simp); (first | done | with_reducible rfl)
            try simp only [Act.put, List.setIfInBounds_toArray, List.set_cons_zero, List.set_cons_succ]
            refine wpAnyZ_ready (rs := [21]) (by kernel_rfl) (by simp) ?_
            refine AllReadyZ.last (o := { dst := none, op := Op.store 22 (Operand.tmp 205) (Operand.tmp 203), type := 0, pos := "ref.go:111", after := #[{ on := 20, ground := Ground.data }, { on := 18, ground := Ground.data }, { on := 18, ground := Ground.chain }, { on := 0, ground := Ground.phase }, { on := 1, ground := Ground.phase }, { on := 2, ground := Ground.phase }, { on := 3, ground := Ground.phase }, { on := 4, ground := Ground.phase }, { on := 5, ground := Ground.phase }, { on := 6, ground := Ground.phase }, { on := 7, ground := Ground.phase }, { on := 8, ground := Ground.phase }, { on := 9, ground := Ground.phase }, { on := 10, ground := Ground.phase }, { on := 11, ground := Ground.phase }, { on := 12, ground := Ground.phase }, { on := 13, ground := Ground.phase }, { on := 14, ground := Ground.phase }, { on := 15, ground := Ground.phase }, { on := 16, ground := Ground.phase }, { on := 17, ground := Ground.phase }, { on := 18, ground := Ground.phase }], guard := none }) rfl (fun K hK => ?_) AllReadyZ.nil
            have f9 := HK.out.bx.free 0
            have m9 := HK.out.bx.cell 0
            go_simp
            refine hK.out _ _ ?_
            clear hK K
            refine wpAny_done (by kernel_rfl) ?_ _
            have HG := Lib.hid HF.out
            clear HF
            go_wp2_with fail
            go_ret
            have HE2 := Lib.hid (HED.out.trans ((if_neg (by decide)).trans ((if_neg (by decide)).trans ((if_neg (by decide)).trans ((if_pos (by trivial)).trans (if_pos (by rw [HLEN.out]; exact hlast)))))))
            have h9 := HG.out
            rw [HTB.out] at h9
            unfold Rt.tb at h9
            rw [show ((Rk.getD k rt0).l) = sl from HSA.out.2, show ((Rk.getD (k + 1) rt0).l) = nl from HSA2.out.2, ← HPU.out] at HE2
            exact .inr ⟨_, _, HE2.out, rfl, h9, .inl rfl⟩
          · have q1 := q0
            have HB7 := Lib.hid ((Below.refl w6.heap.size w6).drew)
            have HK := Lib.hid (HM.out.below HB7.out)
            have HE := Lib.hid (HEB.out.below HB7.out)
            refine wp_region_Z (S := fun V => V.cell? ⟨b, 0, none⟩ = some (.slice (some ⟨g, 0, none⟩) Rs.length c) ∧ V.cell? ⟨G + 1, 1, none⟩ = some (.int .i64 k)) 21 (by kernel_rfl) ?_ (fun hHeld => ?_)
            · exact ⟨HK.out.bx.cell 0, HE.out.cell 1⟩
            obtain ⟨wd, hwd⟩ : ∃ x, x = World.drew w6 := ⟨_, rfl⟩
            rw [← hwd] at HB7 HK HE hHeld ⊢
            clear hwd
            refine wpAnyZ_takeY (i := 0) (oi := { dst := some 185, op := Op.move (Operand.tmp 0), type := 59, pos := "ref.go:111", after := #[], guard := none }) (v := ?_) rfl (by kernel_rfl) (by kernel_rfl) (by kernel_rfl) (by rfl) (fun _ _ _ h => h) (Or.inl ⟨by rfl, ?_⟩) (by assumption) ?_
            rotate_left
            · (intro w; go_simp); (first | done | with_reducible rfl)
            try simp only [Act.put, List.setIfInBounds_toArray, List.set_cons_zero, List.set_cons_succ]
            refine wpAnyZ_takeY (i := 1) (oi := { dst := some 186, op := Op.move (Operand.tmp 0), type := 59, pos := "ref.go:111", after := #[], guard := none }) (v := ?_) rfl (by kernel_rfl) (by kernel_rfl) (by kernel_rfl) (by rfl) (fun _ _ _ h => h) (Or.inl ⟨by rfl, ?_⟩) (by assumption) ?_
            rotate_left
            · (intro w; go_simp); (first | done | with_reducible rfl)
            try simp only [Act.put, List.setIfInBounds_toArray, List.set_cons_zero, List.set_cons_succ]
            refine wpAnyZ_takeY (i := 2) (oi := { dst := some 187, op := Op.nilCheck (Operand.tmp 186), type := 0, pos := "ref.go:111", after := #[{ on := 1, ground := Ground.data }], guard := none }) (v := ?_) rfl (by kernel_rfl) (by kernel_rfl) (by kernel_rfl) (by rfl) (fun _ _ _ h => h) (Or.inl ⟨by rfl, ?_⟩) (by assumption) ?_
            rotate_left
            · (intro w; go_simp); (first | done | with_reducible rfl)
            try simp only [Act.put, List.setIfInBounds_toArray, List.set_cons_zero, List.set_cons_succ]
            refine wpAnyZ_takeY (i := 3) (oi := { dst := some 188, op := Op.fieldAddr 24 (Operand.tmp 187) 0, type := 0, pos := "ref.go:111", after := #[{ on := 2, ground := Ground.data }], guard := none }) (v := ?_) rfl (by kernel_rfl) (by kernel_rfl) (by kernel_rfl) (by rfl) (fun _ _ _ h => h) (Or.inl ⟨by rfl, ?_⟩) (by assumption) ?_
            rotate_left
            · (intro w; go_simp); (first | done | with_reducible rfl)
            try simp only [Act.put, List.setIfInBounds_toArray, List.set_cons_zero, List.set_cons_succ]
            refine wpAnyZ_take (i := 4) (oi := { dst := some 189, op := Op.load 22 (Operand.tmp 188), type := 22, pos := "ref.go:111", after := #[{ on := 3, ground := Ground.data }], guard := none }) (v := ?_) [8, 9, 18, 19, 20, 21] rfl (by kernel_rfl) (by kernel_rfl) (by kernel_rfl) (by kernel_rfl) (fun _ _ _ h => h) (Or.inl ⟨by rfl, ?_⟩) (by assumption) ?_
            rotate_left
            · (intro w hSw; (try dsimp only at hSw); go_simp); (first | done | with_reducible rfl)
            try simp only [Act.put, List.setIfInBounds_toArray, List.set_cons_zero, List.set_cons_succ]
            refine wpAnyZ_takeY (i := 5) (oi := { dst := some 190, op := Op.fieldAddr 27 (Operand.tmp 5) 1, type := 0, pos := "ref.go:111", after := #[], guard := none }) (v := ?_) rfl (by kernel_rfl) (by kernel_rfl) (by kernel_rfl) (by rfl) (fun _ _ _ h => h) (Or.inl ⟨by rfl, ?_⟩) (by assumption) ?_
            rotate_left
            · (intro w; go_simp); (first | done | with_reducible rfl)
            try simp only [Act.put, List.setIfInBounds_toArray, List.set_cons_zero, List.set_cons_succ]
            refine wpAnyZ_take (i := 6) (oi := { dst := some 191, op := Op.load 3 (Operand.tmp 190), type := 3, pos := "ref.go:111", after := #[{ on := 5, ground := Ground.data }], guard := none }) (v := ?_) [7, 8, 9, 18, 19, 20, 21] rfl (by kernel_rfl) (by kernel_rfl) (by kernel_rfl) (by kernel_rfl) (fun _ _ _ h => h) (Or.inl ⟨by rfl, ?_⟩) (by assumption) ?_
            rotate_left
            · (intro w hSw; (try dsimp only at hSw); go_simp); (first | done | with_reducible rfl)
            try simp only [Act.put, List.setIfInBounds_toArray, List.set_cons_zero, List.set_cons_succ]
            refine wpAnyZ_takeY (i := 7) (oi := { dst := some 192, op := Op.binOp BinOp.add 3 (Operand.tmp 191) (Operand.const (Value.int IntKind.i64 1)) 3, type := 3, pos := "ref.go:111", after := #[{ on := 6, ground := Ground.data }], guard := none }) (v := ?_) rfl (by kernel_rfl) (by kernel_rfl) (by kernel_rfl) (by rfl) (fun _ _ _ h => h) (Or.inl ⟨by rfl, ?_⟩) (by assumption) ?_
            rotate_left
            · (intro w; go_simp); (first | done | with_reducible rfl)
            try simp only [Act.put, List.setIfInBounds_toArray, List.set_cons_zero, List.set_cons_succ]
            refine wpAnyZ_takeY (i := 8) (oi := { dst := some 193, op := Op.slice 22 (Operand.tmp 189) none (some (Operand.tmp 192)) none, type := 22, pos := "ref.go:111", after := #[{ on := 4, ground := Ground.data }, { on := 7, ground := Ground.data }], guard := none }) (v := ?_) rfl (by kernel_rfl) (by kernel_rfl) (by kernel_rfl) (by rfl) (fun _ _ _ h => h) (Or.inl ⟨by rfl, ?_⟩) (by assumption) ?_
            rotate_left
            · (intro w; go_simp); (first | done | with_reducible rfl)
            try simp only [Act.put, List.setIfInBounds_toArray, List.set_cons_zero, List.set_cons_succ]
            refine wpAnyZ_takeY (i := 10) (oi := { dst := some 195, op := Op.move (Operand.tmp 0), type := 59, pos := "ref.go:111", after := #[], guard := none }) (v := ?_) rfl (by kernel_rfl) (by kernel_rfl) (by kernel_rfl) (by rfl) (fun _ _ _ h => h) (Or.inl ⟨by rfl, ?_⟩) (by assumption) ?_
            rotate_left
            · (intro w; go_simp); (first | done | with_reducible rfl)
            try simp only [Act.put, List.setIfInBounds_toArray, List.set_cons_zero, List.set_cons_succ]
            refine wpAnyZ_takeY (i := 11) (oi := { dst := some 196, op := Op.nilCheck (Operand.tmp 195), type := 0, pos := "ref.go:111", after := #[{ on := 10, ground := Ground.data }], guard := none }) (v := ?_) rfl (by kernel_rfl) (by kernel_rfl) (by kernel_rfl) (by rfl) (fun _ _ _ h => h) (Or.inl ⟨by rfl, ?_⟩) (by assumption) ?_
            rotate_left
            · (intro w; go_simp); (first | done | with_reducible rfl)
            try simp only [Act.put, List.setIfInBounds_toArray, List.set_cons_zero, List.set_cons_succ]
            refine wpAnyZ_takeY (i := 12) (oi := { dst := some 197, op := Op.fieldAddr 24 (Operand.tmp 196) 0, type := 0, pos := "ref.go:111", after := #[{ on := 11, ground := Ground.data }], guard := none }) (v := ?_) rfl (by kernel_rfl) (by kernel_rfl) (by kernel_rfl) (by rfl) (fun _ _ _ h => h) (Or.inl ⟨by rfl, ?_⟩) (by assumption) ?_
            rotate_left
            · (intro w; go_simp); (first | done | with_reducible rfl)
            try simp only [Act.put, List.setIfInBounds_toArray, List.set_cons_zero, List.set_cons_succ]
            refine wpAnyZ_take (i := 13) (oi := { dst := some 198, op := Op.load 22 (Operand.tmp 197), type := 22, pos := "ref.go:111", after := #[{ on := 12, ground := Ground.data }], guard := none }) (v := ?_) [17, 18, 19, 20, 21] rfl (by kernel_rfl) (by kernel_rfl) (by kernel_rfl) (by kernel_rfl) (fun _ _ _ h => h) (Or.inl ⟨by rfl, ?_⟩) (by assumption) ?_
            rotate_left
            · (intro w hSw; (try dsimp only at hSw); go_simp); (first | done | with_reducible rfl)
            try simp only [Act.put, List.setIfInBounds_toArray, List.set_cons_zero, List.set_cons_succ]
            refine wpAnyZ_takeY (i := 14) (oi := { dst := some 199, op := Op.fieldAddr 27 (Operand.tmp 5) 1, type := 0, pos := "ref.go:111", after := #[], guard := none }) (v := ?_) rfl (by kernel_rfl) (by kernel_rfl) (by kernel_rfl) (by rfl) (fun _ _ _ h => h) (Or.inl ⟨by rfl, ?_⟩) (by assumption) ?_
            rotate_left
            · (intro w; go_simp); (first | done | with_reducible rfl)
            try simp only [Act.put, List.setIfInBounds_toArray, List.set_cons_zero, List.set_cons_succ]
            refine wpAnyZ_take (i := 15) (oi := { dst := some 200, op := Op.load 3 (Operand.tmp 199), type := 3, pos := "ref.go:111", after := #[{ on := 14, ground := Ground.data }], guard := none }) (v := ?_) [16, 17, 18, 19, 20, 21] rfl (by kernel_rfl) (by kernel_rfl) (by kernel_rfl) (by kernel_rfl) (fun _ _ _ h => h) (Or.inl ⟨by rfl, ?_⟩) (by assumption) ?_
            rotate_left
            · (intro w hSw; (try dsimp only at hSw); go_simp); (first | done | with_reducible rfl)
            try simp only [Act.put, List.setIfInBounds_toArray, List.set_cons_zero, List.set_cons_succ]
            refine wpAnyZ_takeY (i := 16) (oi := { dst := some 201, op := Op.binOp BinOp.add 3 (Operand.tmp 200) (Operand.const (Value.int IntKind.i64 2)) 3, type := 3, pos := "ref.go:111", after := #[{ on := 15, ground := Ground.data }], guard := none }) (v := ?_) rfl (by kernel_rfl) (by kernel_rfl) (by kernel_rfl) (by rfl) (fun _ _ _ h => h) (Or.inl ⟨by rfl, ?_⟩) (by assumption) ?_
            rotate_left
            · (intro w; go_simp); (first | done | with_reducible rfl)
            try simp only [Act.put, List.setIfInBounds_toArray, List.set_cons_zero, List.set_cons_succ]
            refine wpAnyZ_takeY (i := 17) (oi := { dst := some 202, op := Op.slice 22 (Operand.tmp 198) (some (Operand.tmp 201)) none none, type := 22, pos := "ref.go:111", after := #[{ on := 13, ground := Ground.data }, { on := 16, ground := Ground.data }], guard := none }) (v := ?_) rfl (by kernel_rfl) (by kernel_rfl) (by kernel_rfl) (by rfl) (fun _ _ _ h => h) (Or.inl ⟨by rfl, ?_⟩) (by assumption) ?_
            rotate_left
            · (intro w; go_simp); (first | done | with_reducible rfl)
            try simp only [Act.put, List.setIfInBounds_toArray, List.set_cons_zero, List.set_cons_succ]
            refine wpAnyZ_ready (rs := [9]) (by kernel_rfl) (by simp) ?_
            refine AllReadyZ.cons (o := { dst := some 194, op := Op.call { callee := Callee.builtin Builtin.append, args := #[Operand.const (Value.slice none 0 0), Operand.tmp 193], argTypes := #[22, 22] }, type := 22, pos := "ref.go:111", after := #[{ on := 8, ground := Ground.data }], guard := none }) rfl (by rfl) (fun K hK => ?_) (AllReadyZ.nil)
            refine step_append_tabs (by rfl) _ _ 22 (by rfl) w6.heap.size i1 z1 Try.underlying22 hi1 hz1 h11 h12 h13 (.slice none 0 0) 0 [] (by rfl) (World.ownsRow_nil _ _ _ _) ⟨g, 0, none⟩ _ (k + 1) (R1.take (k + 1)) (by rfl) (by rw [List.length_take, HRL.out]; omega) (cellsAt_take HK.out.own (k + 1)) (by omega) HB7.out.size ?_
            intro v7 w7 ho7 hg7
            rw [Nat.zero_add, List.nil_append] at ho7
            obtain ⟨a7, c7, rfl⟩ := own_shape16 ho7
            have HL := Lib.hid ho7
            replace HB7 := Lib.hid (HB7.out.grown hg7 HB7.out.size (fun q hq => by cases hq))
            replace HK := Lib.hid (HM.out.below HB7.out)
            replace HE := Lib.hid (HEB.out.below HB7.out)
            clear ho7 hg7
            refine hK.out _ _ ?_ (fun hHeld => ?_)
            · exact ⟨HK.out.bx.cell 0, HE.out.cell 1⟩
            clear hK K
            try simp only [Act.put, List.setIfInBounds_toArray, List.set_cons_zero, List.set_cons_succ]
            refine wpAnyZ_ready (rs := [18]) (by kernel_rfl) (by simp) ?_
            refine AllReadyZ.cons (o := { dst := some 203, op := Op.call { callee := Callee.builtin Builtin.append, args := #[Operand.tmp 194, Operand.tmp 202], argTypes := #[22, 22] }, type := 22, pos := "ref.go:111", after := #[{ on := 9, ground := Ground.data }, { on := 17, ground := Ground.data }, { on := 9, ground := Ground.chain }], guard := none }) rfl (by rfl) (fun K hK => ?_) (AllReadyZ.nil)
            refine step_append_tabs (by rfl) _ _ 22 (by rfl) w6.heap.size i1 z1 Try.underlying22 hi1 hz1 h11 h12 h13 (.slice a7 (k + 1) c7) (k + 1) (tbC (R1.take (k + 1))) (by rfl) HL.out _ _ (Rs.length - (k + 2)) [] (by simp [Act.eval, Act.put, q0]; exact ⟨rfl, rfl⟩) (by simp only [List.length_nil]; omega) (cellsAt_nil _ _) (by omega) HB7.out.size ?_
            intro v8 w8 ho8 hg8
            obtain ⟨a8, c8, rfl⟩ := own_shape16 ho8
            obtain ⟨g8, rfl, _⟩ := own_cell16 (by omega) ho8
            replace HB7 := Lib.hid (HB7.out.grown hg8 HB7.out.size (fun q hq => (HL.out.lt q hq).1))
            replace HK := Lib.hid (HM.out.below HB7.out)
            replace HE := Lib.hid (HEB.out.below HB7.out)
            have HF := Lib.hid (FIN.out g8 c8 w8 HK.out ho8)
            clear ho8 hg8
            refine hK.out _ _ ?_ (fun hHeld => ?_)
            · exact ⟨HK.out.bx.cell 0, HE.out.cell 1⟩
            clear hK K
            try simp only [Act.put, List.setIfInBounds_toArray, List.set_cons_zero, List.set_cons_succ]
            refine wpAnyZ_takeY (i := 19) (oi := { dst := some 204, op := Op.nilCheck (Operand.tmp 185), type := 0, pos := "ref.go:111", after := #[{ on := 0, ground := Ground.data }, { on := 0, ground := Ground.phase }, { on := 1, ground := Ground.phase }, { on := 2, ground := Ground.phase }, { on := 3, ground := Ground.phase }, { on := 4, ground := Ground.phase }, { on := 5, ground := Ground.phase }, { on := 6, ground := Ground.phase }, { on := 7, ground := Ground.phase }, { on := 8, ground := Ground.phase }, { on := 9, ground := Ground.phase }, { on := 10, ground := Ground.phase }, { on := 11, ground := Ground.phase }, { on := 12, ground := Ground.phase }, { on := 13, ground := Ground.phase }, { on := 14, ground := Ground.phase }, { on := 15, ground := Ground.phase }, { on := 16, ground := Ground.phase }, { on := 17, ground := Ground.phase }, { on := 18, ground := Ground.phase }], guard := none }) (v := ?_) rfl (by kernel_rfl) (by kernel_rfl) (by kernel_rfl) (by rfl) (fun _ _ _ h => h) (Or.inl ⟨by rfl, ?_⟩) (by assumption) ?_
            rotate_left
            · (intro w; go_simp); (first | done | with_reducible rfl)
            try simp only [Act.put, List.setIfInBounds_toArray, List.set_cons_zero, List.set_cons_succ]
            refine wpAnyZ_takeY (i := 20) (oi := { dst := some 205, op := Op.fieldAddr 24 (Operand.tmp 204) 0, type := 0, pos := "ref.go:111", after := #[{ on := 19, ground := Ground.data }, { on := 0, ground := Ground.phase }, { on := 1, ground := Ground.phase }, { on := 2, ground := Ground.phase }, { on := 3, ground := Ground.phase }, { on := 4, ground := Ground.phase }, { on := 5, ground := Ground.phase }, { on := 6, ground := Ground.phase }, { on := 7, ground := Ground.phase }, { on := 8, ground := Ground.phase }, { on := 9, ground := Ground.phase }, { on := 10, ground := Ground.phase }, { on := 11, ground := Ground.phase }, { on := 12, ground := Ground.phase }, { on := 13, ground := Ground.phase }, { on := 14, ground := Ground.phase }, { on := 15, ground := Ground.phase }, { on := 16, ground := Ground.phase }, { on := 17, ground := Ground.phase }, { on := 18, ground := Ground.phase }], guard := none }) (v := ?_) rfl (by kernel_rfl) (by kernel_rfl) (by kernel_rfl) (by rfl) (fun _ _ _ h => h) (Or.inl ⟨by rfl, ?_⟩) (by assumption) ?_
            rotate_left
            · (intro w; go_simp); (first | done | with_reducible rfl)
            try simp only [Act.put, List.setIfInBounds_toArray, List.set_cons_zero, List.set_cons_succ]
            refine wpAnyZ_ready (rs := [21]) (by kernel_rfl) (by simp) ?_
            refine AllReadyZ.last (o := { dst := none, op := Op.store 22 (Operand.tmp 205) (Operand.tmp 203), type := 0, pos := "ref.go:111", after := #[{ on := 20, ground := Ground.data }, { on := 18, ground := Ground.data }, { on := 18, ground := Ground.chain }, { on := 0, ground := Ground.phase }, { on := 1, ground := Ground.phase }, { on := 2, ground := Ground.phase }, { on := 3, ground := Ground.phase }, { on := 4, ground := Ground.phase }, { on := 5, ground := Ground.phase }, { on := 6, ground := Ground.phase }, { on := 7, ground := Ground.phase }, { on := 8, ground := Ground.phase }, { on := 9, ground := Ground.phase }, { on := 10, ground := Ground.phase }, { on := 11, ground := Ground.phase }, { on := 12, ground := Ground.phase }, { on := 13, ground := Ground.phase }, { on := 14, ground := Ground.phase }, { on := 15, ground := Ground.phase }, { on := 16, ground := Ground.phase }, { on := 17, ground := Ground.phase }, { on := 18, ground := Ground.phase }], guard := none }) rfl (fun K hK => ?_) AllReadyZ.nil
            have f9 := HK.out.bx.free 0
            have m9 := HK.out.bx.cell 0
            go_simp
            refine hK.out _ _ ?_
            clear hK K
            refine wpAny_done (by kernel_rfl) ?_ _
            have HG := Lib.hid HF.out
            clear HF
            go_wp2_with fail
            go_ret
            have HE2 := Lib.hid (HED.out.trans ((if_neg (by decide)).trans ((if_neg (by decide)).trans ((if_neg (by decide)).trans ((if_pos (by trivial)).trans (if_pos (by rw [HLEN.out]; exact hlast)))))))
            have h9 := HG.out
            rw [HTB.out] at h9
            unfold Rt.tb at h9
            rw [show ((Rk.getD k rt0).l) = sl from HSA.out.2, show ((Rk.getD (k + 1) rt0).l) = nl from HSA2.out.2, ← HPU.out] at HE2
            exact .inr ⟨_, _, HE2.out, rfl, h9, .inl rfl⟩
  · have d1 : decide ((Rs.length : Int) ≤ (k : Int) + 1) = true := decide_eq_true (by omega)
    have d2 : decide (Rs.length ≤ k + 1) = true := decide_eq_true (by omega)
    have HE2 := Lib.hid (HED.out.trans ((if_neg (by decide)).trans ((if_neg (by decide)).trans ((if_neg (by decide)).trans ((if_pos (by trivial)).trans (if_neg (by rw [HLEN.out]; omega)))))))
    go_wp2_with fail
    go_ret
    rw [← hw1]
    exact .inl ⟨HE2.out, rfl, HI.out.ah.cl.bel, HI.out.kp⟩

end Go.Proofs.Ytfcmjgcjmldpcaa
