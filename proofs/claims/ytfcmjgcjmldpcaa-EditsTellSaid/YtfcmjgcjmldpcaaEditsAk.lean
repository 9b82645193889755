/- Layer 16: the document's tablet, kind 1, by a contract (gentablet.py). -/
import Derived.Test.YtfcmjgcjmldpcaaEditsAj
namespace Go.Proofs.Ytfcmjgcjmldpcaa
set_option linter.unusedVariables false
set_option linter.unusedSimpArgs false
open Go Go.RowKit
attribute [local go_sem ↓] run_index_S
attribute [local go_sem] S_append S_extract

theorem bkIn_put16 {w : World} (C : Array Value) (T : TypeId) {n : Nat} (h : w.heap.size = n) : BkIn C T (w.alloc (.cells C T)) n := by subst h; exact bkIn_new C T w
/-- While the document edits a tablet: the copy in its box, the state and the edit in theirs. -/
structure RtI (w0 wk : World) (b g c : Nat) (Rs Rk : List Rt) (log next : Int) (so : Option Addr) (sc : Nat) (y : Re) (G : Nat) (w : World) : Prop where
  ah : Ahd w0 b g c Rs Rk log next w
  kp : Kp b wk w
  sb : BkIn (stA so Rs.length sc log next) 24 w G
  eb : BkIn (edA y) 27 w (G + 1)
  bl : b < G
theorem RtI.below {w0 wk w w' : World} {b g c G sc : Nat} {Rs Rk : List Rt} {log next : Int} {so : Option Addr} {y : Re} (h : RtI w0 wk b g c Rs Rk log next so sc y G w) (hb : Below w.heap.size w w') : RtI w0 wk b g c Rs Rk log next so sc y G w' :=
  ⟨h.ah.below hb, h.kp.below hb, h.sb.below hb, h.eb.below hb, h.bl⟩
/-- The original, as the document's tablet asks it. -/
structure RtQ (w0 : World) (Rs Rk : List Rt) (so : Option Addr) (y : Re) (k : Nat) : Prop where
  at_ : TbsAt w0 so Rs
  cap : ∀ r, r ∈ Rs → r.l.length ≤ r.k
  up : ∀ r, r ∈ Rs → r.l.length ≤ 256 ∧ r.l.Pairwise (· < ·)
  n16 : Rs.length ≤ 16
  kn : k < Rs.length
  yat : y.at_ = (k : Int)
  fok : 0 ≤ y.file ∧ y.file < 2147483647
  fl : y.fs.length ≤ 100000
  fi : ∀ n ∈ y.fs, -9223372036854775808 ≤ n ∧ n ≤ 9223372036854775807
  ns : NsAt w0 y.o y.fs
theorem same_at {Rs Rk : List Rt} (h : tbs Rk = tbs Rs) (k : Nat) : (Rk.getD k rt0).f = (Rs.getD k rt0).f ∧ (Rk.getD k rt0).l = (Rs.getD k rt0).l := by
  have h1 := tbs_at Rk k
  rw [h, tbs_at] at h1
  unfold Rt.tb at h1
  injection h1 with h2 h3
  exact ⟨h2.symm, h3.symm⟩
set_option maxHeartbeats 4000000 in
set_option maxRecDepth 100000 in
theorem refTablet_one (w0 : World) (b g c : Nat) (Rs Rk : List Rt) (log next : Int) (so : Option Addr) (sc : Nat) (y : Re) (k : Nat) (hq : RtQ w0 Rs Rk so y k) (hkd : y.kind = 1) (w : World) (h : Ahd w0 b g c Rs Rk log next w) :
    Calls Try.prog 33 #[.pointer (some ⟨b, 0, none⟩), .agg #[.slice so Rs.length sc, .int .i64 log, .int .i64 next], .agg (edA y)] w (EditR w0 w b ⟨tbs Rk, log, next⟩ y) := by
  obtain ⟨kind, at_, file, fs, fo, fk, key⟩ := y
  have hat := hq.yat
  simp only at hkd hat
  subst hkd
  subst hat
  have HQ := Lib.hid hq
  have HFL := Lib.hid hq.fok
  have hfl := hq.fl
  simp only at hfl
  have hk := hq.kn
  have hn16 := hq.n16
  have hlen : Rk.length = Rs.length := h.cl.len
  obtain ⟨w1, hw1⟩ : ∃ x, x = (w.alloc (.cells #[.slice so Rs.length sc, .int .i64 log, .int .i64 next] 24)).alloc (.cells #[.int .i64 1, .int .i64 k, .int .i64 file, .slice fo fs.length fk, .string (S key)] 27) := ⟨_, rfl⟩
  have HI := Lib.hid (show RtI w0 w b g c Rs Rk log next so sc ⟨1, k, file, fs, fo, fk, key⟩ w.heap.size w1 from by
    have hb2 : Below w.heap.size w w1 := by rw [hw1]; exact bel_two _ _ _
    refine ⟨h.below hb2, (Kp.refl b w).below hb2, by rw [hw1]; exact (bkIn_new _ _ w).below ((Below.refl _ _).alloc (Nat.le_refl _) _), ?_, h.bx.lt⟩
    rw [hw1]
    exact bkIn_put16 _ _ (by simp))
  have HSA := Lib.hid (same_at h.cl.same k)
  obtain ⟨gs, os, rfl, ct⟩ := hq.at_.off k hk
  have HT := Lib.hid ct
  have HED := Lib.hid (edit_in (s := ⟨tbs Rk, log, next⟩) (e := (⟨1, k, file, fs, fo, fk, key⟩ : Re).ed) (k := k) (by simp [Re.ed]) rfl (by simp only [tbs_length]; rw [hlen]; exact hk))
  simp only [Re.ed, setT_tbs, tbs_at, tbs_length, Rt.tb] at HED
  have HLEN := Lib.hid hlen
  have HMEM := Lib.hid (Ed.gD_mem (d := rt0) hk)
  have hki : (k : Int) < (Rs.length : Int) := by omega
  have hki2 : (k : Int) < (Rk.length : Int) := by omega
  unfold edA
  simp only
  clear ct hq h hlen
  generalize hrs : Rs.getD k rt0 = rs at *
  obtain ⟨sf, sl, sro, srk⟩ := rs
  have HRS := Lib.hid hrs
  clear hrs
  have G0 := Lib.hid (show ∃ G, G = w.heap.size from ⟨_, rfl⟩)
  have e1 : w1.cell? ⟨w.heap.size + 1, 1, none⟩ = some (.int .i64 k) := HI.out.eb.cell 1
  have e0 : w1.cell? ⟨w.heap.size + 1, 0, none⟩ = some (.int .i64 1) := HI.out.eb.cell 0
  have s0 : w1.cell? ⟨w.heap.size, 0, none⟩ = some (.slice (some ⟨gs, os, none⟩) Rs.length sc) := HI.out.sb.cell 0
  have o1 : w1.cell? ⟨gs, os + k * 2 + 1, none⟩ = some (.slice sro sl.length srk) := (HT.out.below HI.out.ah.cl.bel).2.1
  rw [hw1] at e0 e1 s0 o1
  go_enter Try.func33, Try.ntmps33
  go_wp2_with fail
  rw [← hw1]
  clear hw1 e0 e1 s0 o1
  generalize w.heap.size = G at *
  have HGG := Lib.hid (show G ≠ g ∧ G + 1 ≠ g from ⟨fun e => own_of_blk HI.out.sb HI.out.ah.cl.row (by decide) (by rw [e]; rfl), fun e => own_of_blk HI.out.eb HI.out.ah.cl.row (by decide) (by rw [e]; rfl)⟩)
  have HKs := Lib.hid hk
  have HLk := Lib.hid (show (Rk.getD k rt0).l.length + [file].length ≤ 1000000 from by have := (HQ.out.up _ HMEM.out).1; rw [HSA.out.2]; simp only [List.length_cons, List.length_nil]; simp only at this; omega)
  obtain ⟨i0, zz, hi0, hz0, h01, h02, h03⟩ := infoN_parts
  obtain ⟨ro, hro⟩ : ∃ x, x = (Rk.getD k rt0).o := ⟨_, rfl⟩
  have HRo := Lib.hid hro
  obtain ⟨rl, hrl⟩ : ∃ x, x = (Rk.getD k rt0).l := ⟨_, rfl⟩
  have HRl := Lib.hid hrl
  obtain ⟨rk, hrk⟩ : ∃ x, x = (Rk.getD k rt0).k := ⟨_, rfl⟩
  have HRk := Lib.hid hrk
  clear hro hrl hrk
  have HBL := Lib.hid HI.out.bl
  replace HI := Lib.hid (HI.out.below (Below.refl _ w1).drew)
  refine wp_region_Z (S := fun V => V.cell? ⟨b, 0, none⟩ = some (.slice (some ⟨g, 0, none⟩) Rs.length c) ∧ V.cell? ⟨G + 1, 1, none⟩ = some (.int .i64 k) ∧ V.cell? ⟨G + 1, 2, none⟩ = some (.int .i64 file) ∧ V.cell? ⟨g, k * 2 + 1, none⟩ = some (.slice ro rl.length rk)) 21 (by kernel_rfl) ?_ (fun hHeld => ?_)
  · exact ⟨HI.out.ah.bx.cell 0, HI.out.eb.cell 1, HI.out.eb.cell 2, by rw [HRo.out, HRl.out, HRk.out]; exact HI.out.ah.cells HKs.out⟩
  obtain ⟨wd, hwd⟩ : ∃ x, x = World.drew w1 := ⟨_, rfl⟩
  rw [← hwd] at HI hHeld ⊢
  clear hwd
  refine wpAnyZ_takeY (i := 0) (oi := { dst := some 23, op := Op.move (Operand.tmp 0), type := 59, pos := "ref.go:85", after := #[], guard := none }) (v := ?_) rfl (by kernel_rfl) (by kernel_rfl) (by kernel_rfl) (by rfl) (fun _ _ _ h => h) (Or.inl ⟨by rfl, ?_⟩) (by assumption) ?_
  rotate_left
  · (intro w; go_simp); (first | done | with_reducible rfl)
  try simp only [Act.put, List.setIfInBounds_toArray, List.set_cons_zero, List.set_cons_succ]
  refine wpAnyZ_takeY (i := 1) (oi := { dst := some 24, op := Op.nilCheck (Operand.tmp 23), type := 0, pos := "ref.go:85", after := #[{ on := 0, ground := Ground.data }], guard := none }) (v := ?_) rfl (by kernel_rfl) (by kernel_rfl) (by kernel_rfl) (by rfl) (fun _ _ _ h => h) (Or.inl ⟨by rfl, ?_⟩) (by assumption) ?_
  rotate_left
  · (intro w; go_simp); (first | done | with_reducible rfl)
  try simp only [Act.put, List.setIfInBounds_toArray, List.set_cons_zero, List.set_cons_succ]
  refine wpAnyZ_takeY (i := 2) (oi := { dst := some 25, op := Op.fieldAddr 24 (Operand.tmp 24) 0, type := 0, pos := "ref.go:85", after := #[{ on := 1, ground := Ground.data }], guard := none }) (v := ?_) rfl (by kernel_rfl) (by kernel_rfl) (by kernel_rfl) (by rfl) (fun _ _ _ h => h) (Or.inl ⟨by rfl, ?_⟩) (by assumption) ?_
  rotate_left
  · (intro w; go_simp); (first | done | with_reducible rfl)
  try simp only [Act.put, List.setIfInBounds_toArray, List.set_cons_zero, List.set_cons_succ]
  refine wpAnyZ_take (i := 3) (oi := { dst := some 26, op := Op.load 22 (Operand.tmp 25), type := 22, pos := "ref.go:85", after := #[{ on := 2, ground := Ground.data }], guard := none }) (v := ?_) [19, 20, 21] rfl (by kernel_rfl) (by kernel_rfl) (by kernel_rfl) (by kernel_rfl) (fun _ _ _ h => h) (Or.inl ⟨by rfl, ?_⟩) (by assumption) ?_
  rotate_left
  · (intro w hSw; (try dsimp only at hSw); go_simp); (first | done | with_reducible rfl)
  try simp only [Act.put, List.setIfInBounds_toArray, List.set_cons_zero, List.set_cons_succ]
  refine wpAnyZ_takeY (i := 4) (oi := { dst := some 27, op := Op.fieldAddr 27 (Operand.tmp 5) 1, type := 0, pos := "ref.go:85", after := #[], guard := none }) (v := ?_) rfl (by kernel_rfl) (by kernel_rfl) (by kernel_rfl) (by rfl) (fun _ _ _ h => h) (Or.inl ⟨by rfl, ?_⟩) (by assumption) ?_
  rotate_left
  · (intro w; go_simp); (first | done | with_reducible rfl)
  try simp only [Act.put, List.setIfInBounds_toArray, List.set_cons_zero, List.set_cons_succ]
  refine wpAnyZ_take (i := 5) (oi := { dst := some 28, op := Op.load 3 (Operand.tmp 27), type := 3, pos := "ref.go:85", after := #[{ on := 4, ground := Ground.data }], guard := none }) (v := ?_) [19, 20, 21] rfl (by kernel_rfl) (by kernel_rfl) (by kernel_rfl) (by kernel_rfl) (fun _ _ _ h => h) (Or.inl ⟨by rfl, ?_⟩) (by assumption) ?_
  rotate_left
  · (intro w hSw; (try dsimp only at hSw); go_simp); (first | done | with_reducible rfl)
  try simp only [Act.put, List.setIfInBounds_toArray, List.set_cons_zero, List.set_cons_succ]
  refine wpAnyZ_takeY (i := 6) (oi := { dst := some 29, op := Op.move (Operand.tmp 0), type := 59, pos := "ref.go:85", after := #[], guard := none }) (v := ?_) rfl (by kernel_rfl) (by kernel_rfl) (by kernel_rfl) (by rfl) (fun _ _ _ h => h) (Or.inl ⟨by rfl, ?_⟩) (by assumption) ?_
  rotate_left
  · (intro w; go_simp); (first | done | with_reducible rfl)
  try simp only [Act.put, List.setIfInBounds_toArray, List.set_cons_zero, List.set_cons_succ]
  refine wpAnyZ_takeY (i := 7) (oi := { dst := some 30, op := Op.nilCheck (Operand.tmp 29), type := 0, pos := "ref.go:85", after := #[{ on := 6, ground := Ground.data }], guard := none }) (v := ?_) rfl (by kernel_rfl) (by kernel_rfl) (by kernel_rfl) (by rfl) (fun _ _ _ h => h) (Or.inl ⟨by rfl, ?_⟩) (by assumption) ?_
  rotate_left
  · (intro w; go_simp); (first | done | with_reducible rfl)
  try simp only [Act.put, List.setIfInBounds_toArray, List.set_cons_zero, List.set_cons_succ]
  refine wpAnyZ_takeY (i := 8) (oi := { dst := some 31, op := Op.fieldAddr 24 (Operand.tmp 30) 0, type := 0, pos := "ref.go:85", after := #[{ on := 7, ground := Ground.data }], guard := none }) (v := ?_) rfl (by kernel_rfl) (by kernel_rfl) (by kernel_rfl) (by rfl) (fun _ _ _ h => h) (Or.inl ⟨by rfl, ?_⟩) (by assumption) ?_
  rotate_left
  · (intro w; go_simp); (first | done | with_reducible rfl)
  try simp only [Act.put, List.setIfInBounds_toArray, List.set_cons_zero, List.set_cons_succ]
  refine wpAnyZ_take (i := 9) (oi := { dst := some 32, op := Op.load 22 (Operand.tmp 31), type := 22, pos := "ref.go:85", after := #[{ on := 8, ground := Ground.data }], guard := none }) (v := ?_) [12, 13, 14, 18, 19, 20, 21] rfl (by kernel_rfl) (by kernel_rfl) (by kernel_rfl) (by kernel_rfl) (fun _ _ _ h => h) (Or.inl ⟨by rfl, ?_⟩) (by assumption) ?_
  rotate_left
  · (intro w hSw; (try dsimp only at hSw); go_simp); (first | done | with_reducible rfl)
  try simp only [Act.put, List.setIfInBounds_toArray, List.set_cons_zero, List.set_cons_succ]
  refine wpAnyZ_takeY (i := 10) (oi := { dst := some 33, op := Op.fieldAddr 27 (Operand.tmp 5) 1, type := 0, pos := "ref.go:85", after := #[], guard := none }) (v := ?_) rfl (by kernel_rfl) (by kernel_rfl) (by kernel_rfl) (by rfl) (fun _ _ _ h => h) (Or.inl ⟨by rfl, ?_⟩) (by assumption) ?_
  rotate_left
  · (intro w; go_simp); (first | done | with_reducible rfl)
  try simp only [Act.put, List.setIfInBounds_toArray, List.set_cons_zero, List.set_cons_succ]
  refine wpAnyZ_take (i := 11) (oi := { dst := some 34, op := Op.load 3 (Operand.tmp 33), type := 3, pos := "ref.go:85", after := #[{ on := 10, ground := Ground.data }], guard := none }) (v := ?_) [12, 13, 14, 18, 19, 20, 21] rfl (by kernel_rfl) (by kernel_rfl) (by kernel_rfl) (by kernel_rfl) (fun _ _ _ h => h) (Or.inl ⟨by rfl, ?_⟩) (by assumption) ?_
  rotate_left
  · (intro w hSw; (try dsimp only at hSw); go_simp); (first | done | with_reducible rfl)
  try simp only [Act.put, List.setIfInBounds_toArray, List.set_cons_zero, List.set_cons_succ]
  refine wpAnyZ_takeY (i := 12) (oi := { dst := some 35, op := Op.indexAddr 22 (Operand.tmp 32) (Operand.tmp 34), type := 0, pos := "ref.go:85", after := #[{ on := 9, ground := Ground.data }, { on := 11, ground := Ground.data }], guard := none }) (v := ?_) rfl (by kernel_rfl) (by kernel_rfl) (by kernel_rfl) (by rfl) (fun _ _ _ h => h) (Or.inl ⟨by rfl, ?_⟩) (by assumption) ?_
  rotate_left
  · (intro w; go_simp); (first | done | with_reducible rfl)
  try simp only [Act.put, List.setIfInBounds_toArray, List.set_cons_zero, List.set_cons_succ]
  refine wpAnyZ_takeY (i := 13) (oi := { dst := some 36, op := Op.fieldAddr 41 (Operand.tmp 35) 1, type := 0, pos := "ref.go:85", after := #[{ on := 12, ground := Ground.data }], guard := none }) (v := ?_) rfl (by kernel_rfl) (by kernel_rfl) (by kernel_rfl) (by rfl) (fun _ _ _ h => h) (Or.inl ⟨by rfl, ?_⟩) (by assumption) ?_
  rotate_left
  · (intro w; go_simp); (first | done | with_reducible rfl)
  try simp only [Act.put, List.setIfInBounds_toArray, List.set_cons_zero, List.set_cons_succ]
  refine wpAnyZ_take (i := 14) (oi := { dst := some 37, op := Op.load 25 (Operand.tmp 36), type := 25, pos := "ref.go:85", after := #[{ on := 13, ground := Ground.data }], guard := none }) (v := ?_) [18, 19, 20, 21] rfl (by kernel_rfl) (by kernel_rfl) (by kernel_rfl) (by kernel_rfl) (fun _ _ _ h => h) (Or.inl ⟨by rfl, ?_⟩) (by assumption) ?_
  rotate_left
  · (intro w hSw; (try dsimp only at hSw); go_simp); (first | done | with_reducible rfl)
  try simp only [Act.put, List.setIfInBounds_toArray, List.set_cons_zero, List.set_cons_succ]
  refine wpAnyZ_takeY (i := 15) (oi := { dst := some 38, op := Op.fieldAddr 27 (Operand.tmp 5) 2, type := 0, pos := "ref.go:85", after := #[], guard := none }) (v := ?_) rfl (by kernel_rfl) (by kernel_rfl) (by kernel_rfl) (by rfl) (fun _ _ _ h => h) (Or.inl ⟨by rfl, ?_⟩) (by assumption) ?_
  rotate_left
  · (intro w; go_simp); (first | done | with_reducible rfl)
  try simp only [Act.put, List.setIfInBounds_toArray, List.set_cons_zero, List.set_cons_succ]
  refine wpAnyZ_take (i := 16) (oi := { dst := some 39, op := Op.load 3 (Operand.tmp 38), type := 3, pos := "ref.go:85", after := #[{ on := 15, ground := Ground.data }], guard := none }) (v := ?_) [17, 18, 19, 20, 21] rfl (by kernel_rfl) (by kernel_rfl) (by kernel_rfl) (by kernel_rfl) (fun _ _ _ h => h) (Or.inl ⟨by rfl, ?_⟩) (by assumption) ?_
  rotate_left
  · (intro w hSw; (try dsimp only at hSw); go_simp); (first | done | with_reducible rfl)
  try simp only [Act.put, List.setIfInBounds_toArray, List.set_cons_zero, List.set_cons_succ]
  refine wpAnyZ_ready (rs := [17]) (by kernel_rfl) (by simp) ?_
  refine AllReadyZ.cons (o := { dst := some 40, op := Op.buildSlice 25 1 #[(0, Operand.tmp 39)], type := 25, pos := "ref.go:85", after := #[{ on := 16, ground := Ground.data }], guard := none }) rfl (by rfl) (fun K hK => ?_) (AllReadyZ.nil)
  go_simp
  have hb5 := (Below.refl wd.heap.size wd).alloc (Nat.le_refl _) (.cells #[.int .i64 file] 3)
  have HX5 := Lib.hid (bkIn_new #[.int .i64 file] 3 wd)
  replace HI := Lib.hid (HI.out.below hb5)
  generalize (World.alloc wd (.cells #[.int .i64 file] 3)) = w5 at *
  clear hb5
  have HSS := Lib.hid (show w5.cell? ⟨b, 0, none⟩ = some (.slice (some ⟨g, 0, none⟩) Rs.length c) ∧ w5.cell? ⟨G + 1, 1, none⟩ = some (.int .i64 k) ∧ w5.cell? ⟨G + 1, 2, none⟩ = some (.int .i64 file) ∧ w5.cell? ⟨g, k * 2 + 1, none⟩ = some (.slice ro rl.length rk) from ⟨HI.out.ah.bx.cell 0, HI.out.eb.cell 1, HI.out.eb.cell 2, by rw [HRo.out, HRl.out, HRk.out]; exact HI.out.ah.cells HKs.out⟩)
  refine hK.out _ _ ?_ (fun hHeld => ?_)
  · exact HSS.out
  clear hK K
  try simp only [Act.put, List.setIfInBounds_toArray, List.set_cons_zero, List.set_cons_succ]
  refine wpAnyZ_ready (rs := [18]) (by kernel_rfl) (by simp) ?_
  refine AllReadyZ.cons (o := { dst := some 41, op := Op.call { callee := Callee.builtin Builtin.append, args := #[Operand.tmp 37, Operand.tmp 40], argTypes := #[25, 25] }, type := 25, pos := "ref.go:85", after := #[{ on := 14, ground := Ground.data }, { on := 17, ground := Ground.data }], guard := none }) rfl (by rfl) (fun K hK => ?_) (AllReadyZ.nil)
  refine step_append_nums16 (by rfl) _ _ 25 (by rfl) w0.heap.size i0 zz Try.underlying25 hi0 hz0 h01 h02 h03 (.slice ro rl.length rk) rl.length (nsL rl) (by rfl) (by rw [HRo.out, HRl.out, HRk.out]; exact HI.out.ah.cl.own k HKs.out) (some ⟨wd.heap.size, 0, none⟩) 1 1 [file] (by rfl) rfl (nsAt_one HX5.out) (by rw [HRl.out]; exact HLk.out) HI.out.ah.cl.bel.size ?_
  intro v6 w6 ho6 hg6
  obtain ⟨a6, c6, rfl⟩ := own_shape16 ho6
  have hg6' : w5.grownBy w6 (Rk.getD k rt0).blk := by rw [HRo.out, HRl.out, HRk.out] at hg6; exact hg6
  have HP6 := Lib.hid (HI.out.ah.appRow HKs.out hg6')
  have HSB := Lib.hid (HP6.out.2.2 _ _ _ (by decide) HI.out.sb)
  have HEB := Lib.hid (HP6.out.2.2 _ _ _ (by decide) HI.out.eb)
  have HBX := Lib.hid (HP6.out.2.2 _ _ _ (by decide) HI.out.ah.bx)
  have HM6 := Lib.hid (HI.out.ah.app HI.out.kp (l' := rl ++ [file]) (ao' := a6) (cap' := c6) HKs.out hg6' (by rw [List.length_append, nsL_append]; exact ho6))
  replace HSS := Lib.hid (show w6.cell? ⟨b, 0, none⟩ = some (.slice (some ⟨g, 0, none⟩) Rs.length c) ∧ w6.cell? ⟨G + 1, 1, none⟩ = some (.int .i64 k) ∧ w6.cell? ⟨G + 1, 2, none⟩ = some (.int .i64 file) ∧ w6.cell? ⟨g, k * 2 + 1, none⟩ = some (.slice ro rl.length rk) from ⟨HBX.out.cell 0, HEB.out.cell 1, HEB.out.cell 2, by rw [HRo.out, HRl.out, HRk.out]; exact HP6.out.1⟩)
  clear ho6 hg6 hg6' HI
  refine hK.out _ _ ?_ (fun hHeld => ?_)
  · exact HSS.out
  clear hK K
  try simp only [Act.put, List.setIfInBounds_toArray, List.set_cons_zero, List.set_cons_succ]
  refine wpAnyZ_takeY (i := 19) (oi := { dst := some 42, op := Op.indexAddr 22 (Operand.tmp 26) (Operand.tmp 28), type := 0, pos := "ref.go:85", after := #[{ on := 3, ground := Ground.data }, { on := 5, ground := Ground.data }, { on := 0, ground := Ground.phase }, { on := 1, ground := Ground.phase }, { on := 2, ground := Ground.phase }, { on := 3, ground := Ground.phase }, { on := 4, ground := Ground.phase }, { on := 5, ground := Ground.phase }, { on := 6, ground := Ground.phase }, { on := 7, ground := Ground.phase }, { on := 8, ground := Ground.phase }, { on := 9, ground := Ground.phase }, { on := 10, ground := Ground.phase }, { on := 11, ground := Ground.phase }, { on := 12, ground := Ground.phase }, { on := 13, ground := Ground.phase }, { on := 14, ground := Ground.phase }, { on := 15, ground := Ground.phase }, { on := 16, ground := Ground.phase }, { on := 17, ground := Ground.phase }, { on := 18, ground := Ground.phase }], guard := none }) (v := ?_) rfl (by kernel_rfl) (by kernel_rfl) (by kernel_rfl) (by rfl) (fun _ _ _ h => h) (Or.inl ⟨by rfl, ?_⟩) (by assumption) ?_
  rotate_left
  · (intro w; go_simp); (first | done | with_reducible rfl)
  try simp only [Act.put, List.setIfInBounds_toArray, List.set_cons_zero, List.set_cons_succ]
  refine wpAnyZ_takeY (i := 20) (oi := { dst := some 43, op := Op.fieldAddr 41 (Operand.tmp 42) 1, type := 0, pos := "ref.go:85", after := #[{ on := 19, ground := Ground.data }, { on := 0, ground := Ground.phase }, { on := 1, ground := Ground.phase }, { on := 2, ground := Ground.phase }, { on := 3, ground := Ground.phase }, { on := 4, ground := Ground.phase }, { on := 5, ground := Ground.phase }, { on := 6, ground := Ground.phase }, { on := 7, ground := Ground.phase }, { on := 8, ground := Ground.phase }, { on := 9, ground := Ground.phase }, { on := 10, ground := Ground.phase }, { on := 11, ground := Ground.phase }, { on := 12, ground := Ground.phase }, { on := 13, ground := Ground.phase }, { on := 14, ground := Ground.phase }, { on := 15, ground := Ground.phase }, { on := 16, ground := Ground.phase }, { on := 17, ground := Ground.phase }, { on := 18, ground := Ground.phase }], guard := none }) (v := ?_) rfl (by kernel_rfl) (by kernel_rfl) (by kernel_rfl) (by rfl) (fun _ _ _ h => h) (Or.inl ⟨by rfl, ?_⟩) (by assumption) ?_
  rotate_left
  · (intro w; go_simp); (first | done | with_reducible rfl)
  try simp only [Act.put, List.setIfInBounds_toArray, List.set_cons_zero, List.set_cons_succ]
  refine wpAnyZ_ready (rs := [21]) (by kernel_rfl) (by simp) ?_
  refine AllReadyZ.last (o := { dst := none, op := Op.store 25 (Operand.tmp 43) (Operand.tmp 41), type := 0, pos := "ref.go:85", after := #[{ on := 20, ground := Ground.data }, { on := 18, ground := Ground.data }, { on := 18, ground := Ground.chain }, { on := 0, ground := Ground.phase }, { on := 1, ground := Ground.phase }, { on := 2, ground := Ground.phase }, { on := 3, ground := Ground.phase }, { on := 4, ground := Ground.phase }, { on := 5, ground := Ground.phase }, { on := 6, ground := Ground.phase }, { on := 7, ground := Ground.phase }, { on := 8, ground := Ground.phase }, { on := 9, ground := Ground.phase }, { on := 10, ground := Ground.phase }, { on := 11, ground := Ground.phase }, { on := 12, ground := Ground.phase }, { on := 13, ground := Ground.phase }, { on := 14, ground := Ground.phase }, { on := 15, ground := Ground.phase }, { on := 16, ground := Ground.phase }, { on := 17, ground := Ground.phase }, { on := 18, ground := Ground.phase }], guard := none }) rfl (fun K hK => ?_) AllReadyZ.nil
  have f9 := HP6.out.2.1
  have m9 := HSS.out.2.2.2
  go_simp
  refine hK.out _ _ ?_
  clear hK K
  refine wpAny_done (by kernel_rfl) ?_ _
  rw [List.length_append] at HM6
  have HM7 := Lib.hid (show MgI w0 w b g c Rs.length (Rk.set k ⟨(Rk.getD k rt0).f, rl ++ [file], a6, c6⟩) log next (w6.setCell ⟨g, k * 2 + 1, none⟩ (.slice a6 (rl.length + 1) c6)) from HM6.out)
  have HNE := Lib.hid (show G ≠ g ∧ G + 1 ≠ g from HGG.out)
  have HSB7 := Lib.hid (HSB.out.other HNE.out.1 (k * 2 + 1) (.slice a6 (rl.length + 1) c6))
  have HEB7 := Lib.hid (HEB.out.other HNE.out.2 (k * 2 + 1) (.slice a6 (rl.length + 1) c6))
  generalize (w6.setCell ⟨g, k * 2 + 1, none⟩ (.slice a6 (rl.length + 1) c6)) = w7 at *
  clear HM6 HP6 HSS hHeld HSB HEB HBX f9 m9
  have e2 : w7.cell? ⟨G + 1, 2, none⟩ = some (.int .i64 file) := HEB7.out.cell 2
  have m2 : w7.cell? ⟨b, 2, none⟩ = some (.int .i64 next) := HM7.out.bx.cell 2
  have f2 := HM7.out.bx.free 2
  have HM8 := Lib.hid (HM7.out.setNext (file + 1))
  have e2' : (w7.setCell ⟨b, 2, none⟩ (.int .i64 (file + 1))).cell? ⟨G + 1, 2, none⟩ = some (.int .i64 file) := (HEB7.out.other (by have := HBL.out; omega) 2 (.int .i64 (file + 1))).cell 2
  have s2' : (w7.setCell ⟨b, 2, none⟩ (.int .i64 (file + 1))).cell? ⟨G, 2, none⟩ = some (.int .i64 next) := (HSB7.out.other (by have := HBL.out; omega) 2 (.int .i64 (file + 1))).cell 2
  have ew : IntKind.i64.wrap (file + 1) = file + 1 := IntWalk.i64_in _ (by have := HFL.out; omega)
  go_wp2_with fail
  go_ret
  have HE2 := Lib.hid (HED.out.trans (if_pos (by trivial)))
  by_cases q : next ≤ file
  · refine .inr ⟨_, _, HE2.out.trans (if_pos q), by rw [decide_eq_true q]; rfl, ?_, .inl rfl⟩
    have := HM8.out.ed (by rw [List.length_set, HLEN.out])
    rw [tbs_set] at this
    rw [← HRl.out]
    exact this
  · exact .inl ⟨HE2.out.trans (if_neg q), by rw [decide_eq_false q]; rfl, HM8.out.own.bel, HM8.out.kp⟩

end Go.Proofs.Ytfcmjgcjmldpcaa
