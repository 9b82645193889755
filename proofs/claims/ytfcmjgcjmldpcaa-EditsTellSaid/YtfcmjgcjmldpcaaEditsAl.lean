/- Layer 16: the document's tablet, kind 2, by a contract (gentablet.py). -/
import Derived.Test.YtfcmjgcjmldpcaaEditsAk
namespace Go.Proofs.Ytfcmjgcjmldpcaa
set_option linter.unusedVariables false
set_option linter.unusedSimpArgs false
open Go Go.RowKit
attribute [local go_sem ↓] run_index_S
attribute [local go_sem] S_append S_extract

/-- Numbers below another one, too. -/
theorem up_mono : ∀ {l : List Int} {last a b : Int}, Ed.up last a l → a ≤ b → Ed.up last b l
  | [], _, _, _, _, _ => trivial
  | x :: t, _, _, _, ⟨h1, h2, h3⟩, h => ⟨h1, by omega, up_mono h3 h⟩
def fmax (next : Int) (fs : List Int) : Int := fs.foldl (fun a x => max a (IntKind.i64.wrap (x + 1))) next
theorem fmax_snoc (next : Int) (fs : List Int) (x : Int) : fmax next (fs ++ [x]) = max (fmax next fs) (IntKind.i64.wrap (x + 1)) := by unfold fmax; rw [List.foldl_append]; rfl
theorem fmax_up : ∀ (fs : List Int) (a last : Int), 0 ≤ last → Ed.up last 2147483647 fs → fmax a fs = if fs = [] then a else max a (Ed.lastOf 0 fs + 1)
  | [], a, last, _, _ => rfl
  | x :: t, a, last, h0, ⟨h1, h2, h3⟩ => by
    have e1 : fmax a (x :: t) = fmax (max a (IntKind.i64.wrap (x + 1))) t := rfl
    rw [e1, IntWalk.i64_in _ (by omega), fmax_up t (max a (x + 1)) x (by omega) h3, if_neg (List.cons_ne_nil _ _)]
    by_cases ht : t = []
    · subst ht; rfl
    · rw [if_neg ht]
      have e2 : Ed.lastOf 0 (x :: t) = Ed.lastOf 0 t := by
        unfold Ed.lastOf
        rw [List.getLast?_cons, List.getLast?_eq_some_getLast ht]; rfl
      have hm : Ed.lastOf 0 t ∈ t := by
        unfold Ed.lastOf
        rw [List.getLast?_eq_some_getLast ht]
        exact List.getLast_mem ht
      have := (Ed.up_take h3 _ hm).1
      rw [e2]; omega
/-- Next behind a swap, number by number: the same, or neither state may be. -/
theorem swap_fold {T : List Ed.Tb} {k : Nat} (hk : k < T.length) {f : List UInt8} {fs : List Int} {log next : Int} :
    fmax next fs = Ed.swapNext next fs ∨ ¬ Ed.Ok ⟨T.set k ⟨f, fs⟩, log, Ed.swapNext next fs⟩ ∧ ¬ Ed.Ok ⟨T.set k ⟨f, fs⟩, log, fmax next fs⟩ := by
  by_cases hu : Ed.up 0 2147483647 fs
  · left
    rw [fmax_up fs next 0 (Int.le_refl _) hu]; rfl
  · right
    have hno : ∀ next', ¬ Ed.Ok ⟨T.set k ⟨f, fs⟩, log, next'⟩ := fun next' h => by
      have h3 := (h.each k (by simpa using hk)).2.2.1
      have e : (T.set k ⟨f, fs⟩).getD k Ed.tb0 = ⟨f, fs⟩ := by simp [List.getD, List.getElem?_set, hk]
      rw [e] at h3
      exact hu (up_mono h3 h.nextM)
    exact ⟨hno _, hno _⟩
theorem Ahd.setNext {w0 w : World} {b g c : Nat} {Rs Rk : List Rt} {log next : Int} (h : Ahd w0 b g c Rs Rk log next w) (m : Int) : Ahd w0 b g c Rs Rk log m (w.setCell ⟨b, 2, none⟩ (.int .i64 m)) :=
  ⟨⟨h.cl.len, h.cl.same, ownsRow_setCell_other h.cl.row (own_of_blk h.bx h.cl.row (by decide)) _, h.cl.old, fun j hj => ownsRow_setCell_other (h.cl.own j hj) (own_of_blk h.bx (h.cl.own j hj) (by decide)) _, h.cl.dis, h.cl.bel.setCell (by exact h.b0) _⟩, by have := h.bx.set 2 (.int .i64 m); simpa using this, h.b0, h.ne⟩
/-- While the document swaps: Next goes up. -/
structure SwI (w0 wk : World) (b g c : Nat) (Rs Rk : List Rt) (log next n' : Int) (so : Option Addr) (sc : Nat) (y : Re) (G : Nat) (w : World) : Prop where
  ah : Ahd w0 b g c Rs Rk log n' w
  kp : Kp b wk w
  sb : BkIn (stA so Rs.length sc log next) 24 w G
  eb : BkIn (edA y) 27 w (G + 1)
  bl : b < G
theorem SwI.below {w0 wk w w' : World} {b g c G sc : Nat} {Rs Rk : List Rt} {log next n' : Int} {so : Option Addr} {y : Re} (h : SwI w0 wk b g c Rs Rk log next n' so sc y G w) (hb : Below w.heap.size w w') : SwI w0 wk b g c Rs Rk log next n' so sc y G w' :=
  ⟨h.ah.below hb, h.kp.below hb, h.sb.below hb, h.eb.below hb, h.bl⟩
theorem SwI.put {w0 wk w : World} {b g c G sc : Nat} {Rs Rk : List Rt} {log next n' : Int} {so : Option Addr} {y : Re} (h : SwI w0 wk b g c Rs Rk log next n' so sc y G w) (m : Int) : SwI w0 wk b g c Rs Rk log next m so sc y G (w.setCell ⟨b, 2, none⟩ (.int .i64 m)) :=
  ⟨h.ah.setNext m, h.kp.box 2 _, h.sb.other (by have := h.bl; omega) _ _, h.eb.other (by have := h.bl; omega) _ _, h.bl⟩
set_option maxHeartbeats 4000000 in
set_option maxRecDepth 100000 in
theorem refTablet_two (w0 : World) (b g c : Nat) (Rs Rk : List Rt) (log next : Int) (so : Option Addr) (sc : Nat) (y : Re) (k : Nat) (hq : RtQ w0 Rs Rk so y k) (hkd : y.kind = 2) (w : World) (h : Ahd w0 b g c Rs Rk log next w) :
    Calls Try.prog 33 #[.pointer (some ⟨b, 0, none⟩), .agg #[.slice so Rs.length sc, .int .i64 log, .int .i64 next], .agg (edA y)] w (EditR w0 w b ⟨tbs Rk, log, next⟩ y) := by
  obtain ⟨kind, at_, file, fs, fo, fk, key⟩ := y
  have hat := hq.yat
  simp only at hkd hat
  subst hkd
  subst hat
  have HQ := Lib.hid hq
  have HFL := Lib.hid hq.fok
  have hfl := hq.fl
  simp only at hfl
  have hk := hq.kn
  have hn16 := hq.n16
  have hlen : Rk.length = Rs.length := h.cl.len
  obtain ⟨w1, hw1⟩ : ∃ x, x = (w.alloc (.cells #[.slice so Rs.length sc, .int .i64 log, .int .i64 next] 24)).alloc (.cells #[.int .i64 2, .int .i64 k, .int .i64 file, .slice fo fs.length fk, .string (S key)] 27) := ⟨_, rfl⟩
  have HI := Lib.hid (show RtI w0 w b g c Rs Rk log next so sc ⟨2, k, file, fs, fo, fk, key⟩ w.heap.size w1 from by
    have hb2 : Below w.heap.size w w1 := by rw [hw1]; exact bel_two _ _ _
    refine ⟨h.below hb2, (Kp.refl b w).below hb2, by rw [hw1]; exact (bkIn_new _ _ w).below ((Below.refl _ _).alloc (Nat.le_refl _) _), ?_, h.bx.lt⟩
    rw [hw1]
    exact bkIn_put16 _ _ (by simp))
  have HSA := Lib.hid (same_at h.cl.same k)
  obtain ⟨gs, os, rfl, ct⟩ := hq.at_.off k hk
  have HT := Lib.hid ct
  have HED := Lib.hid (edit_in (s := ⟨tbs Rk, log, next⟩) (e := (⟨2, k, file, fs, fo, fk, key⟩ : Re).ed) (k := k) (by simp [Re.ed]) rfl (by simp only [tbs_length]; rw [hlen]; exact hk))
  simp only [Re.ed, setT_tbs, tbs_at, tbs_length, Rt.tb] at HED
  have HLEN := Lib.hid hlen
  have HMEM := Lib.hid (Ed.gD_mem (d := rt0) hk)
  have hki : (k : Int) < (Rs.length : Int) := by omega
  have hki2 : (k : Int) < (Rk.length : Int) := by omega
  unfold edA
  simp only
  clear ct hq h hlen
  generalize hrs : Rs.getD k rt0 = rs at *
  obtain ⟨sf, sl, sro, srk⟩ := rs
  have HRS := Lib.hid hrs
  clear hrs
  have G0 := Lib.hid (show ∃ G, G = w.heap.size from ⟨_, rfl⟩)
  have e1 : w1.cell? ⟨w.heap.size + 1, 1, none⟩ = some (.int .i64 k) := HI.out.eb.cell 1
  have e0 : w1.cell? ⟨w.heap.size + 1, 0, none⟩ = some (.int .i64 2) := HI.out.eb.cell 0
  have s0 : w1.cell? ⟨w.heap.size, 0, none⟩ = some (.slice (some ⟨gs, os, none⟩) Rs.length sc) := HI.out.sb.cell 0
  have o1 : w1.cell? ⟨gs, os + k * 2 + 1, none⟩ = some (.slice sro sl.length srk) := (HT.out.below HI.out.ah.cl.bel).2.1
  rw [hw1] at e0 e1 s0 o1
  go_enter Try.func33, Try.ntmps33
  go_wp2_with fail
  rw [← hw1]
  clear hw1 e0 e1 s0 o1
  generalize w.heap.size = G at *
  have HS0 := Lib.hid (show SwI w0 w b g c Rs Rk log next next (some ⟨gs, os, none⟩) sc ⟨2, k, file, fs, fo, fk, key⟩ G w1 from ⟨HI.out.ah, HI.out.kp, HI.out.sb, HI.out.eb, HI.out.bl⟩)
  clear HI
  go_loopw [8] (fun i wr => ∃ (j : Nat) (n' : Int), j ≤ fs.length ∧ i = .int .i64 j ∧ Hid (SwapOk next sl (fs.take j)) ∧ Hid (n' = fmax next (fs.take j)) ∧ Hid (SwI w0 w b g c Rs Rk log next n' (some ⟨gs, os, none⟩) sc ⟨2, k, file, fs, fo, fk, key⟩ G wr)) (fun i _ => fs.length - (intOf i).toNat)
  case atStart => exact ⟨0, next, Nat.zero_le _, rfl, Lib.hid (fun n hn => by simp at hn), Lib.hid rfl, HS0⟩
  case round =>
    obtain ⟨j, n', hj, rfl, HSO, HN, HSr⟩ := hrel
    clear HS0
    have e3 : wr.cell? ⟨G + 1, 3, none⟩ = some (.slice fo fs.length fk) := HSr.out.eb.cell 3
    by_cases hlt : j < fs.length
    · have hji : (j : Int) < (fs.length : Int) := by omega
      obtain ⟨gf, of_, rfl, x00⟩ := HQ.out.ns.off j hlt
      have HX := Lib.hid (show ∀ v, Below w0.heap.size w0 v → v.cell? ⟨gf, of_ + j, none⟩ = some (.int .i64 (fs.getD j 0)) from fun v hv => by
        have := HQ.out.ns.below hv
        obtain ⟨g', o', e, hc⟩ := this.off j hlt
        cases e
        exact hc)
      have x0 := HX.out wr HSr.out.ah.cl.bel
      have s2 : wr.cell? ⟨G, 2, none⟩ = some (.int .i64 next) := HSr.out.sb.cell 2
      have HTK := Lib.hid (Ed.take_snoc fs j 0 hlt)
      have HM := Lib.hid (Ed.gD_mem (d := 0) hlt)
      have HLT := Lib.hid hlt
      clear x00 hlt
      generalize fs.getD j 0 = x at *
      by_cases h1 : x < next
      · have d1 : decide (x < next) = true := decide_eq_true h1
        have CI := Lib.hid (fun (d : Nat) => refIn16_any sl (by have := (HQ.out.up _ HMEM.out).1; simp only at this; omega) sro srk x (wr.drewN d) ((HT.out.2.2.below HSr.out.ah.cl.bel).below (below_drewN (Below.refl _ wr) d)))
        cases q : sl.contains x with
        | false =>
          rw [q] at CI
          have HF := Lib.hid (show ¬ SwapOk next (Rk.getD k rt0).l fs from fun h => by
            rcases h x HM.out with h | h
            · omega
            · rw [HSA.out.2] at h; simp at q; exact q h)
          have HE2 := Lib.hid (HED.out.trans ((if_neg (by decide)).trans ((if_pos (by trivial)).trans (if_neg HF.out))))
          clear q HF
          go_wp2_with fail
          go_quiet ((go_at_call 53; with_reducible exact Calls.quiet_of_same (CI.out _)))
          have HS2 := Lib.hid (HSr.out.below (below_drewN (Below.refl wr.heap.size wr) nq))
          generalize wr.drewN nq = w2 at *
          go_wp2_with fail
          go_ret
          exact .inl ⟨HE2.out, rfl, HS2.out.ah.cl.bel, HS2.out.kp⟩
        | true =>
          rw [q] at CI
          have HS1 := Lib.hid (show SwapOk next sl (fs.take (j + 1)) from fun z hz => by
            rw [HTK.out, List.mem_append, List.mem_singleton] at hz
            rcases hz with hz | rfl
            · exact HSO.out z hz
            · exact .inr (by simpa using q))
          clear q HSO
          go_wp2_with fail
          go_quiet ((go_at_call 53; with_reducible exact Calls.quiet_of_same (CI.out _)))
          have HS2 := Lib.hid (HSr.out.below (below_drewN (Below.refl wr.heap.size wr) nq))
          clear CI HSr e3 x0 s2
          generalize wr.drewN nq = w2 at *
          go_wp2_with fail
          replace HS2 := Lib.hid (HS2.out.below (Below.refl _ w2).drew)
          refine wp_region_Z (S := fun V => V.cell? ⟨b, 2, none⟩ = some (.int .i64 n') ∧ V.cell? ⟨G + 1, 3, none⟩ = some (.slice (some ⟨gf, of_, none⟩) fs.length fk) ∧ V.cell? ⟨gf, of_ + j, none⟩ = some (.int .i64 x)) 14 (by kernel_rfl) ?_ (fun hHeld => ?_)
          · exact ⟨HS2.out.ah.bx.cell 2, HS2.out.eb.cell 3, HX.out _ HS2.out.ah.cl.bel⟩
          obtain ⟨wd, hwd⟩ : ∃ x, x = World.drew w2 := ⟨_, rfl⟩
          rw [← hwd] at HS2 hHeld ⊢
          clear hwd
          have HSS := Lib.hid (show wd.cell? ⟨b, 2, none⟩ = some (.int .i64 n') ∧ wd.cell? ⟨G + 1, 3, none⟩ = some (.slice (some ⟨gf, of_, none⟩) fs.length fk) ∧ wd.cell? ⟨gf, of_ + j, none⟩ = some (.int .i64 x) from ⟨HS2.out.ah.bx.cell 2, HS2.out.eb.cell 3, HX.out _ HS2.out.ah.cl.bel⟩)
          refine wpAnyZ_takeY (i := 0) (oi := { dst := some 82, op := Op.move (Operand.tmp 0), type := 59, pos := "ref.go:93", after := #[], guard := none }) (v := ?_) rfl (by kernel_rfl) (by kernel_rfl) (by kernel_rfl) (by rfl) (fun _ _ _ h => h) (Or.inl ⟨by rfl, ?_⟩) (by assumption) ?_
          rotate_left
          · (intro w; go_simp); (first | done | with_reducible rfl)
          try simp only [Act.put, List.setIfInBounds_toArray, List.set_cons_zero, List.set_cons_succ]
          refine wpAnyZ_takeY (i := 1) (oi := { dst := some 83, op := Op.move (Operand.tmp 0), type := 59, pos := "ref.go:93", after := #[], guard := none }) (v := ?_) rfl (by kernel_rfl) (by kernel_rfl) (by kernel_rfl) (by rfl) (fun _ _ _ h => h) (Or.inl ⟨by rfl, ?_⟩) (by assumption) ?_
          rotate_left
          · (intro w; go_simp); (first | done | with_reducible rfl)
          try simp only [Act.put, List.setIfInBounds_toArray, List.set_cons_zero, List.set_cons_succ]
          refine wpAnyZ_takeY (i := 2) (oi := { dst := some 84, op := Op.nilCheck (Operand.tmp 83), type := 0, pos := "ref.go:93", after := #[{ on := 1, ground := Ground.data }], guard := none }) (v := ?_) rfl (by kernel_rfl) (by kernel_rfl) (by kernel_rfl) (by rfl) (fun _ _ _ h => h) (Or.inl ⟨by rfl, ?_⟩) (by assumption) ?_
          rotate_left
          · (intro w; go_simp); (first | done | with_reducible rfl)
          try simp only [Act.put, List.setIfInBounds_toArray, List.set_cons_zero, List.set_cons_succ]
          refine wpAnyZ_takeY (i := 3) (oi := { dst := some 85, op := Op.fieldAddr 24 (Operand.tmp 84) 2, type := 0, pos := "ref.go:93", after := #[{ on := 2, ground := Ground.data }], guard := none }) (v := ?_) rfl (by kernel_rfl) (by kernel_rfl) (by kernel_rfl) (by rfl) (fun _ _ _ h => h) (Or.inl ⟨by rfl, ?_⟩) (by assumption) ?_
          rotate_left
          · (intro w; go_simp); (first | done | with_reducible rfl)
          try simp only [Act.put, List.setIfInBounds_toArray, List.set_cons_zero, List.set_cons_succ]
          refine wpAnyZ_take (i := 4) (oi := { dst := some 86, op := Op.load 3 (Operand.tmp 85), type := 3, pos := "ref.go:93", after := #[{ on := 3, ground := Ground.data }], guard := none }) (v := ?_) [11, 12, 13, 14] rfl (by kernel_rfl) (by kernel_rfl) (by kernel_rfl) (by kernel_rfl) (fun _ _ _ h => h) (Or.inl ⟨by rfl, ?_⟩) (by assumption) ?_
          rotate_left
          · (intro w hSw; (try dsimp only at hSw); go_simp); (first | done | with_reducible rfl)
          try simp only [Act.put, List.setIfInBounds_toArray, List.set_cons_zero, List.set_cons_succ]
          refine wpAnyZ_takeY (i := 5) (oi := { dst := some 87, op := Op.fieldAddr 27 (Operand.tmp 5) 3, type := 0, pos := "ref.go:93", after := #[], guard := none }) (v := ?_) rfl (by kernel_rfl) (by kernel_rfl) (by kernel_rfl) (by rfl) (fun _ _ _ h => h) (Or.inl ⟨by rfl, ?_⟩) (by assumption) ?_
          rotate_left
          · (intro w; go_simp); (first | done | with_reducible rfl)
          try simp only [Act.put, List.setIfInBounds_toArray, List.set_cons_zero, List.set_cons_succ]
          refine wpAnyZ_take (i := 6) (oi := { dst := some 88, op := Op.load 25 (Operand.tmp 87), type := 25, pos := "ref.go:93", after := #[{ on := 5, ground := Ground.data }], guard := none }) (v := ?_) [8, 9, 10, 11, 12, 13, 14] rfl (by kernel_rfl) (by kernel_rfl) (by kernel_rfl) (by kernel_rfl) (fun _ _ _ h => h) (Or.inl ⟨by rfl, ?_⟩) (by assumption) ?_
          rotate_left
          · (intro w hSw; (try dsimp only at hSw); go_simp); (first | done | with_reducible rfl)
          try simp only [Act.put, List.setIfInBounds_toArray, List.set_cons_zero, List.set_cons_succ]
          refine wpAnyZ_takeY (i := 7) (oi := { dst := some 89, op := Op.move (Operand.tmp 8), type := 3, pos := "ref.go:93", after := #[], guard := none }) (v := ?_) rfl (by kernel_rfl) (by kernel_rfl) (by kernel_rfl) (by rfl) (fun _ _ _ h => h) (Or.inl ⟨by rfl, ?_⟩) (by assumption) ?_
          rotate_left
          · (intro w; go_simp); (first | done | with_reducible rfl)
          try simp only [Act.put, List.setIfInBounds_toArray, List.set_cons_zero, List.set_cons_succ]
          refine wpAnyZ_takeY (i := 8) (oi := { dst := some 90, op := Op.indexAddr 25 (Operand.tmp 88) (Operand.tmp 89), type := 0, pos := "ref.go:93", after := #[{ on := 6, ground := Ground.data }, { on := 7, ground := Ground.data }], guard := none }) (v := ?_) rfl (by kernel_rfl) (by kernel_rfl) (by kernel_rfl) (by rfl) (fun _ _ _ h => h) (Or.inl ⟨by rfl, ?_⟩) (by assumption) ?_
          rotate_left
          · (intro w; go_simp); (first | done | with_reducible rfl)
          try simp only [Act.put, List.setIfInBounds_toArray, List.set_cons_zero, List.set_cons_succ]
          refine wpAnyZ_take (i := 9) (oi := { dst := some 91, op := Op.load 3 (Operand.tmp 90), type := 3, pos := "ref.go:93", after := #[{ on := 8, ground := Ground.data }], guard := none }) (v := ?_) [10, 11, 12, 13, 14] rfl (by kernel_rfl) (by kernel_rfl) (by kernel_rfl) (by kernel_rfl) (fun _ _ _ h => h) (Or.inl ⟨by rfl, ?_⟩) (by assumption) ?_
          rotate_left
          · (intro w hSw; (try dsimp only at hSw); go_simp); (first | done | with_reducible rfl)
          try simp only [Act.put, List.setIfInBounds_toArray, List.set_cons_zero, List.set_cons_succ]
          refine wpAnyZ_takeY (i := 10) (oi := { dst := some 92, op := Op.binOp BinOp.add 3 (Operand.tmp 91) (Operand.const (Value.int IntKind.i64 1)) 3, type := 3, pos := "ref.go:93", after := #[{ on := 9, ground := Ground.data }], guard := none }) (v := ?_) rfl (by kernel_rfl) (by kernel_rfl) (by kernel_rfl) (by rfl) (fun _ _ _ h => h) (Or.inl ⟨by rfl, ?_⟩) (by assumption) ?_
          rotate_left
          · (intro w; go_simp); (first | done | with_reducible rfl)
          try simp only [Act.put, List.setIfInBounds_toArray, List.set_cons_zero, List.set_cons_succ]
          refine wpAnyZ_takeY (i := 11) (oi := { dst := some 93, op := Op.call { callee := Callee.builtin Builtin.max, args := #[Operand.tmp 86, Operand.tmp 92], argTypes := #[3, 3] }, type := 3, pos := "ref.go:93", after := #[{ on := 4, ground := Ground.data }, { on := 10, ground := Ground.data }], guard := none }) (v := ?_) rfl (by kernel_rfl) (by kernel_rfl) (by kernel_rfl) (by rfl) (fun _ _ _ h => h) (Or.inl ⟨by rfl, ?_⟩) (by assumption) ?_
          rotate_left
          · (intro w; go_simp); (first | done | with_reducible rfl)
          try simp only [Act.put, List.setIfInBounds_toArray, List.set_cons_zero, List.set_cons_succ]
          refine wpAnyZ_takeY (i := 12) (oi := { dst := some 94, op := Op.nilCheck (Operand.tmp 82), type := 0, pos := "ref.go:93", after := #[{ on := 0, ground := Ground.data }, { on := 0, ground := Ground.phase }, { on := 1, ground := Ground.phase }, { on := 2, ground := Ground.phase }, { on := 3, ground := Ground.phase }, { on := 4, ground := Ground.phase }, { on := 5, ground := Ground.phase }, { on := 6, ground := Ground.phase }, { on := 7, ground := Ground.phase }, { on := 8, ground := Ground.phase }, { on := 9, ground := Ground.phase }, { on := 10, ground := Ground.phase }, { on := 11, ground := Ground.phase }], guard := none }) (v := ?_) rfl (by kernel_rfl) (by kernel_rfl) (by kernel_rfl) (by rfl) (fun _ _ _ h => h) (Or.inl ⟨by rfl, ?_⟩) (by assumption) ?_
          rotate_left
          · (intro w; go_simp); (first | done | with_reducible rfl)
          try simp only [Act.put, List.setIfInBounds_toArray, List.set_cons_zero, List.set_cons_succ]
          refine wpAnyZ_takeY (i := 13) (oi := { dst := some 95, op := Op.fieldAddr 24 (Operand.tmp 94) 2, type := 0, pos := "ref.go:93", after := #[{ on := 12, ground := Ground.data }, { on := 0, ground := Ground.phase }, { on := 1, ground := Ground.phase }, { on := 2, ground := Ground.phase }, { on := 3, ground := Ground.phase }, { on := 4, ground := Ground.phase }, { on := 5, ground := Ground.phase }, { on := 6, ground := Ground.phase }, { on := 7, ground := Ground.phase }, { on := 8, ground := Ground.phase }, { on := 9, ground := Ground.phase }, { on := 10, ground := Ground.phase }, { on := 11, ground := Ground.phase }], guard := none }) (v := ?_) rfl (by kernel_rfl) (by kernel_rfl) (by kernel_rfl) (by rfl) (fun _ _ _ h => h) (Or.inl ⟨by rfl, ?_⟩) (by assumption) ?_
          rotate_left
          · (intro w; go_simp); (first | done | with_reducible rfl)
          try simp only [Act.put, List.setIfInBounds_toArray, List.set_cons_zero, List.set_cons_succ]
          refine wpAnyZ_ready (rs := [14]) (by kernel_rfl) (by simp) ?_
          refine AllReadyZ.last (o := { dst := none, op := Op.store 3 (Operand.tmp 95) (Operand.tmp 93), type := 0, pos := "ref.go:93", after := #[{ on := 13, ground := Ground.data }, { on := 11, ground := Ground.data }, { on := 0, ground := Ground.phase }, { on := 1, ground := Ground.phase }, { on := 2, ground := Ground.phase }, { on := 3, ground := Ground.phase }, { on := 4, ground := Ground.phase }, { on := 5, ground := Ground.phase }, { on := 6, ground := Ground.phase }, { on := 7, ground := Ground.phase }, { on := 8, ground := Ground.phase }, { on := 9, ground := Ground.phase }, { on := 10, ground := Ground.phase }, { on := 11, ground := Ground.phase }], guard := none }) rfl (fun K hK => ?_) AllReadyZ.nil
          have f9 := HS2.out.ah.bx.free 2
          have m9 := HS2.out.ah.bx.cell 2
          go_simp
          refine hK.out _ _ ?_
          clear hK K
          refine wpAny_done (by kernel_rfl) ?_ _
          have HS3 := Lib.hid (HS2.out.put (max n' (IntKind.i64.wrap (x + 1))))
          clear HS2 HSS hHeld f9 m9
          generalize wd.setCell ⟨b, 2, none⟩ (.int .i64 (max n' (IntKind.i64.wrap (x + 1)))) = w3 at *
          go_wp2_with fail
          go_roundw
          case rel => exact ⟨j + 1, _, by have := HLT.out; omega, by go_num, HS1, Lib.hid (show max n' (IntKind.i64.wrap (x + 1)) = fmax next (fs.take (j + 1)) from by rw [HTK.out, fmax_snoc, HN.out]), HS3⟩
          case measure => have := HLT.out; simp [intOf]; omega
      · have d1 : decide (x < next) = false := decide_eq_false h1
        have HS1 := Lib.hid (show SwapOk next sl (fs.take (j + 1)) from fun z hz => by
          rw [HTK.out, List.mem_append, List.mem_singleton] at hz
          rcases hz with hz | rfl
          · exact HSO.out z hz
          · exact .inl (by omega))
        clear HSO
        go_wp2_with fail
        go_quiet (fail)
        have HS2 := Lib.hid (HSr.out.below (below_drewN (Below.refl wr.heap.size wr) nq))
        clear HSr e3 x0 s2
        generalize wr.drewN nq = w2 at *
        go_wp2_with fail
        replace HS2 := Lib.hid (HS2.out.below (Below.refl _ w2).drew)
        refine wp_region_Z (S := fun V => V.cell? ⟨b, 2, none⟩ = some (.int .i64 n') ∧ V.cell? ⟨G + 1, 3, none⟩ = some (.slice (some ⟨gf, of_, none⟩) fs.length fk) ∧ V.cell? ⟨gf, of_ + j, none⟩ = some (.int .i64 x)) 14 (by kernel_rfl) ?_ (fun hHeld => ?_)
        · exact ⟨HS2.out.ah.bx.cell 2, HS2.out.eb.cell 3, HX.out _ HS2.out.ah.cl.bel⟩
        obtain ⟨wd, hwd⟩ : ∃ x, x = World.drew w2 := ⟨_, rfl⟩
        rw [← hwd] at HS2 hHeld ⊢
        clear hwd
        have HSS := Lib.hid (show wd.cell? ⟨b, 2, none⟩ = some (.int .i64 n') ∧ wd.cell? ⟨G + 1, 3, none⟩ = some (.slice (some ⟨gf, of_, none⟩) fs.length fk) ∧ wd.cell? ⟨gf, of_ + j, none⟩ = some (.int .i64 x) from ⟨HS2.out.ah.bx.cell 2, HS2.out.eb.cell 3, HX.out _ HS2.out.ah.cl.bel⟩)
        refine wpAnyZ_takeY (i := 0) (oi := { dst := some 82, op := Op.move (Operand.tmp 0), type := 59, pos := "ref.go:93", after := #[], guard := none }) (v := ?_) rfl (by kernel_rfl) (by kernel_rfl) (by kernel_rfl) (by rfl) (fun _ _ _ h => h) (Or.inl ⟨by rfl, ?_⟩) (by assumption) ?_
        rotate_left
        · (intro w; go_simp); (first | done | with_reducible rfl)
        try simp only [Act.put, List.setIfInBounds_toArray, List.set_cons_zero, List.set_cons_succ]
        refine wpAnyZ_takeY (i := 1) (oi := { dst := some 83, op := Op.move (Operand.tmp 0), type := 59, pos := "ref.go:93", after := #[], guard := none }) (v := ?_) rfl (by kernel_rfl) (by kernel_rfl) (by kernel_rfl) (by rfl) (fun _ _ _ h => h) (Or.inl ⟨by rfl, ?_⟩) (by assumption) ?_
        rotate_left
        · (intro w; go_simp); (first | done | with_reducible rfl)
        try simp only [Act.put, List.setIfInBounds_toArray, List.set_cons_zero, List.set_cons_succ]
        refine wpAnyZ_takeY (i := 2) (oi := { dst := some 84, op := Op.nilCheck (Operand.tmp 83), type := 0, pos := "ref.go:93", after := #[{ on := 1, ground := Ground.data }], guard := none }) (v := ?_) rfl (by kernel_rfl) (by kernel_rfl) (by kernel_rfl) (by rfl) (fun _ _ _ h => h) (Or.inl ⟨by rfl, ?_⟩) (by assumption) ?_
        rotate_left
        · (intro w; go_simp); (first | done | with_reducible rfl)
        try simp only [Act.put, List.setIfInBounds_toArray, List.set_cons_zero, List.set_cons_succ]
        refine wpAnyZ_takeY (i := 3) (oi := { dst := some 85, op := Op.fieldAddr 24 (Operand.tmp 84) 2, type := 0, pos := "ref.go:93", after := #[{ on := 2, ground := Ground.data }], guard := none }) (v := ?_) rfl (by kernel_rfl) (by kernel_rfl) (by kernel_rfl) (by rfl) (fun _ _ _ h => h) (Or.inl ⟨by rfl, ?_⟩) (by assumption) ?_
        rotate_left
        · (intro w; go_simp); (first | done | with_reducible rfl)
        try simp only [Act.put, List.setIfInBounds_toArray, List.set_cons_zero, List.set_cons_succ]
        refine wpAnyZ_take (i := 4) (oi := { dst := some 86, op := Op.load 3 (Operand.tmp 85), type := 3, pos := "ref.go:93", after := #[{ on := 3, ground := Ground.data }], guard := none }) (v := ?_) [11, 12, 13, 14] rfl (by kernel_rfl) (by kernel_rfl) (by kernel_rfl) (by kernel_rfl) (fun _ _ _ h => h) (Or.inl ⟨by rfl, ?_⟩) (by assumption) ?_
        rotate_left
        · (intro w hSw; (try dsimp only at hSw); go_simp); (first | done | with_reducible rfl)
        try simp only [Act.put, List.setIfInBounds_toArray, List.set_cons_zero, List.set_cons_succ]
        refine wpAnyZ_takeY (i := 5) (oi := { dst := some 87, op := Op.fieldAddr 27 (Operand.tmp 5) 3, type := 0, pos := "ref.go:93", after := #[], guard := none }) (v := ?_) rfl (by kernel_rfl) (by kernel_rfl) (by kernel_rfl) (by rfl) (fun _ _ _ h => h) (Or.inl ⟨by rfl, ?_⟩) (by assumption) ?_
        rotate_left
        · (intro w; go_simp); (first | done | with_reducible rfl)
        try simp only [Act.put, List.setIfInBounds_toArray, List.set_cons_zero, List.set_cons_succ]
        refine wpAnyZ_take (i := 6) (oi := { dst := some 88, op := Op.load 25 (Operand.tmp 87), type := 25, pos := "ref.go:93", after := #[{ on := 5, ground := Ground.data }], guard := none }) (v := ?_) [8, 9, 10, 11, 12, 13, 14] rfl (by kernel_rfl) (by kernel_rfl) (by kernel_rfl) (by kernel_rfl) (fun _ _ _ h => h) (Or.inl ⟨by rfl, ?_⟩) (by assumption) ?_
        rotate_left
        · (intro w hSw; (try dsimp only at hSw); go_simp); (first | done | with_reducible rfl)
        try simp only [Act.put, List.setIfInBounds_toArray, List.set_cons_zero, List.set_cons_succ]
        refine wpAnyZ_takeY (i := 7) (oi := { dst := some 89, op := Op.move (Operand.tmp 8), type := 3, pos := "ref.go:93", after := #[], guard := none }) (v := ?_) rfl (by kernel_rfl) (by kernel_rfl) (by kernel_rfl) (by rfl) (fun _ _ _ h => h) (Or.inl ⟨by rfl, ?_⟩) (by assumption) ?_
        rotate_left
        · (intro w; go_simp); (first | done | with_reducible rfl)
        try simp only [Act.put, List.setIfInBounds_toArray, List.set_cons_zero, List.set_cons_succ]
        refine wpAnyZ_takeY (i := 8) (oi := { dst := some 90, op := Op.indexAddr 25 (Operand.tmp 88) (Operand.tmp 89), type := 0, pos := "ref.go:93", after := #[{ on := 6, ground := Ground.data }, { on := 7, ground := Ground.data }], guard := none }) (v := ?_) rfl (by kernel_rfl) (by kernel_rfl) (by kernel_rfl) (by rfl) (fun _ _ _ h => h) (Or.inl ⟨by rfl, ?_⟩) (by assumption) ?_
        rotate_left
        · (intro w; go_simp); (first | done | with_reducible rfl)
        try simp only [Act.put, List.setIfInBounds_toArray, List.set_cons_zero, List.set_cons_succ]
        refine wpAnyZ_take (i := 9) (oi := { dst := some 91, op := Op.load 3 (Operand.tmp 90), type := 3, pos := "ref.go:93", after := #[{ on := 8, ground := Ground.data }], guard := none }) (v := ?_) [10, 11, 12, 13, 14] rfl (by kernel_rfl) (by kernel_rfl) (by kernel_rfl) (by kernel_rfl) (fun _ _ _ h => h) (Or.inl ⟨by rfl, ?_⟩) (by assumption) ?_
        rotate_left
        · (intro w hSw; (try dsimp only at hSw); go_simp); (first | done | with_reducible rfl)
        try simp only [Act.put, List.setIfInBounds_toArray, List.set_cons_zero, List.set_cons_succ]
        refine wpAnyZ_takeY (i := 10) (oi := { dst := some 92, op := Op.binOp BinOp.add 3 (Operand.tmp 91) (Operand.const (Value.int IntKind.i64 1)) 3, type := 3, pos := "ref.go:93", after := #[{ on := 9, ground := Ground.data }], guard := none }) (v := ?_) rfl (by kernel_rfl) (by kernel_rfl) (by kernel_rfl) (by rfl) (fun _ _ _ h => h) (Or.inl ⟨by rfl, ?_⟩) (by assumption) ?_
        rotate_left
        · (intro w; go_simp); (first | done | with_reducible rfl)
        try simp only [Act.put, List.setIfInBounds_toArray, List.set_cons_zero, List.set_cons_succ]
        refine wpAnyZ_takeY (i := 11) (oi := { dst := some 93, op := Op.call { callee := Callee.builtin Builtin.max, args := #[Operand.tmp 86, Operand.tmp 92], argTypes := #[3, 3] }, type := 3, pos := "ref.go:93", after := #[{ on := 4, ground := Ground.data }, { on := 10, ground := Ground.data }], guard := none }) (v := ?_) rfl (by kernel_rfl) (by kernel_rfl) (by kernel_rfl) (by rfl) (fun _ _ _ h => h) (Or.inl ⟨by rfl, ?_⟩) (by assumption) ?_
        rotate_left
        · (intro w; go_simp); (first | done | with_reducible rfl)
        try simp only [Act.put, List.setIfInBounds_toArray, List.set_cons_zero, List.set_cons_succ]
        refine wpAnyZ_takeY (i := 12) (oi := { dst := some 94, op := Op.nilCheck (Operand.tmp 82), type := 0, pos := "ref.go:93", after := #[{ on := 0, ground := Ground.data }, { on := 0, ground := Ground.phase }, { on := 1, ground := Ground.phase }, { on := 2, ground := Ground.phase }, { on := 3, ground := Ground.phase }, { on := 4, ground := Ground.phase }, { on := 5, ground := Ground.phase }, { on := 6, ground := Ground.phase }, { on := 7, ground := Ground.phase }, { on := 8, ground := Ground.phase }, { on := 9, ground := Ground.phase }, { on := 10, ground := Ground.phase }, { on := 11, ground := Ground.phase }], guard := none }) (v := ?_) rfl (by kernel_rfl) (by kernel_rfl) (by kernel_rfl) (by rfl) (fun _ _ _ h => h) (Or.inl ⟨by rfl, ?_⟩) (by assumption) ?_
        rotate_left
        · (intro w; go_simp); (first | done | with_reducible rfl)
        try simp only [Act.put, List.setIfInBounds_toArray, List.set_cons_zero, List.set_cons_succ]
        refine wpAnyZ_takeY (i := 13) (oi := { dst := some 95, op := Op.fieldAddr 24 (Operand.tmp 94) 2, type := 0, pos := "ref.go:93", after := #[{ on := 12, ground := Ground.data }, { on := 0, ground := Ground.phase }, { on := 1, ground := Ground.phase }, { on := 2, ground := Ground.phase }, { on := 3, ground := Ground.phase }, { on := 4, ground := Ground.phase }, { on := 5, ground := Ground.phase }, { on := 6, ground := Ground.phase }, { on := 7, ground := Ground.phase }, { on := 8, ground := Ground.phase }, { on := 9, ground := Ground.phase }, { on := 10, ground := Ground.phase }, { on := 11, ground := Ground.phase }], guard := none }) (v := ?_) rfl (by kernel_rfl) (by kernel_rfl) (by kernel_rfl) (by rfl) (fun _ _ _ h => h) (Or.inl ⟨by rfl, ?_⟩) (by assumption) ?_
        rotate_left
        · (intro w; go_simp); (first | done | with_reducible rfl)
        try simp only [Act.put, List.setIfInBounds_toArray, List.set_cons_zero, List.set_cons_succ]
        refine wpAnyZ_ready (rs := [14]) (by kernel_rfl) (by simp) ?_
        refine AllReadyZ.last (o := { dst := none, op := Op.store 3 (Operand.tmp 95) (Operand.tmp 93), type := 0, pos := "ref.go:93", after := #[{ on := 13, ground := Ground.data }, { on := 11, ground := Ground.data }, { on := 0, ground := Ground.phase }, { on := 1, ground := Ground.phase }, { on := 2, ground := Ground.phase }, { on := 3, ground := Ground.phase }, { on := 4, ground := Ground.phase }, { on := 5, ground := Ground.phase }, { on := 6, ground := Ground.phase }, { on := 7, ground := Ground.phase }, { on := 8, ground := Ground.phase }, { on := 9, ground := Ground.phase }, { on := 10, ground := Ground.phase }, { on := 11, ground := Ground.phase }], guard := none }) rfl (fun K hK => ?_) AllReadyZ.nil
        have f9 := HS2.out.ah.bx.free 2
        have m9 := HS2.out.ah.bx.cell 2
        go_simp
        refine hK.out _ _ ?_
        clear hK K
        refine wpAny_done (by kernel_rfl) ?_ _
        have HS3 := Lib.hid (HS2.out.put (max n' (IntKind.i64.wrap (x + 1))))
        clear HS2 HSS hHeld f9 m9
        generalize wd.setCell ⟨b, 2, none⟩ (.int .i64 (max n' (IntKind.i64.wrap (x + 1)))) = w3 at *
        go_wp2_with fail
        go_roundw
        case rel => exact ⟨j + 1, _, by have := HLT.out; omega, by go_num, HS1, Lib.hid (show max n' (IntKind.i64.wrap (x + 1)) = fmax next (fs.take (j + 1)) from by rw [HTK.out, fmax_snoc, HN.out]), HS3⟩
        case measure => have := HLT.out; simp [intOf]; omega
    · obtain rfl : j = fs.length := by omega
      rw [List.take_length] at HSO HN
      obtain ⟨i0, zz, hi0, hz0, h01, h02, h03⟩ := infoN_parts
      have d0 : decide ((fs.length : Int) < (fs.length : Int)) = false := by simp
      have d1 : decide (fs.length < fs.length) = false := by simp
      go_wp2_with fail
      clear d0 d1 e3
      have HS := Lib.hid (HSr.out.below (Below.refl _ wr).drew)
      refine wp_region_Z (S := fun V => V.cell? ⟨b, 0, none⟩ = some (.slice (some ⟨g, 0, none⟩) Rs.length c) ∧ V.cell? ⟨G + 1, 1, none⟩ = some (.int .i64 k) ∧ V.cell? ⟨G + 1, 3, none⟩ = some (.slice fo fs.length fk)) 11 (by kernel_rfl) ?_ (fun hHeld => ?_)
      · exact ⟨HS.out.ah.bx.cell 0, HS.out.eb.cell 1, HS.out.eb.cell 3⟩
      obtain ⟨wd, hwd⟩ : ∃ x, x = World.drew wr := ⟨_, rfl⟩
      rw [← hwd] at HS hHeld ⊢
      clear hwd HSr
      have HSS := Lib.hid (show wd.cell? ⟨b, 0, none⟩ = some (.slice (some ⟨g, 0, none⟩) Rs.length c) ∧ wd.cell? ⟨G + 1, 1, none⟩ = some (.int .i64 k) ∧ wd.cell? ⟨G + 1, 3, none⟩ = some (.slice fo fs.length fk) from ⟨HS.out.ah.bx.cell 0, HS.out.eb.cell 1, HS.out.eb.cell 3⟩)
      refine wpAnyZ_takeY (i := 0) (oi := { dst := some 96, op := Op.move (Operand.tmp 0), type := 59, pos := "ref.go:95", after := #[], guard := none }) (v := ?_) rfl (by kernel_rfl) (by kernel_rfl) (by kernel_rfl) (by rfl) (fun _ _ _ h => h) (Or.inl ⟨by rfl, ?_⟩) (by assumption) ?_
      rotate_left
      · (intro w; go_simp); (first | done | with_reducible rfl)
      try simp only [Act.put, List.setIfInBounds_toArray, List.set_cons_zero, List.set_cons_succ]
      refine wpAnyZ_takeY (i := 1) (oi := { dst := some 97, op := Op.nilCheck (Operand.tmp 96), type := 0, pos := "ref.go:95", after := #[{ on := 0, ground := Ground.data }], guard := none }) (v := ?_) rfl (by kernel_rfl) (by kernel_rfl) (by kernel_rfl) (by rfl) (fun _ _ _ h => h) (Or.inl ⟨by rfl, ?_⟩) (by assumption) ?_
      rotate_left
      · (intro w; go_simp); (first | done | with_reducible rfl)
      try simp only [Act.put, List.setIfInBounds_toArray, List.set_cons_zero, List.set_cons_succ]
      refine wpAnyZ_takeY (i := 2) (oi := { dst := some 98, op := Op.fieldAddr 24 (Operand.tmp 97) 0, type := 0, pos := "ref.go:95", after := #[{ on := 1, ground := Ground.data }], guard := none }) (v := ?_) rfl (by kernel_rfl) (by kernel_rfl) (by kernel_rfl) (by rfl) (fun _ _ _ h => h) (Or.inl ⟨by rfl, ?_⟩) (by assumption) ?_
      rotate_left
      · (intro w; go_simp); (first | done | with_reducible rfl)
      try simp only [Act.put, List.setIfInBounds_toArray, List.set_cons_zero, List.set_cons_succ]
      refine wpAnyZ_take (i := 3) (oi := { dst := some 99, op := Op.load 22 (Operand.tmp 98), type := 22, pos := "ref.go:95", after := #[{ on := 2, ground := Ground.data }], guard := none }) (v := ?_) [9, 10, 11] rfl (by kernel_rfl) (by kernel_rfl) (by kernel_rfl) (by kernel_rfl) (fun _ _ _ h => h) (Or.inl ⟨by rfl, ?_⟩) (by assumption) ?_
      rotate_left
      · (intro w hSw; (try dsimp only at hSw); go_simp); (first | done | with_reducible rfl)
      try simp only [Act.put, List.setIfInBounds_toArray, List.set_cons_zero, List.set_cons_succ]
      refine wpAnyZ_takeY (i := 4) (oi := { dst := some 100, op := Op.fieldAddr 27 (Operand.tmp 5) 1, type := 0, pos := "ref.go:95", after := #[], guard := none }) (v := ?_) rfl (by kernel_rfl) (by kernel_rfl) (by kernel_rfl) (by rfl) (fun _ _ _ h => h) (Or.inl ⟨by rfl, ?_⟩) (by assumption) ?_
      rotate_left
      · (intro w; go_simp); (first | done | with_reducible rfl)
      try simp only [Act.put, List.setIfInBounds_toArray, List.set_cons_zero, List.set_cons_succ]
      refine wpAnyZ_take (i := 5) (oi := { dst := some 101, op := Op.load 3 (Operand.tmp 100), type := 3, pos := "ref.go:95", after := #[{ on := 4, ground := Ground.data }], guard := none }) (v := ?_) [9, 10, 11] rfl (by kernel_rfl) (by kernel_rfl) (by kernel_rfl) (by kernel_rfl) (fun _ _ _ h => h) (Or.inl ⟨by rfl, ?_⟩) (by assumption) ?_
      rotate_left
      · (intro w hSw; (try dsimp only at hSw); go_simp); (first | done | with_reducible rfl)
      try simp only [Act.put, List.setIfInBounds_toArray, List.set_cons_zero, List.set_cons_succ]
      refine wpAnyZ_takeY (i := 6) (oi := { dst := some 102, op := Op.fieldAddr 27 (Operand.tmp 5) 3, type := 0, pos := "ref.go:95", after := #[], guard := none }) (v := ?_) rfl (by kernel_rfl) (by kernel_rfl) (by kernel_rfl) (by rfl) (fun _ _ _ h => h) (Or.inl ⟨by rfl, ?_⟩) (by assumption) ?_
      rotate_left
      · (intro w; go_simp); (first | done | with_reducible rfl)
      try simp only [Act.put, List.setIfInBounds_toArray, List.set_cons_zero, List.set_cons_succ]
      refine wpAnyZ_take (i := 7) (oi := { dst := some 103, op := Op.load 25 (Operand.tmp 102), type := 25, pos := "ref.go:95", after := #[{ on := 6, ground := Ground.data }], guard := none }) (v := ?_) [8, 9, 10, 11] rfl (by kernel_rfl) (by kernel_rfl) (by kernel_rfl) (by kernel_rfl) (fun _ _ _ h => h) (Or.inl ⟨by rfl, ?_⟩) (by assumption) ?_
      rotate_left
      · (intro w hSw; (try dsimp only at hSw); go_simp); (first | done | with_reducible rfl)
      try simp only [Act.put, List.setIfInBounds_toArray, List.set_cons_zero, List.set_cons_succ]
      refine wpAnyZ_ready (rs := [8]) (by kernel_rfl) (by simp) ?_
      refine AllReadyZ.cons (o := { dst := some 104, op := Op.call { callee := Callee.builtin Builtin.append, args := #[Operand.const (Value.slice none 0 0), Operand.tmp 103], argTypes := #[25, 25] }, type := 25, pos := "ref.go:95", after := #[{ on := 7, ground := Ground.data }], guard := none }) rfl (by rfl) (fun K hK => ?_) (AllReadyZ.nil)
      refine step_append_nums16 (by rfl) _ _ 25 (by rfl) wd.heap.size i0 zz Try.underlying25 hi0 hz0 h01 h02 h03 (.slice none 0 0) 0 [] (by rfl) (World.ownsRow_nil _ _ _ _) fo fk fs.length fs (by rfl) rfl (HQ.out.ns.below HS.out.ah.cl.bel) (by omega) (Nat.le_refl _) ?_
      intro v5 w5 ho5 hg5
      rw [Nat.zero_add, List.nil_append] at ho5
      obtain ⟨a5, c5, rfl⟩ := own_shape16 ho5
      have hb5 := (Below.refl wd.heap.size wd).grown hg5 (Nat.le_refl _) (fun q hq => by cases hq)
      have HO := Lib.hid (HS.out.ah.own.store (k := k) (by rw [HLEN.out]; exact hk) hb5 ho5)
      replace HS := Lib.hid (HS.out.below hb5)
      clear ho5 hg5 hb5
      replace HSS := Lib.hid (show w5.cell? ⟨b, 0, none⟩ = some (.slice (some ⟨g, 0, none⟩) Rs.length c) ∧ w5.cell? ⟨G + 1, 1, none⟩ = some (.int .i64 k) ∧ w5.cell? ⟨G + 1, 3, none⟩ = some (.slice fo fs.length fk) from ⟨HS.out.ah.bx.cell 0, HS.out.eb.cell 1, HS.out.eb.cell 3⟩)
      refine hK.out _ _ ?_ (fun hHeld => ?_)
      · exact HSS.out
      clear hK K
      try simp only [Act.put, List.setIfInBounds_toArray, List.set_cons_zero, List.set_cons_succ]
      refine wpAnyZ_takeY (i := 9) (oi := { dst := some 105, op := Op.indexAddr 22 (Operand.tmp 99) (Operand.tmp 101), type := 0, pos := "ref.go:95", after := #[{ on := 3, ground := Ground.data }, { on := 5, ground := Ground.data }, { on := 0, ground := Ground.phase }, { on := 1, ground := Ground.phase }, { on := 2, ground := Ground.phase }, { on := 3, ground := Ground.phase }, { on := 4, ground := Ground.phase }, { on := 5, ground := Ground.phase }, { on := 6, ground := Ground.phase }, { on := 7, ground := Ground.phase }, { on := 8, ground := Ground.phase }], guard := none }) (v := ?_) rfl (by kernel_rfl) (by kernel_rfl) (by kernel_rfl) (by rfl) (fun _ _ _ h => h) (Or.inl ⟨by rfl, ?_⟩) (by assumption) ?_
      rotate_left
      · (intro w; go_simp); (first | done | with_reducible rfl)
      try simp only [Act.put, List.setIfInBounds_toArray, List.set_cons_zero, List.set_cons_succ]
      refine wpAnyZ_takeY (i := 10) (oi := { dst := some 106, op := Op.fieldAddr 41 (Operand.tmp 105) 1, type := 0, pos := "ref.go:95", after := #[{ on := 9, ground := Ground.data }, { on := 0, ground := Ground.phase }, { on := 1, ground := Ground.phase }, { on := 2, ground := Ground.phase }, { on := 3, ground := Ground.phase }, { on := 4, ground := Ground.phase }, { on := 5, ground := Ground.phase }, { on := 6, ground := Ground.phase }, { on := 7, ground := Ground.phase }, { on := 8, ground := Ground.phase }], guard := none }) (v := ?_) rfl (by kernel_rfl) (by kernel_rfl) (by kernel_rfl) (by rfl) (fun _ _ _ h => h) (Or.inl ⟨by rfl, ?_⟩) (by assumption) ?_
      rotate_left
      · (intro w; go_simp); (first | done | with_reducible rfl)
      try simp only [Act.put, List.setIfInBounds_toArray, List.set_cons_zero, List.set_cons_succ]
      refine wpAnyZ_ready (rs := [11]) (by kernel_rfl) (by simp) ?_
      refine AllReadyZ.last (o := { dst := none, op := Op.store 25 (Operand.tmp 106) (Operand.tmp 104), type := 0, pos := "ref.go:95", after := #[{ on := 10, ground := Ground.data }, { on := 8, ground := Ground.data }, { on := 8, ground := Ground.chain }, { on := 0, ground := Ground.phase }, { on := 1, ground := Ground.phase }, { on := 2, ground := Ground.phase }, { on := 3, ground := Ground.phase }, { on := 4, ground := Ground.phase }, { on := 5, ground := Ground.phase }, { on := 6, ground := Ground.phase }, { on := 7, ground := Ground.phase }, { on := 8, ground := Ground.phase }], guard := none }) rfl (fun K hK => ?_) AllReadyZ.nil
      have f9 := HS.out.ah.own.row.frozenAt (k * 2 + 1)
      have m9 := HS.out.ah.cells hk
      go_simp
      refine hK.out _ _ ?_
      clear hK K
      refine wpAny_done (by kernel_rfl) ?_ _
      have HM := Lib.hid (show MgI w0 w b g c Rs.length (Rk.set k ⟨(Rk.getD k rt0).f, fs, a5, c5⟩) log n' (w5.setCell ⟨g, k * 2 + 1, none⟩ (.slice a5 fs.length c5)) from ⟨HO.out, HS.out.ah.bx.other HS.out.ah.ne _ _, HS.out.ah.ne, HS.out.ah.b0, HS.out.kp.cellT HS.out.ah.cl.row _ _⟩)
      clear HO HS HSS hHeld f9 m9
      generalize w5.setCell ⟨g, k * 2 + 1, none⟩ (.slice a5 fs.length c5) = w6 at *
      go_wp2_with fail
      go_ret
      have HE2 := Lib.hid (HED.out.trans ((if_neg (by decide)).trans ((if_pos (by trivial)).trans (if_pos (show ∀ n ∈ fs, next ≤ n ∨ n ∈ (Rk.getD k rt0).l from by rw [HSA.out.2]; exact HSO.out)))))
      have h6 := HM.out.ed (by rw [List.length_set, HLEN.out])
      rw [tbs_set] at h6
      refine .inr ⟨_, _, HE2.out, rfl, h6, ?_⟩
      rw [HN.out]
      exact swap_fold (T := tbs Rk) (k := k) (by rw [tbs_length, HLEN.out]; exact hk)

end Go.Proofs.Ytfcmjgcjmldpcaa
