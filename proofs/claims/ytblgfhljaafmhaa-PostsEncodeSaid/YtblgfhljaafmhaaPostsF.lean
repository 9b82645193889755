/- Layer 12: slices of spans; a batch's bytes, the program's and the document's, each by a contract. -/
import Derived.Test.YtblgfhljaafmhaaPostsE
namespace Go.Proofs.Ytblgfhljaafmhaa
set_option linter.unusedVariables false
open Go Go.RowKit
attribute [local go_sem ↓] run_index_S
attribute [local go_sem] S_append S_extract

/-- A span's cells at a place of a block. -/
def SpOff (x : M.Sp) (w : World) (g o : Nat) : Prop :=
  w.cell? ⟨g, o, none⟩ = some (.int .i64 x.trace) ∧ w.cell? ⟨g, o + 1, none⟩ = some (.int .i64 x.id) ∧ w.cell? ⟨g, o + 2, none⟩ = some (.int .i64 x.parent) ∧ w.cell? ⟨g, o + 3, none⟩ = some (.string (S x.svc)) ∧
  w.cell? ⟨g, o + 4, none⟩ = some (.string (S x.host)) ∧ w.cell? ⟨g, o + 5, none⟩ = some (.int .i64 x.start) ∧ w.cell? ⟨g, o + 6, none⟩ = some (.int .i64 x.dur) ∧ w.cell? ⟨g, o + 7, none⟩ = some (.string (S x.note))
theorem SpOff.below {x : M.Sp} {w w' : World} {g o : Nat} (h : SpOff x w g o) (hb : Below w.heap.size w w') : SpOff x w' g o := by
  have k := fun {a v} (h : w.cell? a = some v) => (hb.cell (p := a) (block_lt_of_cell h)).trans h
  obtain ⟨h0, h1, h2, h3, h4, h5, h6, h7⟩ := h
  exact ⟨k h0, k h1, k h2, k h3, k h4, k h5, k h6, k h7⟩
/-- A slice of spans, whose cells are known. -/
def SpsAt (w : World) (ao : Option Addr) (L : List M.Sp) : Prop := L ≠ [] → ∃ g off, ao = some ⟨g, off, none⟩ ∧ ∀ j, j < L.length → SpOff (L.getD j M.sp0) w g (off + j * 8)
theorem SpsAt.below {w w' : World} {ao : Option Addr} {L : List M.Sp} (h : SpsAt w ao L) (hb : Below w.heap.size w w') : SpsAt w' ao L := fun hn => by
  obtain ⟨g, off, e, hc⟩ := h hn
  exact ⟨g, off, e, fun j hj => (hc j hj).below hb⟩
theorem SpsAt.off {w : World} {ao : Option Addr} {L : List M.Sp} (h : SpsAt w ao L) (j : Nat) (hj : j < L.length) : ∃ g off, ao = some ⟨g, off, none⟩ ∧ SpOff (L.getD j M.sp0) w g (off + j * 8) := by
  obtain ⟨g, off, e, hc⟩ := h (fun h => by rw [h] at hj; simp at hj)
  exact ⟨g, off, e, hc j hj⟩

/-- A batch's bytes as far as its first k spans. -/
def M.encK (b : M.Bt) (k : Nat) : List UInt8 := 66 :: (M.encN [b.host.toNat, b.first.toNat, b.sps.length] ++ M.encT ((b.sps.take k).map M.enc))
theorem M.encK_zero (b : M.Bt) : M.encK b 0 = 66 :: (M.putN b.host.toNat ++ M.putN b.first.toNat ++ M.putN b.sps.length) := by simp [M.encK, M.encN, M.encT]
theorem M.encK_step (b : M.Bt) (k : Nat) (h : k < b.sps.length) : M.encK b (k + 1) = M.encK b k ++ (M.putN (M.enc (b.sps.getD k M.sp0)).length ++ M.enc (b.sps.getD k M.sp0)) := by
  unfold M.encK
  rw [List.take_succ_eq_append_getElem h, List.map_append, List.map_cons, List.map_nil, M.encT_snoc]
  simp [M.putT, List.getD, List.getElem?_eq_getElem h]
theorem M.encK_all (b : M.Bt) : M.encK b b.sps.length = M.encB b := by simp [M.encK, M.encB]
theorem M.encK_len (b : M.Bt) (k : Nat) (h : ∀ j, j < k → M.mayB (b.sps.getD j M.sp0) = true) (hk : k ≤ b.sps.length) (h8 : b.sps.length ≤ 8) : (M.encK b k).length ≤ 800 := by
  have h1 := M.encT_max (ts := (b.sps.take k).map M.enc) (fun t ht => by
    obtain ⟨x, hx, rfl⟩ := List.mem_map.1 ht
    obtain ⟨j, hj, rfl⟩ := List.getElem_of_mem hx
    have hj' : j < k := by simp at hj; omega
    have := M.enc_len (h j hj')
    rw [List.getElem_take]
    simpa [List.getD, List.getElem?_eq_getElem (show j < b.sps.length by omega)] using this)
  have h2 := M.encN_len [b.host.toNat, b.first.toNat, b.sps.length]
  rw [List.length_map, List.length_take] at h1
  unfold M.encK
  rw [List.length_cons, List.length_append]
  simp only [List.length_cons, List.length_nil] at h2
  omega
theorem M.all_of {L : List M.Sp} (h : ∀ j, j < L.length → M.mayB (L.getD j M.sp0) = true) : L.all M.mayB = true := by
  rw [List.all_eq_true]
  intro x hx
  obtain ⟨j, hj, rfl⟩ := List.getElem_of_mem hx
  simpa [List.getD, List.getElem?_eq_getElem hj] using h j hj
theorem M.all_not {L : List M.Sp} (j : Nat) (hj : j < L.length) (h : M.mayB (L.getD j M.sp0) = false) : L.all M.mayB = false := by
  rw [List.all_eq_false]
  refine ⟨_, List.getElem_mem hj, ?_⟩
  simpa [List.getD, List.getElem?_eq_getElem hj] using h
theorem M.bOk_of {b : M.Bt} (h : M.bMay b = true) (k : b.sps.all M.mayB = true) : M.bOk b = true := by simp [M.bOk, h, k]
theorem M.bOk_no1 {b : M.Bt} (h : M.bMay b = false) : M.bOk b = false := by simp [M.bOk, h]
theorem M.bOk_no2 {b : M.Bt} (k : b.sps.all M.mayB = false) : M.bOk b = false := by simp [M.bOk, k]

theorem row_sp (w : World) (x : M.Sp) : RowIn #[.int .i64 x.trace, .int .i64 x.id, .int .i64 x.parent, .string (S x.svc), .string (S x.host), .int .i64 x.start, .int .i64 x.dur, .string (S x.note)] 29 ((w.alloc (.cells (spC M.sp0) 29)).setRow w.heap.size (spC x)) w.heap.size := SpIn.row (spIn_new w) x
theorem below_sp (w : World) (x : M.Sp) : Below w.heap.size w ((w.alloc (.cells (spC M.sp0) 29)).setRow w.heap.size (spC x)) := below_setRow ((Below.refl _ _).alloc (Nat.le_refl _) _) (Nat.le_refl _) _
def bV (h f : Int) (ao : Option Addr) (n cap : Nat) : Value := .agg #[.int .i64 h, .int .i64 f, .slice ao n cap]
def encBV (b : M.Bt) : Ending := .returned (.tuple #[.string (S (if M.bOk b then M.encB b else [])), .int .i64 (M.errOf (M.bOk b))])
theorem encBV_yes {b : M.Bt} (h : M.bOk b = true) {l : List UInt8} (e : l = M.encB b) : Ending.returned (.tuple #[.string ⟨l.toArray⟩, .int .i64 0]) = encBV b := by simp [encBV, h, M.errOf, e]
theorem encBV_no {b : M.Bt} (h : M.bOk b = false) : Ending.returned (.tuple #[.string ⟨#[]⟩, .int .i64 2]) = encBV b := by simp [encBV, h, M.errOf]

theorem encBatch_no (h f : Int) (L : List M.Sp) (ao : Option Addr) (cap : Nat) (w : World) (hl : L.length ≤ 140737488351232) (hm : M.bMay ⟨h, f, L⟩ = false) :
    Calls Try.prog 10 #[.agg #[.int .i64 h, .int .i64 f, .slice ao L.length cap]] w fun e w' => e = encBV ⟨h, f, L⟩ ∧ Below w.heap.size w w' := by
  have C0 := Lib.hid (fun W => by have := batchMayBe_any h f L ao cap W hl; rw [hm] at this; exact this)
  have HM := Lib.hid (encBV_no (M.bOk_no1 hm))
  clear hm
  go_enter Try.func10, Try.ntmps10
  go_wp2_with fail
  with_reducible refine (C0.out _).mono ?_
  rintro e w1 ⟨rfl, hb1⟩
  go_wp2_with fail
  go_ret2
  exact ⟨HM.out, below_step ((Below.refl _ _).alloc (Nat.le_refl _) _) hb1⟩

set_option maxHeartbeats 2000000 in
set_option maxRecDepth 100000 in
theorem encBatch_yes (h f : Nat) (L : List M.Sp) (ao : Option Addr) (cap : Nat) (w : World) (hx : ∀ x ∈ L, x.fits) (hs : SpsAt w ao L) (hm : M.bMay ⟨h, f, L⟩ = true) :
    Calls Try.prog 10 #[.agg #[.int .i64 h, .int .i64 f, .slice ao L.length cap]] w fun e w' => e = encBV ⟨h, f, L⟩ ∧ Below w.heap.size w w' := by
  have hb := M.bMay_true.1 hm
  dsimp only at hb
  have C0 := Lib.hid (fun W => by have := batchMayBe_any h f L ao cap W (by omega); rw [hm] at this; exact this)
  have HM := Lib.hid hm
  have HX := Lib.hid hx
  have HS := Lib.hid hs
  have c1 := fun W => put_nat h W (by omega)
  have c2 := fun W => put_nat f W (by omega)
  have c3 := fun W => put_nat L.length W (by omega)
  have p1 := (M.putN_length h).2
  have p2 := (M.putN_length f).2
  have p3 := (M.putN_length L.length).2
  have hz : M.encK ⟨h, f, L⟩ 0 = 66 :: (M.putN h ++ M.putN f ++ M.putN L.length) := M.encK_zero ⟨h, f, L⟩
  have hst := fun k (hk : k < L.length) => M.encK_step ⟨h, f, L⟩ k hk
  have hle := fun k (hj : ∀ j, j < k → M.mayB (L.getD j M.sp0) = true) (hk : k ≤ L.length) => M.encK_len ⟨h, f, L⟩ k hj hk (by dsimp only; omega)
  have hall := M.encK_all ⟨h, f, L⟩
  dsimp only at hst hall
  generalize M.encK ⟨h, f, L⟩ = q at *
  generalize M.putN h = e1 at *
  generalize M.putN f = e2 at *
  generalize M.putN L.length = e3 at *
  have C1 := Lib.hid c1
  have C2 := Lib.hid c2
  have C3 := Lib.hid c3
  have HZ := Lib.hid hz
  have HST := Lib.hid hst
  have HALL := Lib.hid hall
  have HLE := Lib.hid hle
  clear c1 c2 c3 hz hst hall hle hm hx hs
  go_enter Try.func10, Try.ntmps10
  go_wp2_with fail
  with_reducible refine (C0.out _).mono ?_
  rintro e w1 ⟨rfl, hb1⟩
  have HR := Lib.hid ((rowIn_new #[.int .i64 h, .int .i64 f, .slice ao L.length cap] 24 w).below hb1)
  have HB := Lib.hid (below_step ((Below.refl _ _).alloc (Nat.le_refl _) _) hb1)
  clear hb1
  go_wp2_with fail
  have g0 := HR.out.gcell 0 rfl
  have g1 := HR.out.gcell 1 rfl
  have g2 := HR.out.gcell 2 rfl
  refine wp_region_quiet_below (by kernel_rfl) (by kernel_rfl) ?_
  repeat (go_big_quiet_step ((first | (go_at_call 22; with_reducible exact Calls.regrown_of (C1.out _)) | (go_at_call 22; with_reducible exact Calls.regrown_of (C2.out _)) | (go_at_call 22; with_reducible exact Calls.regrown_of (C3.out _)))))
  refine wpQuiet_nil ?_
  intro _ hw1
  obtain ⟨⟨d1, o1⟩, hw1⟩ := hw1
  subst hw1
  have HR2 := Lib.hid (HR.out.grown d1 o1)
  have HB2 := Lib.hid (below_step HB.out (below_regrown _ d1 o1))
  generalize Sort.grow (redrawn w1 d1) o1 = w2 at *
  clear g0 g1 g2
  have g2 := HR2.out.cell 2
  go_wp2_with fail
  clear g2
  go_loopw [4, 28] (fun s i wr => ∃ k : Nat, k ≤ L.length ∧ s = .string ⟨(q k).toArray⟩ ∧ i = .int .i64 k ∧ (∀ j, j < k → M.mayB (L.getD j M.sp0) = true) ∧ Below w.heap.size w wr) (fun _ i _ => L.length - (intOf i).toNat)
  case atStart => exact ⟨0, by omega, by rw [HZ.out]; simp, rfl, fun j hj => by omega, HB2.out⟩
  case round =>
    rename_i wr
    obtain ⟨k, hk, rfl, rfl, hj, hb⟩ := hrel
    have HJ := Lib.hid hj
    have HW := Lib.hid hb
    have hq := HLE.out k hj hk
    clear hj
    by_cases hlt : k < L.length
    · obtain ⟨g, off, rfl, hc⟩ := (HS.out.below hb).off k hlt
      obtain ⟨x0, x1, x2, x3, x4, x5, x6, x7⟩ := hc
      have hf := HX.out (L.getD k M.sp0) (by simp [List.getD, List.getElem?_eq_getElem hlt])
      have HQ := Lib.hid (HST.out k hlt)
      have hsz := hb.size
      clear hb
      cases hmx : M.mayB (L.getD k M.sp0) with
      | false =>
        have HN := Lib.hid (encBV_no (b := ⟨h, f, L⟩) (M.bOk_no2 (M.all_not k hlt hmx)))
        have C4 := Lib.hid (fun W => encode_no (L.getD k M.sp0) hf hmx W)
        clear hf hmx
        generalize L.getD k M.sp0 = x at *
        go_wp2_with (first | (refine wpList_store_row rfl 29 _ _ rfl wr.heap.size _ rfl rfl 29 (spC M.sp0) (spIn_new wr) ?_ rfl (spC_one x) ?_; kernel_rfl) | (refine wpList_load_row rfl 29 _ rfl wr.heap.size rfl 29 _ (0, 0) _ (row_sp wr x) Try.underlying29 rfl ?_ ?_; kernel_rfl))
        with_reducible refine (C4.out _).mono ?_
        rintro e w3 ⟨rfl, hb3⟩
        go_wp2_with fail
        go_ret2
        exact ⟨HN.out, below_step (below_step HW.out (below_sp wr x)) hb3⟩
      | true =>
        have C4 := Lib.hid (fun W => encode_yes (L.getD k M.sp0) hf hmx W)
        have hlx := M.enc_len hmx
        have C5 := Lib.hid (fun W => putText_any (M.enc (L.getD k M.sp0)) W (by omega))
        have hl5 : (M.putN (M.enc (L.getD k M.sp0)).length ++ M.enc (L.getD k M.sp0)).length ≤ 100 := by have := (M.putN_length (M.enc (L.getD k M.sp0)).length).2; simp only [List.length_append]; omega
        have HMX := Lib.hid hmx
        clear hf hmx
        generalize hxe : L.getD k M.sp0 = x at *
        have HXE := Lib.hid hxe
        clear hxe
        generalize M.enc x = ex at *
        generalize M.putN ex.length ++ ex = px at *
        go_wp2_with (first | (refine wpList_store_row rfl 29 _ _ rfl wr.heap.size _ rfl rfl 29 (spC M.sp0) (spIn_new wr) ?_ rfl (spC_one x) ?_; kernel_rfl) | (refine wpList_load_row rfl 29 _ rfl wr.heap.size rfl 29 _ (0, 0) _ (row_sp wr x) Try.underlying29 rfl ?_ ?_; kernel_rfl))
        with_reducible refine (C4.out _).mono ?_
        rintro e w3 ⟨rfl, hb3⟩
        go_wp2_with fail
        with_reducible refine (C5.out _).mono ?_
        rintro e w4 ⟨rfl, hb4⟩
        go_wp2_with fail
        go_roundw
        case rel => exact ⟨k + 1, by omega, by rw [HQ.out], by go_num, fun j hj => by
          by_cases e : j = k
          · rw [e, HXE.out]; exact HMX.out
          · exact HJ.out j (by omega), below_step (below_step (below_step HW.out (below_sp wr x)) hb3) hb4⟩
        case measure => simp [intOf]; omega
    · obtain rfl : k = L.length := by omega
      have d1 : decide ((L.length : Int) < (L.length : Int)) = false := by simp
      have HY := Lib.hid (encBV_yes (b := ⟨h, f, L⟩) (M.bOk_of HM.out (M.all_of HJ.out)) HALL.out)
      go_wp2_with fail
      go_ret2
      exact ⟨HY.out, HW.out⟩


theorem encBatch_any (b : M.Bt) (ao : Option Addr) (cap : Nat) (w : World) (hl : b.sps.length ≤ 140737488351232) (hx : ∀ x ∈ b.sps, x.fits) (hs : SpsAt w ao b.sps) :
    Calls Try.prog 10 #[.agg #[.int .i64 b.host, .int .i64 b.first, .slice ao b.sps.length cap]] w fun e w' => e = encBV b ∧ Below w.heap.size w w' := by
  obtain ⟨h, f, L⟩ := b
  cases hm : M.bMay ⟨h, f, L⟩ with
  | false => exact encBatch_no h f L ao cap w hl hm
  | true =>
    have hb := M.bMay_true.1 hm
    dsimp only at hb
    obtain ⟨h, rfl⟩ := Int.eq_ofNat_of_zero_le (show 0 ≤ h by omega)
    obtain ⟨f, rfl⟩ := Int.eq_ofNat_of_zero_le (show 0 ≤ f by omega)
    exact encBatch_yes h f L ao cap w hx hs hm

end Go.Proofs.Ytblgfhljaafmhaa
