/- Layer 21: RowsOnce, walked. -/
import Derived.Test.YtjlddackpckmfaaRowsS
import Derived.Test.YtjlddackpckmfaaRowsT
import Derived.Test.YtjlddackpckmfaaAppRow
namespace Go.Proofs.Ytjlddackpckmfaa
set_option linter.unusedVariables false
open Go Go.RowKit Go.Maps
attribute [local go_sem ↓] run_index_S
attribute [local go_sem] S_append S_extract

theorem u8_wfP {n : Int} (h : (Lit.int .u8 n).wf = true) : 0 ≤ n ∧ n ≤ 255 := by
  simp [Lit.wf, IntKind.min, IntKind.max, IntKind.signed, IntKind.bits] at h
  omega
/-- A row of bytes that came in. -/
def U8At (w : World) (ao : Option Addr) (C : List Int) : Prop := C ≠ [] → ∃ g off, ao = some ⟨g, off, none⟩ ∧ ∀ j, j < C.length → w.cell? ⟨g, off + j, none⟩ = some (.int .u8 (C.getD j 0))
theorem U8At.below {w w' : World} {ao : Option Addr} {C : List Int} (h : U8At w ao C) (hb : Below w.heap.size w w') : U8At w' ao C := fun hn => by
  obtain ⟨g, off, e, hc⟩ := h hn
  exact ⟨g, off, e, fun j hj => (hb.cell (p := ⟨g, off + j, none⟩) (block_lt_of_cell (hc j hj))).trans (hc j hj)⟩
instance car_u8 {w w' : World} {ao : Option Addr} {C : List Int} : Car w w' (U8At w ao C) (U8At w' ao C) := ⟨fun hb h => h.below hb⟩
def UU8 (W : World) (v : Value) : Prop := ∃ (C : List Int) (ao : Option Addr) (cap : Nat), v = .slice ao C.length cap ∧ C.length ≤ 9223372036854775807 ∧ (∀ x ∈ C, 0 ≤ x ∧ x ≤ 255) ∧ U8At W ao C
section
variable {H : Type} {enc : TypeId × Value → H} {W : World} {fuel : Nat} {cs : List Value} {x : DataW H × List MemPlace} {B : Nat} {sp : Nat → Bool} {hd : Bool} {r : Reach} {b0 : Nat} {v : Value} {d : DataW H} {p : List MemPlace}
set_option maxRecDepth 100000 in
theorem u8s_cellsP (hf : DataW.trod enc Try.prog W 0 sp hd fuel 53 cs = some x) : ∃ (C : List Int) (ao : Option Addr) (cap : Nat), cs = [.slice ao C.length cap] ∧ C.length ≤ 9223372036854775807 ∧ (∀ y ∈ C, 0 ≤ y ∧ y ≤ 255) ∧ U8At W ao C := by
  have c8 : Try.prog.cellsOf 5 = 1 := by kernel_rfl
  rcases Deep.open_slice Try.underlying53 hf with ⟨hcs, _⟩ | ⟨a, len, cap, m, n, D, Pl, hcs, _, hl, hm, hmm, _, hx⟩
  · exact ⟨[], none, 0, hcs, by simp, by simp, fun h => absurd rfl h⟩
  · rw [c8] at hx
    have hlm : len ≤ m := by rw [hmm]; split <;> omega
    unfold maxLen at hm
    obtain ⟨C, hC, hp⟩ := choose_listP (0 : Int) len (p := fun i y => W.cells? 0 (a.add (i * 1)) 1 = some [.int .u8 y] ∧ 0 ≤ y ∧ y ≤ 255) (fun i hi => by
      obtain ⟨cs', h1, h2⟩ := hx i (by omega)
      obtain ⟨y, e, _, w0⟩ := DataW.trod_int Try.underlying5 h2
      exact ⟨y, by rw [h1, e], u8_wfP w0⟩)
    refine ⟨C, some a, cap, by rw [hcs, hC], by omega, fun y hym => ?_, fun hne => ?_⟩
    · obtain ⟨i, hi, rfl⟩ := List.mem_iff_getElem.1 hym
      have := (hp i (by omega)).2
      simpa [List.getD, List.getElem?_eq_getElem hi] using this
    · have h0 : 0 < len := by rw [← hC]; exact List.length_pos_iff.2 hne
      have e := addr_plainP (cells_getP (hp 0 h0).1 0 _ rfl)
      simp only [Nat.zero_mul, show ∀ x : Addr, x.add 0 = x from fun x => if_pos rfl] at e
      refine ⟨a.block, a.off, by rw [← e], fun j hj => ?_⟩
      have hc := cells_getP (hp j (by omega)).1
      rw [e, Addr.add_lit] at hc
      have := hc 0 _ rfl
      rw [show ∀ x : Addr, x.add 0 = x from fun x => if_pos rfl] at this
      simpa using this
set_option maxRecDepth 100000 in
theorem open_u8s (hv : Value.okWide Try.prog W r b0 53 v) (h : DataW.Trod enc Try.prog W 0 (fun _ => true) true 53 v d p) : UU8 W v := by
  obtain ⟨a0, len, cap, rfl⟩ := WideShapes.okWide_slice Try.underlying53 hv
  obtain ⟨fuel, hf⟩ := h
  obtain ⟨C, ao, cap', hcs, h1, h2, h4⟩ := u8s_cellsP hf
  simp [Value.cells] at hcs
  obtain ⟨rfl, rfl, rfl⟩ := hcs
  exact ⟨C, a0, cap, rfl, h1, h2, h4⟩
end
theorem sps_oneR (L : List M.Sp) : ∀ u ∈ sps L, u.oneCell' = true := by
  intro u hu
  obtain ⟨x, _, hx⟩ := List.mem_flatMap.1 hu
  exact spL_one x u hx
theorem apart_of {L : List M.Sp} (h : ∀ i, i < L.length → ∀ k, k < i → M.same (L.getD k M.sp0) (L.getD i M.sp0) = false) : M.apartL L := by
  rw [M.apartL, List.pairwise_iff_getElem]
  intro i j hi hj hij
  have := h j hj i hij
  simpa [List.getD, List.getElem?_eq_getElem hi, List.getElem?_eq_getElem hj] using this

theorem spsAt_piece {w : World} {g off : Nat} {L : List M.Sp} (h : ∀ j, j < L.length → SpOff (L.getD j M.sp0) w g (off + j * 8)) (l m : Nat) : SpsAt w (some ⟨g, off + l * 8, none⟩) ((L.drop l).take m) := fun _ => by
  refine ⟨g, off + l * 8, rfl, fun j hj => ?_⟩
  have hj' : l + j < L.length := by simp at hj; omega
  have := h (l + j) hj'
  have e : ((L.drop l).take m).getD j M.sp0 = L.getD (l + j) M.sp0 := by
    simp only [List.length_take, List.length_drop] at hj
    simp only [List.getD, List.getElem?_take, List.getElem?_drop]
    rw [if_pos (by omega)]
  rw [e, show off + l * 8 + j * 8 = off + (l + j) * 8 from by omega]
  exact this
theorem good_cells {n : Int} {T : List M.Sp} (hT : ∀ y ∈ T, y.fits ∧ M.goodB n y = true) : ∀ c ∈ T.flatMap M.cls2, c.key.length ≤ 140737488351232 ∧ c.val.length ≤ 140737488351232 := by
  intro c hc
  obtain ⟨x, hx, h⟩ := List.mem_flatMap.1 hc
  have hm : M.mayB x = true := by have := (hT x hx).2; simp only [M.goodB, Bool.and_eq_true] at this; exact this.1
  exact late_cls hm c (by simpa [M.cls2] using h)

set_option maxHeartbeats 16000000 in
set_option maxRecDepth 100000 in
theorem rowsOnce_calls (W : World) (v : Value) (hv : USs W v) (u : Value) (hu : UU8 W u) (n : Int) (wn : (Lit.int .i64 n).wf = true) :
    Calls Try.prog 5 #[v, u, .int .i64 n] W fun e w' => e = .returned (.bool true) ∧ Below W.heap.size W w' := by
  obtain ⟨L, lo, lcap, rfl, hl64, hli, hlc, hL⟩ := hv
  obtain ⟨C, co, ccap, rfl, hc64, hci, hC⟩ := hu
  obtain ⟨hn1, hn2⟩ := i64_wfP wn
  obtain ⟨i0, z0, hi, hz0, hz1, hz2, hz3⟩ := infoSp_parts
  obtain ⟨j0, y0, hj, hy0, hy1, hy2, hy3⟩ := infoCl_parts
  have CL := Lib.hid lives21
  have CB : Hid (∀ W', SpsAt W' lo L → Calls Try.prog 8 #[.slice lo L.length lcap, .int .i64 20] W' fun e w' => (e = .returned (.bool true) ∨ (e = .returned (.bool false) ∧ SmallL L 20)) ∧ W' = w') := Lib.hid (beyL L lo lcap 20 (by omega) hl64)
  have HL := Lib.hid hL
  have HC := Lib.hid hC
  have HLI := Lib.hid hli
  have HCI := Lib.hid hci
  have HLC := Lib.hid hlc
  have HB := Lib.hid (Below.refl W.heap.size W)
  clear hL hC hli hci wn hl64 hlc
  go_enter Try.func5, Try.ntmps5
  go_wp2_with fail
  with_reducible refine (CB.out _ HL.out).mono ?_
  rintro e w1 ⟨hr, rfl⟩
  rcases hr with rfl | ⟨rfl, hsm⟩
  · go_wp2_with fail
    with_reducible refine (CL.out _).mono ?_
    rintro e w2 ⟨rfl, hbq⟩
    replace HB := carry hbq HB
    clear hbq
    go_wp2_with fail
    go_ret
    exact ⟨rfl, HB.out⟩
  by_cases hc20 : C.length ≤ 20
  case neg =>
    have hd : decide ((20 : Int) < (C.length : Int)) = true := by simp; omega
    go_wp2_with fail
    with_reducible refine (CL.out _).mono ?_
    rintro e w2 ⟨rfl, hbq⟩
    replace HB := carry hbq HB
    clear hbq
    go_wp2_with fail
    go_ret
    exact ⟨rfl, HB.out⟩
  have hd : decide ((20 : Int) < (C.length : Int)) = false := by simp; omega
  have hL20 : L.length ≤ 20 := hsm.1
  have HFL := Lib.hid (show ∀ x ∈ L, x.fits from fun x hx => (hsm.2 x hx).fits (HLI.out x hx))
  clear hsm HLI CB
  go_wp2_with fail
  clear hd
  go_loopw [7] (fun i wr => ∃ a : Nat, a ≤ L.length ∧ i = .int .i64 a ∧ Hid (∀ i, i < a → ∀ k, k < i → M.same (L.getD k M.sp0) (L.getD i M.sp0) = false) ∧ Hid (Below W.heap.size W wr)) (fun i _ => L.length - (intOf i).toNat)
  case atStart => exact ⟨0, Nat.zero_le _, rfl, Lib.hid (fun i hi => by omega), HB⟩
  case round =>
    clear HB
    obtain ⟨a, ha, rfl, HP, HB⟩ := hrel
    by_cases hlt : a < L.length
    · have hd : decide ((a : Int) < (L.length : Int)) = true := by simp; omega
      have HLT := Lib.hid hlt
      clear hlt
      go_wp2_with fail
      clear hd
      go_loopw [8] (fun k wq => ∃ b : Nat, b ≤ a ∧ k = .int .i64 b ∧ Hid (∀ k, k < b → M.same (L.getD k M.sp0) (L.getD a M.sp0) = false) ∧ Hid (Below W.heap.size W wq)) (fun k _ => a - (intOf k).toNat)
      case atStart => exact ⟨0, Nat.zero_le _, rfl, Lib.hid (fun i hi => by omega), HB⟩
      case round =>
        clear HB
        obtain ⟨b, hb, rfl, HQ, HB⟩ := hrel
        by_cases hlq : b < a
        · have hlt := HLT.out
          have hd : decide ((b : Int) < (a : Int)) = true := by simp; omega
          have hk1 : (b : Int) < (L.length : Int) := by omega
          have hk2 : (a : Int) < (L.length : Int) := by omega
          obtain ⟨g, off, rfl, hx⟩ := (HL.out.below HB.out).off b (by omega)
          obtain ⟨g', off', he, hy⟩ := (HL.out.below HB.out).off a (by omega)
          obtain ⟨rfl, rfl⟩ : g = g' ∧ off = off' := by cases he; exact ⟨rfl, rfl⟩
          clear he
          obtain ⟨x0, x1, -⟩ := hx
          obtain ⟨y0', y1', -⟩ := hy
          have HSM := Lib.hid (show M.same (L.getD b M.sp0) (L.getD a M.sp0) = (decide ((L.getD b M.sp0).trace = (L.getD a M.sp0).trace) && decide ((L.getD b M.sp0).id = (L.getD a M.sp0).id)) from rfl)
          have HQ2 := Lib.hid (show M.same (L.getD b M.sp0) (L.getD a M.sp0) = false → ∀ k, k < b + 1 → M.same (L.getD k M.sp0) (L.getD a M.sp0) = false from fun h k hk => by
            by_cases e : k = b
            · rw [e]; exact h
            · exact HQ.out k (by omega))
          generalize M.same (L.getD b M.sp0) (L.getD a M.sp0) = sm at *
          generalize L.getD b M.sp0 = x at *
          generalize L.getD a M.sp0 = y at *
          have g0 := fun d os => cell_regrown x0 d os
          have g1 := fun d os => cell_regrown x1 d os
          have q0 := fun d os => cell_regrown y0' d os
          have q1 := fun d os => cell_regrown y1' d os
          clear x0 x1 y0' y1'
          have hsm := HSM.out
          by_cases e1 : x.trace = y.trace
          · have f1 : (x.trace == y.trace) = true := by simpa using e1
            by_cases e2 : x.id = y.id
            · have f2 : (x.id == y.id) = true := by simpa using e2
              clear e1 e2 hsm
              go_wp2_with fail
              refine wp_region_quiet_below (by kernel_rfl) (by kernel_rfl) ?_
              repeat (any_goals (first | go_big_quiet_step ((fail)) | quiet_step ((fail))))
              refine wpQuiet_nil ?_
              intro _ hw1
              obtain ⟨⟨d1, d1o⟩, hw1⟩ := hw1
              subst hw1
              clear g0 g1 q0 q1
              replace HB := carry (below_regrown wr d1 d1o) HB
              go_wp2_with fail
              with_reducible refine (CL.out _).mono ?_
              rintro e w2 ⟨rfl, hbq⟩
              replace HB := carry hbq HB
              clear hbq
              go_wp2_with fail
              go_ret
              exact ⟨rfl, HB.out⟩
            · have f2 : (x.id == y.id) = false := by simpa using e2
              have HSF := Lib.hid (show sm = false from by rw [hsm, decide_eq_false e2, Bool.and_false])
              clear e1 e2 hsm
              go_wp2_with fail
              refine wp_region_quiet_below (by kernel_rfl) (by kernel_rfl) ?_
              repeat (any_goals (first | go_big_quiet_step ((fail)) | quiet_step ((fail))))
              refine wpQuiet_nil ?_
              intro _ hw1
              obtain ⟨⟨d1, d1o⟩, hw1⟩ := hw1
              subst hw1
              clear g0 g1 q0 q1
              replace HB := carry (below_regrown wr d1 d1o) HB
              go_wp2_with fail
              go_roundw
              case rel => exact ⟨b + 1, by omega, by go_num, Lib.hid (HQ2.out HSF.out), HB⟩
              case measure => simp [intOf]; omega
          · have f1 : (x.trace == y.trace) = false := by simpa using e1
            have HSF := Lib.hid (show sm = false from by rw [hsm, decide_eq_false e1, Bool.false_and])
            clear e1 hsm
            go_wp2_with fail
            refine wp_region_quiet_below (by kernel_rfl) (by kernel_rfl) ?_
            repeat (any_goals (first | go_big_quiet_step ((fail)) | quiet_step ((fail))))
            refine wpQuiet_nil ?_
            intro _ hw1
            obtain ⟨⟨d1, d1o⟩, hw1⟩ := hw1
            subst hw1
            clear g0 g1 q0 q1
            replace HB := carry (below_regrown wr d1 d1o) HB
            go_wp2_with fail
            go_roundw
            case rel => exact ⟨b + 1, by omega, by go_num, Lib.hid (HQ2.out HSF.out), HB⟩
            case measure => simp [intOf]; omega
        · obtain rfl : b = a := by omega
          have hd : decide ((b : Int) < (b : Int)) = false := by simp
          have HP2 := Lib.hid (show ∀ i, i < b + 1 → ∀ k, k < i → M.same (L.getD k M.sp0) (L.getD i M.sp0) = false from fun i hi k hk => by
            by_cases e : i = b
            · subst e; exact HQ.out k hk
            · exact HP.out i (by omega) k hk)
          have hlt := HLT.out
          go_wp2_with fail
          go_roundw
          case rel => exact ⟨b + 1, by omega, by go_num, HP2, HB⟩
          case measure => simp [intOf]; omega
    · obtain rfl : a = L.length := by omega
      have hd : decide ((L.length : Int) < (L.length : Int)) = false := by simp
      have HAP := Lib.hid (apart_of HP.out)
      have HG := Lib.hid (M.goodL_mem (n := n) HFL.out)
      have hGl : (M.goodL n L).length ≤ 20 := by have := M.goodL_len n L; omega
      have CT1 : Hid (∀ W b, ShelfAt W b [] → SpsAt W lo L → Calls Try.prog 21 #[.func (Fn.func 20) #[.pointer (some ⟨b, 0, none⟩)] #[], .slice lo L.length lcap, .int .i64 n] W fun e w' => TakeR (M.goodL n L) W e w') := Lib.hid (fun W b hs hl => by
        have := take_any L lo lcap [] b n hn1 hn2 W (by omega) HFL.out hl (by decide) (fun c hc => by simp at hc) hs
        rwa [M.tk_all HAP.out] at this)
      have CT2 : Hid (∀ W b, ShelfAt W b ((M.goodL n L).flatMap M.cls2) → SpsAt W lo L → Calls Try.prog 21 #[.func (Fn.func 20) #[.pointer (some ⟨b, 0, none⟩)] #[], .slice lo L.length lcap, .int .i64 n] W fun e w' => TakeR [] W e w') := Lib.hid (fun W b hs hl => by
        have := take_any L lo lcap _ b n hn1 hn2 W (by omega) HFL.out hl (by rw [flat_len]; omega) (good_cells HG.out) hs
        rwa [M.tk_again HFL.out HAP.out] at this)
      have CT3 : Hid (∀ W b l a h ad cap, l ≤ a → a ≤ h → h ≤ L.length → ShelfAt W b ((M.goodL n (L.take a)).flatMap M.cls2) → SpsAt W ad ((L.drop l).take (h - l)) → Calls Try.prog 21 #[.func (Fn.func 20) #[.pointer (some ⟨b, 0, none⟩)] #[], .slice ad (h - l) cap, .int .i64 n] W fun e w' => TakeR (M.goodL n ((L.drop a).take (h - a))) W e w') := Lib.hid (fun W b l a h ad cap h1 h2 h3 hs hl => by
        have hlen : ((L.drop l).take (h - l)).length = h - l := by simp; omega
        have hga := M.goodL_len n (L.take a)
        have := take_any ((L.drop l).take (h - l)) ad cap _ b n hn1 hn2 W (by omega) (fun x hx => HFL.out x (List.mem_of_mem_drop (List.mem_of_mem_take hx))) hl (by rw [flat_len]; simp at hga; omega) (good_cells (M.goodL_mem fun x hx => HFL.out x (List.mem_of_mem_take hx))) hs
        rwa [M.once_step HFL.out HAP.out h1 h2, hlen] at this)
      clear HP
      unfold TakeR at CT1 CT2
      generalize hGe : M.goodL n L = G at *
      have HGE := Lib.hid hGe
      clear hGe
      have HS := Lib.hid (show ShelfAt (wr.alloc (.cells #[.slice none 0 0] 44)) wr.heap.size [] from ⟨none, 0, rowIn_new _ _ _, clsAt_nil _ _⟩)
      have HR := Lib.hid (rowIn_new #[.slice none 0 0] 44 wr)
      have hWs := HB.out.size
      go_wp2_with fail
      replace HB := carryA (w := wr) (.cells #[.slice none 0 0] 44) HB
      with_reducible refine (CT1.out _ _ HS.out (HL.out.below HB.out)).mono ?_
      rintro e w2 ⟨aa, ca, ba, cb, rfl, hoa, hob, hb2⟩
      replace HB := carry hb2 HB
      replace HR := carry hb2 HR
      have HOA := Lib.hid hoa
      have HOB := Lib.hid hob
      have HW := Lib.hid (show wr.heap.size + 1 ≤ w2.heap.size from by have := hb2.size; rw [szA] at this; exact this)
      rw [szA] at HOA HOB
      clear hb2 hoa hob HS CT1
      have r0 : w2.cell? ⟨wr.heap.size, 0, none⟩ = some (.slice none 0 0) := HR.out.cell 0
      have f0 := HR.out.free 0
      go_wp2_with (at_builtin; refine wpList_append_rows _ rfl _ _ 29 rfl (wr.heap.size + 1) 25 j0 y0 3 40 Try.underlying29 hj hy0 hy1 hy2 hy3 (by decide) (.slice none 0 0) 0 [] rfl (World.ownsRow_nil _ _ _ _) (wr.heap.size + 1) (.slice ba (2 * G.length) cb) (2 * G.length) (cls (G.flatMap M.cls2)) rfl HOB.out (cls_oneC _) (by unfold maxLen; omega) (by omega) HW.out ?_; intro v9 w9 ho9 hg9; obtain ⟨a9, c9, rfl⟩ := ownP_shape ho9; have HO9 := Lib.hid (show w9.ownsRow (wr.heap.size + 1) 25 3 (.slice a9 (2 * G.length) c9) (2 * G.length) (cls (G.flatMap M.cls2)) from by simpa using ho9); have hbg := (Below.refl w2.heap.size w2).grown hg9 (Nat.le_refl _) (fun q hq => by simp [Value.ownBlock] at hq); replace HOA := carry hbg HOA; replace HR := carry hbg HR; replace HB := carry hbg HB; have f9 := HR.out.free 0; have s9 : w9.cell? ⟨wr.heap.size, 0, none⟩ = some (.slice none 0 0) := HR.out.cell 0; clear ho9 hg9 r0 f0 hbg)
      have hlG : (G.flatMap M.cls2).length = 2 * G.length := flat_len G
      have HR10 := Lib.hid (show RowIn #[.slice a9 (2 * G.length) c9] 44 (w9.setCell ⟨wr.heap.size, 0, none⟩ (.slice a9 (2 * G.length) c9)) wr.heap.size from HR.out.set 0 _)
      have HC10 := Lib.hid (show ClsAt (w9.setCell ⟨wr.heap.size, 0, none⟩ (.slice a9 (2 * G.length) c9)) a9 (G.flatMap M.cls2) from clsAt_own (ownP_set HO9.out (Nat.lt_succ_self _) _ _) hlG.symm)
      have HA10 := Lib.hid (show SpsAt (w9.setCell ⟨wr.heap.size, 0, none⟩ (.slice a9 (2 * G.length) c9)) aa G from spsAt_own (ownP_set HOA.out (Nat.lt_succ_self _) _ _) rfl)
      have HB10 := Lib.hid (show Below W.heap.size W (w9.setCell ⟨wr.heap.size, 0, none⟩ (.slice a9 (2 * G.length) c9)) from HB.out.setCell hWs _)
      clear HOA HOB HO9 HR HB HW f9 s9
      generalize w9.setCell ⟨wr.heap.size, 0, none⟩ (.slice a9 (2 * G.length) c9) = w10 at *
      simp only [List.length_nil, Nat.mul_zero] at CT2
      with_reducible refine (CT2.out _ _ ⟨a9, c9, by rw [hlG]; exact HR10.out, HC10.out⟩ (HL.out.below HB10.out)).mono ?_
      rintro e w11 ⟨ax, cx, ay, cy, rfl, -, -, hb11⟩
      replace HA10 := carry hb11 HA10
      replace HB10 := carry hb11 HB10
      clear hb11 HR10 HC10 CT2 hlG
      go_wp2_with fail
      go_loopw [15, 16, 17] (fun v15 at' i wq => ∃ (a j : Nat) (P : List M.Sp) (b1 : Option Addr) (d1 : Nat) (t1 : Option Addr) (e1 : Nat), a ≤ L.length ∧ j ≤ C.length + a ∧ at' = .int .i64 a ∧ i = .int .i64 j ∧ v15 = .slice b1 P.length d1 ∧ Hid (P = M.goodL n (L.take a)) ∧
          Hid (wq.ownsRow (w11.heap.size + 1) 23 8 (.slice b1 P.length d1) P.length (sps P) ∧ wq.ownsRow (w11.heap.size + 1) 25 3 (.slice t1 (2 * P.length) e1) (2 * P.length) (cls (P.flatMap M.cls2)) ∧ RowIn #[.slice t1 (2 * P.length) e1] 44 wq w11.heap.size ∧ Below w11.heap.size w11 wq)) (fun _ at' i _ => (C.length - (intOf i).toNat) + (L.length - (intOf at').toNat))
      case atStart => exact ⟨0, 0, [], none, 0, none, 0, by omega, by omega, rfl, rfl, rfl, Lib.hid rfl, Lib.hid ⟨World.ownsRow_nil _ _ _ _, World.ownsRow_nil _ _ _ _, rowIn_new _ _ _, (Below.refl _ _).alloc (Nat.le_refl _) _⟩⟩
      case round =>
        obtain ⟨a, j, P, b1, d1, t1, e1, ha', hj', rfl, rfl, rfl, HP, HH⟩ := hrel
        have HBw := Lib.hid (below_step HB10.out HH.out.2.2.2)
        by_cases hlt : a < L.length
        · have hd : decide ((a : Int) < (L.length : Int)) = true := by simp; omega
          by_cases hjc : j < C.length
          · have hd2 : decide ((j : Int) < (C.length : Int)) = true := by simp; omega
            have hd3 : (j : Int) < (C.length : Int) := by omega
            obtain ⟨gc, oc, rfl, hcc⟩ := (HC.out.below HBw.out) (List.length_pos_iff.1 (by omega))
            have q0 := hcc j hjc
            have hcv := HCI.out (C.getD j 0) (by simp [List.getD, List.getElem?_eq_getElem hjc])
            clear hcc
            generalize C.getD j 0 = cv at *
            obtain ⟨hc0, hc1⟩ := hcv
            obtain ⟨kk, hmin⟩ : ∃ kk : Nat, min ((L.length : Int) - (a : Int)) (cv % 6) = (kk : Int) := ⟨(min ((L.length : Int) - (a : Int)) (cv % 6)).toNat, by omega⟩
            have hkk : kk ≤ L.length - a := by omega
            have hjn : j + 1 ≤ C.length + (a + kk) := by omega
            have hms : (C.length - (j + 1)) + (L.length - (a + kk)) < (C.length - j) + (L.length - a) := by omega
            obtain ⟨g, off, rfl, hx⟩ := (HL.out.below HBw.out) (List.length_pos_iff.1 (by omega))
            have HX := Lib.hid hx
            obtain ⟨l0, hl0⟩ : ∃ l0 : Nat, l0 = a - 2 := ⟨_, rfl⟩
            have hmax : max ((a : Int) - 2) 0 = (l0 : Int) := by omega
            have hlc := HLC.out
            have b1' : (0 : Int) ≤ (a : Int) + (kk : Int) := by omega
            have b2' : (a : Int) + (kk : Int) ≤ (lcap : Int) := by omega
            have b3' : (l0 : Int) ≤ (a : Int) + (kk : Int) := by omega
            have b4' : (0 : Int) ≤ (l0 : Int) := by omega
            have b5' : ((a : Int) + (kk : Int)).toNat = a + kk := by omega
            have r0 := HH.out.2.2.1.cell 0
            clear hx
            have HCT := Lib.hid (CT3.out wr w11.heap.size l0 a (a + kk) (some ⟨g, off + l0 * 8, none⟩) (lcap - l0) (by omega) (by omega) (by omega) (by
              rw [← HP.out]
              exact ⟨t1, e1, by rw [flat_len]; exact HH.out.2.2.1, clsAt_own HH.out.2.1 (flat_len P).symm⟩) (spsAt_piece HX.out l0 _))
            have HJN := Lib.hid (show P ++ M.goodL n ((L.drop a).take (a + kk - a)) = M.goodL n (L.take (a + kk)) from by rw [HP.out]; exact M.once_join (by omega))
            have hQl : (M.goodL n ((L.drop a).take (a + kk - a))).length ≤ 20 := by
              have h1 := M.goodL_len n ((L.drop a).take (a + kk - a))
              have h2 : ((L.drop a).take (a + kk - a)).length ≤ L.length := by simp; omega
              omega
            have hPl : P.length ≤ 20 := by rw [HP.out]; have := M.goodL_len n (L.take a); simp at this; omega
            generalize M.goodL n ((L.drop a).take (a + kk - a)) = Q at *
            unfold TakeR at HCT
            clear hl0
            go_wp2_with fail
            clear b1' b2' b3' b4' b5' hmax hmin r0
            with_reducible refine HCT.out.mono ?_
            rintro e w5 ⟨ap, cp, bp, cq, rfl, hop, hoq, hb5⟩
            replace HH := carry hb5 HH
            have HOP := Lib.hid hop
            have HOQ := Lib.hid hoq
            clear hb5 hop hoq HCT HBw HX
            have r0 : w5.cell? ⟨w11.heap.size, 0, none⟩ = some (.slice t1 (2 * P.length) e1) := HH.out.2.2.1.cell 0
            have f0 := HH.out.2.2.1.free 0
            go_wp2_with (first
              | (at_builtin; refine wpList_append_rows _ rfl _ _ 27 rfl (w11.heap.size + 1) 23 i0 z0 8 88 Try.underlying27 hi hz0 hz1 hz2 hz3 (by decide) (.slice b1 P.length d1) P.length (sps P) rfl HH.out.1 wr.heap.size (.slice ap Q.length cp) Q.length (sps Q) rfl HOP.out (sps_oneR _) (by unfold maxLen; omega) (by omega) (by have := HH.out.2.2.1.lt; omega) ?_; intro v9 w9 ho9 hg9; obtain ⟨a9, c9, rfl⟩ := ownP_shape ho9; have HO9 := Lib.hid (show w9.ownsRow (w11.heap.size + 1) 23 8 (.slice a9 (P.length + Q.length) c9) (P.length + Q.length) (sps (P ++ Q)) from by rw [sps_append]; exact ho9); have HT9 := Lib.hid (HH.out.2.1.kept hg9 (own_apart HH.out.2.1 HH.out.1 (by decide))); have HOQ9 := Lib.hid (HOQ.out.kept hg9 (own_apart HOQ.out HH.out.1 (by decide))); have HR9 := Lib.hid (HH.out.2.2.1.grownP hg9 (fun q hq h => by have := (HH.out.1.lt q hq).1; omega)); have HB9 := Lib.hid (HH.out.2.2.2.grown hg9 HH.out.2.2.2.size (fun q hq => by have := (HH.out.1.lt q hq).1; omega)); have r9 : w9.cell? ⟨w11.heap.size, 0, none⟩ = some (.slice t1 (2 * P.length) e1) := HR9.out.cell 0; have f9 := HR9.out.free 0; clear ho9 hg9 r0 f0)
              | (at_builtin; refine wpList_append_rows _ rfl _ _ 29 rfl (w11.heap.size + 1) 25 j0 y0 3 40 Try.underlying29 hj hy0 hy1 hy2 hy3 (by decide) (.slice t1 (2 * P.length) e1) (2 * P.length) (cls (P.flatMap M.cls2)) rfl HT9.out wr.heap.size (.slice bp (2 * Q.length) cq) (2 * Q.length) (cls (Q.flatMap M.cls2)) rfl HOQ9.out (cls_oneC _) (by unfold maxLen; omega) (by omega) (by have := HR9.out.lt; omega) ?_; intro v8 w8 ho8 hg8; obtain ⟨a8, c8, rfl⟩ := ownP_shape ho8; have HO8 := Lib.hid (show w8.ownsRow (w11.heap.size + 1) 25 3 (.slice a8 (2 * P.length + 2 * Q.length) c8) (2 * P.length + 2 * Q.length) (cls ((P ++ Q).flatMap M.cls2)) from by rw [List.flatMap_append, cls_append]; exact ho8); have HP8 := Lib.hid (HO9.out.kept hg8 (own_apart HO9.out HT9.out (by decide))); have HR8 := Lib.hid (HR9.out.grownP hg8 (fun q hq h => by have := (HT9.out.lt q hq).1; omega)); have HB8 := Lib.hid (HB9.out.grown hg8 HB9.out.size (fun q hq => by have := (HT9.out.lt q hq).1; omega)); have r8 : w8.cell? ⟨w11.heap.size, 0, none⟩ = some (.slice t1 (2 * P.length) e1) := HR8.out.cell 0; have f8 := HR8.out.free 0; clear ho8 hg8 r9 f9))
            go_roundw
            case rel =>
              have hl : (P ++ Q).length = P.length + Q.length := by simp
              exact ⟨a + kk, j + 1, P ++ Q, a9, c9, a8, c8, by omega, hjn, by go_num, by go_num, by rw [hl], Lib.hid HJN.out, Lib.hid ⟨by rw [hl]; exact ownP_set HP8.out (Nat.lt_succ_self _) _ _, by rw [hl, Nat.mul_add]; exact ownP_set HO8.out (Nat.lt_succ_self _) _ _, by rw [hl, Nat.mul_add]; exact HR8.out.set 0 _, HB8.out.setCell (Nat.le_refl _) _⟩⟩
            case measure => simp [intOf]; omega
          · have hd2 : decide ((j : Int) < (C.length : Int)) = false := by simp; omega
            obtain ⟨kk, hmin⟩ : ∃ kk : Nat, (L.length : Int) - (a : Int) = (kk : Int) := ⟨L.length - a, by omega⟩
            have hkk : kk ≤ L.length - a := by omega
            have hjn : j + 1 ≤ C.length + (a + kk) := by omega
            have hms : (C.length - (j + 1)) + (L.length - (a + kk)) < (C.length - j) + (L.length - a) := by omega
            obtain ⟨g, off, rfl, hx⟩ := (HL.out.below HBw.out) (List.length_pos_iff.1 (by omega))
            have HX := Lib.hid hx
            obtain ⟨l0, hl0⟩ : ∃ l0 : Nat, l0 = a - 2 := ⟨_, rfl⟩
            have hmax : max ((a : Int) - 2) 0 = (l0 : Int) := by omega
            have hlc := HLC.out
            have b1' : (0 : Int) ≤ (a : Int) + (kk : Int) := by omega
            have b2' : (a : Int) + (kk : Int) ≤ (lcap : Int) := by omega
            have b3' : (l0 : Int) ≤ (a : Int) + (kk : Int) := by omega
            have b4' : (0 : Int) ≤ (l0 : Int) := by omega
            have b5' : ((a : Int) + (kk : Int)).toNat = a + kk := by omega
            have r0 := HH.out.2.2.1.cell 0
            clear hx
            have HCT := Lib.hid (CT3.out wr w11.heap.size l0 a (a + kk) (some ⟨g, off + l0 * 8, none⟩) (lcap - l0) (by omega) (by omega) (by omega) (by
              rw [← HP.out]
              exact ⟨t1, e1, by rw [flat_len]; exact HH.out.2.2.1, clsAt_own HH.out.2.1 (flat_len P).symm⟩) (spsAt_piece HX.out l0 _))
            have HJN := Lib.hid (show P ++ M.goodL n ((L.drop a).take (a + kk - a)) = M.goodL n (L.take (a + kk)) from by rw [HP.out]; exact M.once_join (by omega))
            have hQl : (M.goodL n ((L.drop a).take (a + kk - a))).length ≤ 20 := by
              have h1 := M.goodL_len n ((L.drop a).take (a + kk - a))
              have h2 : ((L.drop a).take (a + kk - a)).length ≤ L.length := by simp; omega
              omega
            have hPl : P.length ≤ 20 := by rw [HP.out]; have := M.goodL_len n (L.take a); simp at this; omega
            generalize M.goodL n ((L.drop a).take (a + kk - a)) = Q at *
            unfold TakeR at HCT
            clear hl0
            go_wp2_with fail
            clear b1' b2' b3' b4' b5' hmax hmin r0
            with_reducible refine HCT.out.mono ?_
            rintro e w5 ⟨ap, cp, bp, cq, rfl, hop, hoq, hb5⟩
            replace HH := carry hb5 HH
            have HOP := Lib.hid hop
            have HOQ := Lib.hid hoq
            clear hb5 hop hoq HCT HBw HX
            have r0 : w5.cell? ⟨w11.heap.size, 0, none⟩ = some (.slice t1 (2 * P.length) e1) := HH.out.2.2.1.cell 0
            have f0 := HH.out.2.2.1.free 0
            go_wp2_with (first
              | (at_builtin; refine wpList_append_rows _ rfl _ _ 27 rfl (w11.heap.size + 1) 23 i0 z0 8 88 Try.underlying27 hi hz0 hz1 hz2 hz3 (by decide) (.slice b1 P.length d1) P.length (sps P) rfl HH.out.1 wr.heap.size (.slice ap Q.length cp) Q.length (sps Q) rfl HOP.out (sps_oneR _) (by unfold maxLen; omega) (by omega) (by have := HH.out.2.2.1.lt; omega) ?_; intro v9 w9 ho9 hg9; obtain ⟨a9, c9, rfl⟩ := ownP_shape ho9; have HO9 := Lib.hid (show w9.ownsRow (w11.heap.size + 1) 23 8 (.slice a9 (P.length + Q.length) c9) (P.length + Q.length) (sps (P ++ Q)) from by rw [sps_append]; exact ho9); have HT9 := Lib.hid (HH.out.2.1.kept hg9 (own_apart HH.out.2.1 HH.out.1 (by decide))); have HOQ9 := Lib.hid (HOQ.out.kept hg9 (own_apart HOQ.out HH.out.1 (by decide))); have HR9 := Lib.hid (HH.out.2.2.1.grownP hg9 (fun q hq h => by have := (HH.out.1.lt q hq).1; omega)); have HB9 := Lib.hid (HH.out.2.2.2.grown hg9 HH.out.2.2.2.size (fun q hq => by have := (HH.out.1.lt q hq).1; omega)); have r9 : w9.cell? ⟨w11.heap.size, 0, none⟩ = some (.slice t1 (2 * P.length) e1) := HR9.out.cell 0; have f9 := HR9.out.free 0; clear ho9 hg9 r0 f0)
              | (at_builtin; refine wpList_append_rows _ rfl _ _ 29 rfl (w11.heap.size + 1) 25 j0 y0 3 40 Try.underlying29 hj hy0 hy1 hy2 hy3 (by decide) (.slice t1 (2 * P.length) e1) (2 * P.length) (cls (P.flatMap M.cls2)) rfl HT9.out wr.heap.size (.slice bp (2 * Q.length) cq) (2 * Q.length) (cls (Q.flatMap M.cls2)) rfl HOQ9.out (cls_oneC _) (by unfold maxLen; omega) (by omega) (by have := HR9.out.lt; omega) ?_; intro v8 w8 ho8 hg8; obtain ⟨a8, c8, rfl⟩ := ownP_shape ho8; have HO8 := Lib.hid (show w8.ownsRow (w11.heap.size + 1) 25 3 (.slice a8 (2 * P.length + 2 * Q.length) c8) (2 * P.length + 2 * Q.length) (cls ((P ++ Q).flatMap M.cls2)) from by rw [List.flatMap_append, cls_append]; exact ho8); have HP8 := Lib.hid (HO9.out.kept hg8 (own_apart HO9.out HT9.out (by decide))); have HR8 := Lib.hid (HR9.out.grownP hg8 (fun q hq h => by have := (HT9.out.lt q hq).1; omega)); have HB8 := Lib.hid (HB9.out.grown hg8 HB9.out.size (fun q hq => by have := (HT9.out.lt q hq).1; omega)); have r8 : w8.cell? ⟨w11.heap.size, 0, none⟩ = some (.slice t1 (2 * P.length) e1) := HR8.out.cell 0; have f8 := HR8.out.free 0; clear ho8 hg8 r9 f9))
            go_roundw
            case rel =>
              have hl : (P ++ Q).length = P.length + Q.length := by simp
              exact ⟨a + kk, j + 1, P ++ Q, a9, c9, a8, c8, by omega, hjn, by go_num, by go_num, by rw [hl], Lib.hid HJN.out, Lib.hid ⟨by rw [hl]; exact ownP_set HP8.out (Nat.lt_succ_self _) _ _, by rw [hl, Nat.mul_add]; exact ownP_set HO8.out (Nat.lt_succ_self _) _ _, by rw [hl, Nat.mul_add]; exact HR8.out.set 0 _, HB8.out.setCell (Nat.le_refl _) _⟩⟩
            case measure => simp [intOf]; omega
        · obtain rfl : a = L.length := by omega
          have hd : decide ((L.length : Int) < (L.length : Int)) = false := by simp
          obtain rfl : P = G := by rw [HP.out, List.take_length]; exact HGE.out
          have HBb := Lib.hid (spsAt_own HH.out.1 rfl)
          have HAa := Lib.hid (HA10.out.below HH.out.2.2.2)
          clear HH HP HGE
          go_wp2_with fail
          with_reducible refine (sameSpans_yes P aa b1 ca d1 (by omega) HAa.out HBb.out).mono ?_
          rintro e w12 ⟨rfl, hb12⟩
          replace HBw := carry hb12 HBw
          clear hb12
          go_wp2_with fail
          with_reducible refine (CL.out _).mono ?_
          rintro e w13 ⟨rfl, hb13⟩
          replace HBw := carry hb13 HBw
          clear hb13
          go_wp2_with fail
          go_ret
          exact ⟨rfl, HBw.out⟩

end Go.Proofs.Ytjlddackpckmfaa
