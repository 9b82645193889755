/- Layer 9: BlocksOne, walked. -/
import Derived.Test.YtppkecilbkgbdaaBlocksQ
import Derived.BigQuiet
namespace Go.Proofs.Ytppkecilbkgbdaa
set_option linter.unusedVariables false
open Go Go.RowKit
attribute [local go_sem ↓] run_index_S
attribute [local go_sem] S_append S_extract

/-- Two cells changed about. -/
def M.sw (L : List M.Cl) (a b : Nat) : List M.Cl := (L.set a (L.getD b M.cl0)).set b (L.getD a M.cl0)
theorem M.sw_len (L : List M.Cl) (a b : Nat) : (M.sw L a b).length = L.length := by simp [M.sw]
theorem M.getD_setC {L : List M.Cl} {i j : Nat} {x : M.Cl} (hi : i < L.length) : (L.set i x).getD j M.cl0 = if i = j then x else L.getD j M.cl0 := by
  simp only [List.getD, List.getElem?_set]
  by_cases h : i = j
  · subst h; simp [hi]
  · simp [h]
theorem M.sw_get {L : List M.Cl} {a b : Nat} (ha : a < L.length) (hb : b < L.length) (j : Nat) : (M.sw L a b).getD j M.cl0 = if b = j then L.getD a M.cl0 else if a = j then L.getD b M.cl0 else L.getD j M.cl0 := by
  rw [M.sw, M.getD_setC (by simpa using hb), M.getD_setC ha]
theorem M.sw_same {L : List M.Cl} {a : Nat} (ha : a < L.length) : M.sw L a a = L := by
  rw [M.sw, List.set_set]
  apply List.ext_getElem?
  intro i
  rw [List.getElem?_set]
  by_cases h : a = i
  · subst h; simp [List.getD, ha]
  · simp [h]
theorem M.sw_not {L : List M.Cl} (h : M.srt none L = true) {a b : Nat} (ha : a < L.length) (hb : b < L.length) (hab : a ≠ b) : M.srt none (M.sw L a b) = false := by
  cases k : M.srt none (M.sw L a b) with
  | false => rfl
  | true =>
    have key : ∀ x y, x < y → y < L.length → M.aheadC (L.getD y M.cl0) (L.getD x M.cl0) = true → False := fun x y h1 h2 h3 => by
      have := M.ahead_asymm (M.srt_pair h x y h1 h2)
      rw [this] at h3; cases h3
    rcases Nat.lt_or_gt_of_ne hab with q | q
    · have p := M.srt_pair k a b q (by rw [M.sw_len]; exact hb)
      rw [M.sw_get ha hb, M.sw_get ha hb, if_neg (Ne.symm hab), if_pos rfl, if_pos rfl] at p
      exact (key a b q hb p).elim
    · have p := M.srt_pair k b a q (by rw [M.sw_len]; exact ha)
      rw [M.sw_get ha hb, M.sw_get ha hb, if_pos rfl, if_neg (Ne.symm hab), if_pos rfl] at p
      exact (key b a q ha p).elim
theorem M.srt_next {L : List M.Cl} (h : M.srt none L = true) {k : Nat} (hk : 0 < k) (hl : k < L.length) :
    Op.bytesLess (L.getD k M.cl0).key (L.getD (k - 1) M.cl0).key = false ∧ ((L.getD (k - 1) M.cl0).key = (L.getD k M.cl0).key → (L.getD k M.cl0).seq < (L.getD (k - 1) M.cl0).seq) ∧ (¬ (L.getD (k - 1) M.cl0).key = (L.getD k M.cl0).key → Op.bytesLess (L.getD (k - 1) M.cl0).key (L.getD k M.cl0).key = true) := by
  have p := M.srt_pair h (k - 1) k (by omega) hl
  rcases M.ahead_iff.1 p with q | ⟨q1, q2⟩
  · refine ⟨?_, fun e => (by rw [e, M.less_irr] at q; cases q), fun _ => q⟩
    cases r : Op.bytesLess (L.getD k M.cl0).key (L.getD (k - 1) M.cl0).key with
    | false => rfl
    | true => have := M.less_trans _ _ _ q r; rw [M.less_irr] at this; cases this
  · exact ⟨by rw [q1, M.less_irr], fun _ => q2, fun h => absurd q1 h⟩

/-- A cell stored whole. -/
def store3 (w : World) (g o : Nat) (c : M.Cl) : World := ((w.setCell ⟨g, o, none⟩ (.string (S c.key))).setCell ⟨g, o + 1, none⟩ (.int .i64 c.seq)).setCell ⟨g, o + 2, none⟩ (.string (S c.val))
theorem RoomC.read {N : Nat} {w : World} {g : Nat} (h : RoomC N w g) {o : Nat} (ho : o < N) (v : Value) (p : Nat) : (w.setCell ⟨g, o, none⟩ v).cell? ⟨g, p, none⟩ = if o = p then some v else w.cell? ⟨g, p, none⟩ := by
  obtain ⟨C, h1, h2⟩ := h
  rw [(h1.set o v).cell p, h1.cell p, Array.getElem?_setIfInBounds]
  by_cases e : o = p
  · subst e; simp; omega
  · simp [e]
theorem store3_at {N : Nat} {w : World} {g o : Nat} (h : RoomC N w g) (ho : o + 2 < N) (c : M.Cl) : ClOff c (store3 w g o c) g o := by
  have h1 := h.set o (.string (S c.key))
  have h2 := h1.set (o + 1) (.int .i64 c.seq)
  refine ⟨?_, ?_, ?_⟩
  · rw [store3, h2.read (by omega), if_neg (by omega), h1.read (by omega), if_neg (by omega), h.read (by omega), if_pos rfl]
  · rw [store3, h2.read (by omega), if_neg (by omega), h1.read (by omega), if_pos rfl]
  · rw [store3, h2.read (by omega), if_pos rfl]
theorem store3_cell {N : Nat} {w : World} {g o : Nat} (h : RoomC N w g) (ho : o + 2 < N) (c : M.Cl) {p : Nat} (hp : p < o ∨ o + 2 < p) : (store3 w g o c).cell? ⟨g, p, none⟩ = w.cell? ⟨g, p, none⟩ := by
  have h1 := h.set o (.string (S c.key))
  have h2 := h1.set (o + 1) (.int .i64 c.seq)
  rw [store3, h2.read (by omega), if_neg (by omega), h1.read (by omega), if_neg (by omega), h.read (by omega), if_neg (by omega)]
theorem store3_room {N : Nat} {w : World} {g o : Nat} (h : RoomC N w g) (c : M.Cl) : RoomC N (store3 w g o c) g := ((h.set _ _).set _ _).set _ _
theorem store3_off {N : Nat} {w : World} {g o : Nat} (h : RoomC N w g) (ho : o + 2 < N) (c : M.Cl) {x : M.Cl} {p : Nat} (hx : ClOff x w g p) (hp : p + 2 < o ∨ o + 2 < p) : ClOff x (store3 w g o c) g p := by
  obtain ⟨x0, x1, x2⟩ := hx
  exact ⟨(store3_cell h ho c (by omega)).trans x0, (store3_cell h ho c (by omega)).trans x1, (store3_cell h ho c (by omega)).trans x2⟩
theorem RoomC.drew9 {N : Nat} {w : World} {g : Nat} (h : RoomC N w g) : RoomC N w.drew g := by
  obtain ⟨C, h1, h2⟩ := h
  exact ⟨C, show RowIn C 32 w.drew g from h1, h2⟩
theorem clsAt_at0 {w : World} {g : Nat} {L : List M.Cl} (h : ClsAt w (some ⟨g, 0, none⟩) L) (j : Nat) (hj : j < L.length) : ClOff (L.getD j M.cl0) w g (j * 3) := by
  obtain ⟨g', o', q, hc⟩ := h.off j hj
  cases q
  rwa [Nat.zero_add] at hc
theorem clsAt_sw {w : World} {g : Nat} {L : List M.Cl} {N : Nat} (hr : RoomC N w g) (hN : L.length * 3 ≤ N) (h : ClsAt w (some ⟨g, 0, none⟩) L) {a b : Nat} (ha : a < L.length) (hb : b < L.length) :
    ClsAt (store3 (store3 w g (a * 3) (L.getD b M.cl0)) g (b * 3) (L.getD a M.cl0)) (some ⟨g, 0, none⟩) (M.sw L a b) := fun _ => by
  have r1 := store3_room (o := a * 3) hr (L.getD b M.cl0)
  refine ⟨g, 0, rfl, fun j hj => ?_⟩
  rw [M.sw_len] at hj
  rw [M.sw_get ha hb, Nat.zero_add]
  by_cases e : b = j
  · subst e; rw [if_pos rfl]; exact store3_at r1 (by omega) _
  · rw [if_neg e]
    by_cases e2 : a = j
    · subst e2; rw [if_pos rfl]; exact store3_off r1 (by omega) _ (store3_at hr (by omega) _) (by omega)
    · rw [if_neg e2]
      have hc := clsAt_at0 h j hj
      exact store3_off r1 (by omega) _ (store3_off hr (by omega) _ hc (by omega)) (by omega)

theorem clsAt_drewO {w : World} {ao : Option Addr} {L : List M.Cl} (h : ClsAt w ao L) : ClsAt w.drew ao L := h.same rfl
theorem u8_wf9 {n : Int} (h : (Lit.int .u8 n).wf = true) : 0 ≤ n ∧ n ≤ 255 := by
  simp [Lit.wf, IntKind.min, IntKind.max, IntKind.signed, IntKind.bits] at h
  omega

set_option maxHeartbeats 8000000 in
set_option maxRecDepth 100000 in
theorem blocksOne_calls (W : World) (v : Value) (hv : UCs W v) (i : Int) (wi : (Lit.int .u8 i).wf = true) (k : Int) (wk : (Lit.int .u8 k).wf = true) :
    Calls Try.prog 7 #[v, .int .u8 i, .int .u8 k] W fun e w' => e = .returned (.bool true) ∧ Below W.heap.size W w' := by
  obtain ⟨L, ao, cap, rfl, hl, hi, hc, hL⟩ := hv
  obtain ⟨hi0, hi1⟩ := u8_wf9 wi
  obtain ⟨hk0, hk1⟩ := u8_wf9 wk
  obtain ⟨j0, y0, hj, hy0, hy1, hy2, hy3⟩ := infoCl_parts
  have CD := Lib.hid (fun W => does9 W)
  have CG := Lib.hid (show Calls Try.prog 10 #[.slice ao L.length cap, .int .i64 200] W fun e w' => GreatR9 L 200 W e w' from great9_any L cap 200 (by omega) hL hl)
  unfold GreatR9 at CG
  have CS := Lib.hid (fun (h : SmallCs9 L 200) V a c (h1 : ClsAt V a L) => sorted9_any L (by have := h.1; omega) a c V h1 (h.oks hi))
  have CSW := Lib.hid (fun (h : SmallCs9 L 200) a b (ha : a < L.length) (hb : b < L.length) V x c (h1 : ClsAt V x (M.sw L a b)) => by
    have := sorted9_any (M.sw L a b) (by rw [M.sw_len]; have := h.1; omega) x c V h1 (fun c hc => by
      obtain ⟨j, hj, rfl⟩ := List.getElem_of_mem hc
      rw [show (M.sw L a b)[j] = (M.sw L a b).getD j M.cl0 from by simp [List.getD, List.getElem?_eq_getElem hj], M.sw_get ha hb]
      rw [M.sw_len] at hj
      split
      · exact h.oks hi _ (M.getD_memC ha)
      · split
        · exact h.oks hi _ (M.getD_memC hb)
        · exact h.oks hi _ (M.getD_memC hj))
    rw [M.sw_len] at this; exact this)
  have HLw := Lib.hid hL
  have HB := Lib.hid (Below.refl W.heap.size W)
  have HI := Lib.hid hi
  clear hL hi wi wk
  go_enter Try.func7, Try.ntmps7
  go_wp2_with fail
  with_reducible refine CG.out.mono ?_
  rintro e w0 ⟨rfl | ⟨rfl, hsm⟩, rfl⟩
  · go_wp2_with fail
    with_reducible refine (CD.out _).mono ?_
    rintro e w1 ⟨rfl, hbq⟩
    replace HB := carry hbq HB
    clear hbq
    go_wp2_with fail
    go_ret
    exact ⟨rfl, HB.out⟩
  replace CS := Lib.hid (CS.out hsm)
  replace CSW := Lib.hid (CSW.out hsm)
  have HOK := Lib.hid (hsm.oks HI.out)
  have hl2 : L.length ≤ 200 := hsm.1
  clear hsm CG hl
  go_wp2_with fail
  cases hb : M.srt none L with
  | false =>
    rw [hb] at CS
    clear hb
    with_reducible refine (CS.out _ _ _ HLw.out).mono ?_
    rintro e w1 ⟨rfl, hbq⟩
    replace HB := carry hbq HB
    clear hbq
    go_wp2_with fail
    with_reducible refine (CD.out _).mono ?_
    rintro e w2 ⟨rfl, hbq⟩
    replace HB := carry hbq HB
    clear hbq
    go_wp2_with fail
    go_ret
    exact ⟨rfl, HB.out⟩
  | true =>
    rw [hb] at CS
    have HS := Lib.hid hb
    clear hb
    with_reducible refine (CS.out _ _ _ HLw.out).mono ?_
    rintro e w1 ⟨rfl, hbq⟩
    replace HB := carry hbq HB
    replace HLw := carry hbq HLw
    clear hbq CS
    go_wp2_with fail
    go_loopw [7] (fun i wr => ∃ k : Nat, k ≤ L.length ∧ i = .int .i64 k ∧ Hid (ClsAt wr ao L) ∧ Hid (Below W.heap.size W wr)) (fun i _ => L.length - (intOf i).toNat)
    case atStart => exact ⟨0, Nat.zero_le _, rfl, HLw, HB⟩
    case round =>
      obtain ⟨n, hn, rfl, HLr, HBr⟩ := hrel
      clear HLw HB
      by_cases hlt : n < L.length
      · have hd : decide ((n : Int) < (L.length : Int)) = true := by simp; omega
        have hni : (n : Int) < (L.length : Int) := by omega
        have CK := Lib.hid (fun V => check9_any (L.getD n M.cl0) (HOK.out _ (M.getD_memC hlt)) V)
        rw [show M.mayC (L.getD n M.cl0) = true from M.srt_may HS.out _ (M.getD_memC hlt)] at CK
        simp only [if_true] at CK
        unfold clA at CK
        have HNX := Lib.hid (fun h => M.srt_next HS.out (k := n) h hlt)
        have HLp := Lib.hid (fun (h : 0 < n) => HLr.out.off (n - 1) (by omega))
        obtain ⟨g, off, rfl, x0, x1, x2⟩ := HLr.out.off n hlt
        replace x0 := fun d os => cell_regrown x0 d os
        replace x1 := fun d os => cell_regrown x1 d os
        replace x2 := fun d os => cell_regrown x2 d os
        generalize L.getD n M.cl0 = c at *
        by_cases h0 : n = 0
        · subst h0
          simp only [Nat.zero_mul, Nat.add_zero] at x0 x1 x2
          clear HNX HLp
          go_wp2_with fail
          refine wp_region_quiet_below (by kernel_rfl) (by kernel_rfl) ?_
          repeat (any_goals (first | go_big_quiet_step ((go_at_call 17; exact Calls.regrown_of (CK.out _))) | quiet_step ((go_at_call 17; exact Calls.regrown_of (CK.out _)))))
          refine wpQuiet_nil ?_
          intro _ hw1
          obtain ⟨⟨dd, oo⟩, hw1⟩ := hw1
          subst hw1
          go_wp2_with fail
          go_roundw
          case rel => exact ⟨0 + 1, by omega, by go_num, carry (below_regrown wr dd oo) HLr, carry (below_regrown wr dd oo) HBr⟩
          case measure => simp [intOf]; omega
        · have q0 : decide (0 < n) = true := by simp; omega
          have hn1 : (n : Int) - 1 < (L.length : Int) := by omega
          have hn2 : (0 : Int) ≤ (n : Int) - 1 := by omega
          have hn3 : ((n : Int) - 1).toNat = n - 1 := by omega
          have hnw : IntKind.i64.wrap ((n : Int) - 1) = (n : Int) - 1 := IntWalk.i64_in _ (by omega)
          obtain ⟨hx1, hx2, hx3⟩ := HNX.out (by omega)
          obtain ⟨g', off', e, z0, z1, z2⟩ := HLp.out (by omega)
          cases e
          replace z0 := fun d os => cell_regrown z0 d os
          replace z1 := fun d os => cell_regrown z1 d os
          replace z2 := fun d os => cell_regrown z2 d os
          clear HNX HLp
          generalize L.getD (n - 1) M.cl0 = p at *
          by_cases he : p.key = c.key
          · have q1 : (p.key == c.key) = true := by simpa using he
            have q2 : decide (p.seq ≤ c.seq) = false := by have := hx2 he; simp; omega
            clear he hx2 hx3
            go_wp2_with fail
            refine wp_region_quiet_below (by kernel_rfl) (by kernel_rfl) ?_
            repeat (any_goals (first | go_big_quiet_step ((go_at_call 17; exact Calls.regrown_of (CK.out _))) | quiet_step ((go_at_call 17; exact Calls.regrown_of (CK.out _)))))
            refine wpQuiet_nil ?_
            intro _ hw1
            obtain ⟨⟨dd, oo⟩, hw1⟩ := hw1
            subst hw1
            go_wp2_with fail
            go_roundw
            case rel => exact ⟨n + 1, by omega, by go_num, carry (below_regrown wr dd oo) HLr, carry (below_regrown wr dd oo) HBr⟩
            case measure => simp [intOf]; omega
          · have q1 : (p.key == c.key) = false := by simpa using he
            have q3 := hx3 he
            clear he hx2 hx3
            go_wp2_with fail
            refine wp_region_quiet_below (by kernel_rfl) (by kernel_rfl) ?_
            repeat (any_goals (first | go_big_quiet_step ((go_at_call 17; exact Calls.regrown_of (CK.out _))) | quiet_step ((go_at_call 17; exact Calls.regrown_of (CK.out _)))))
            refine wpQuiet_nil ?_
            intro _ hw1
            obtain ⟨⟨dd, oo⟩, hw1⟩ := hw1
            subst hw1
            go_wp2_with fail
            go_roundw
            case rel => exact ⟨n + 1, by omega, by go_num, carry (below_regrown wr dd oo) HLr, carry (below_regrown wr dd oo) HBr⟩
            case measure => simp [intOf]; omega
      · obtain rfl : n = L.length := by omega
        have hd : decide ((L.length : Int) < (L.length : Int)) = false := by simp
        by_cases h2 : L.length < 2
        · have q0 : decide ((L.length : Int) < 2) = true := by simp; omega
          go_wp2_with fail
          with_reducible refine (CD.out _).mono ?_
          rintro e w2 ⟨rfl, hbq⟩
          replace HBr := carry hbq HBr
          clear hbq
          go_wp2_with fail
          go_ret
          exact ⟨rfl, HBr.out⟩
        · have q0 : decide ((L.length : Int) < 2) = false := by simp; omega
          obtain ⟨a, ha⟩ : ∃ a : Nat, (a : Int) = i % (L.length : Int) := ⟨(i % (L.length : Int)).toNat, by have := Int.emod_nonneg i (show (L.length : Int) ≠ 0 by omega); omega⟩
          obtain ⟨b, hb⟩ : ∃ b : Nat, (b : Int) = k % (L.length : Int) := ⟨(k % (L.length : Int)).toNat, by have := Int.emod_nonneg k (show (L.length : Int) ≠ 0 by omega); omega⟩
          have hal : a < L.length := by have := Int.emod_lt_of_pos i (show 0 < (L.length : Int) by omega); omega
          have hbl : b < L.length := by have := Int.emod_lt_of_pos k (show 0 < (L.length : Int) by omega); omega
          have hta : i.tmod (L.length : Int) = (a : Int) := by rw [ha, Int.tmod_eq_emod_of_nonneg hi0]
          have htb : k.tmod (L.length : Int) = (b : Int) := by rw [hb, Int.tmod_eq_emod_of_nonneg hk0]
          replace ha := ha.symm
          replace hb := hb.symm
          have hne : (L.length : Int) ≠ 0 := by omega
          go_wp2_with fail
          go_quiet (fail)
          have HB2 := Lib.hid (below_drewN HBr.out nq)
          have HL2 := Lib.hid (HLr.out.same (w' := wr.drewN nq) rfl)
          clear HBr HLr
          generalize wr.drewN nq = w2 at *
          have HMK := Lib.hid (World.ownsRow_made (base := w2.heap.size) w2 #[] 0 (Nat.le_refl _) (by unfold maxLen; omega) (show (#[] : Array Value).size = 0 * 3 from rfl) (e := 32))
          have HLa := carryA (w := w2) (.cells #[] 32) HL2
          have HBa := carryA (w := w2) (.cells #[] 32) HB2
          have hsz : w2.heap.size ≤ (w2.alloc (.cells #[] 32)).heap.size := by rw [szA]; exact Nat.le_succ _
          go_wp2_with (at_builtin; refine wpList_append_cls rfl _ _ 22 rfl w2.heap.size j0 y0 Try.underlying22 hj hy0 hy1 hy2 hy3 (.slice (some ⟨w2.heap.size, 0, none⟩) 0 0) 0 [] rfl HMK.out ao cap L rfl HLa.out (by omega) hsz ?_; intro v3 w3 ho3 hg3; obtain ⟨a3, q3, rfl⟩ := ownP_shape ho3; have HO3 := Lib.hid (show w3.ownsRow w2.heap.size 32 3 (.slice a3 L.length q3) L.length (cls L) from by simpa using ho3); have HB3 := Lib.hid (HBa.out.grown hg3 HBa.out.size (fun q hq => Nat.le_trans HB2.out.size (HMK.out.lt q hq).1)); clear ho3 hg3)
          obtain ⟨g, rfl⟩ := ownC_addr HO3.out (by omega)
          obtain ⟨hroom, hg1, hg0⟩ := roomC_own HO3.out
          have HC3 := Lib.hid (clsAt_own HO3.out rfl)
          have HR3 := Lib.hid hroom
          have HG := Lib.hid (Nat.le_trans HB2.out.size hg1)
          obtain ⟨x0, x1, x2⟩ := clsAt_at0 HC3.out a hal
          obtain ⟨z0, z1, z2⟩ := clsAt_at0 HC3.out b hbl
          have n0 := hroom.free (a * 3)
          have n1 := hroom.free (a * 3 + 1)
          have n2 := hroom.free (a * 3 + 2)
          have m0 := hroom.free (b * 3)
          have m1 := hroom.free (b * 3 + 1)
          have m2 := hroom.free (b * 3 + 2)
          have hai : (a : Int) < (L.length : Int) := by omega
          have hbi : (b : Int) < (L.length : Int) := by omega
          clear hroom hg1 hg0 HMK HLa HBa hsz hta htb ha hb
          go_wp2_with fail
          have hsw := clsAt_sw (w := w3) HR3.out (Nat.le_refl _) HC3.out hal hbl
          have hbs := ((((((HB3.out.setCell (p := ⟨g, a * 3, none⟩) HG.out (.string (S (L.getD b M.cl0).key))).setCell (p := ⟨g, a * 3 + 1, none⟩) HG.out (.int .i64 (L.getD b M.cl0).seq)).setCell (p := ⟨g, a * 3 + 2, none⟩) HG.out (.string (S (L.getD b M.cl0).val))).setCell (p := ⟨g, b * 3, none⟩) HG.out (.string (S (L.getD a M.cl0).key))).setCell (p := ⟨g, b * 3 + 1, none⟩) HG.out (.int .i64 (L.getD a M.cl0).seq)).setCell (p := ⟨g, b * 3 + 2, none⟩) HG.out (.string (S (L.getD a M.cl0).val)))
          unfold store3 at hsw
          have HSWW := Lib.hid (clsAt_drewO hsw)
          have HBSS := Lib.hid hbs.drew
          clear hsw hbs
          by_cases hab : a = b
          · subst hab
            have CS5 := Lib.hid (fun V x c h => CSW.out a a hal hal V x c h)
            rw [M.sw_same hal, HS.out] at CS5
            have HSW2 := HSWW
            rw [M.sw_same hal] at HSW2
            generalize L.getD a M.cl0 = x at *
            clear z0 z1 z2 m0 m1 m2 HSWW CSW
            refine wp_region_any (by kernel_rfl) ?_
            change wpAny _ _ _ _ _ _ _ (World.drew _)
            refine wpAny_take (i := 0) (oi := { dst := some 94, op := Op.move (Operand.tmp 10), type := 22, pos := "outright.go:50", after := #[], guard := none }) (v := ?_) rfl (by kernel_rfl) (by kernel_rfl) (by kernel_rfl) (fun _ _ _ h => h) (Or.inl ⟨by rfl, ?_⟩) ?_
            rotate_left
            · (intro w; go_simp); (first | done | with_reducible rfl)
            try simp only [Act.put, List.setIfInBounds_toArray, List.set_cons_zero, List.set_cons_succ]
            refine wpAny_take (i := 1) (oi := { dst := some 95, op := Op.move (Operand.tmp 8), type := 3, pos := "outright.go:50", after := #[], guard := none }) (v := ?_) rfl (by kernel_rfl) (by kernel_rfl) (by kernel_rfl) (fun _ _ _ h => h) (Or.inl ⟨by rfl, ?_⟩) ?_
            rotate_left
            · (intro w; go_simp); (first | done | with_reducible rfl)
            try simp only [Act.put, List.setIfInBounds_toArray, List.set_cons_zero, List.set_cons_succ]
            refine wpAny_take (i := 2) (oi := { dst := some 96, op := Op.move (Operand.tmp 10), type := 22, pos := "outright.go:50", after := #[{ on := 13, ground := Ground.gcOnly Departure.lateStores }], guard := none }) (v := ?_) rfl (by kernel_rfl) (by kernel_rfl) (by kernel_rfl) (fun _ _ _ h => h) (Or.inl ⟨by rfl, ?_⟩) ?_
            rotate_left
            · (intro w; go_simp); (first | done | with_reducible rfl)
            try simp only [Act.put, List.setIfInBounds_toArray, List.set_cons_zero, List.set_cons_succ]
            refine wpAny_take (i := 3) (oi := { dst := some 97, op := Op.move (Operand.tmp 9), type := 3, pos := "outright.go:50", after := #[{ on := 13, ground := Ground.gcOnly Departure.lateStores }], guard := none }) (v := ?_) rfl (by kernel_rfl) (by kernel_rfl) (by kernel_rfl) (fun _ _ _ h => h) (Or.inl ⟨by rfl, ?_⟩) ?_
            rotate_left
            · (intro w; go_simp); (first | done | with_reducible rfl)
            try simp only [Act.put, List.setIfInBounds_toArray, List.set_cons_zero, List.set_cons_succ]
            refine wpAny_take (i := 4) (oi := { dst := some 98, op := Op.move (Operand.tmp 10), type := 22, pos := "outright.go:50", after := #[], guard := none }) (v := ?_) rfl (by kernel_rfl) (by kernel_rfl) (by kernel_rfl) (fun _ _ _ h => h) (Or.inl ⟨by rfl, ?_⟩) ?_
            rotate_left
            · (intro w; go_simp); (first | done | with_reducible rfl)
            try simp only [Act.put, List.setIfInBounds_toArray, List.set_cons_zero, List.set_cons_succ]
            refine wpAny_take (i := 5) (oi := { dst := some 99, op := Op.move (Operand.tmp 9), type := 3, pos := "outright.go:50", after := #[], guard := none }) (v := ?_) rfl (by kernel_rfl) (by kernel_rfl) (by kernel_rfl) (fun _ _ _ h => h) (Or.inl ⟨by rfl, ?_⟩) ?_
            rotate_left
            · (intro w; go_simp); (first | done | with_reducible rfl)
            try simp only [Act.put, List.setIfInBounds_toArray, List.set_cons_zero, List.set_cons_succ]
            refine wpAny_take (i := 6) (oi := { dst := some 100, op := Op.indexAddr 22 (Operand.tmp 98) (Operand.tmp 99), type := 0, pos := "outright.go:50", after := #[{ on := 4, ground := Ground.data }, { on := 5, ground := Ground.data }], guard := none }) (v := ?_) rfl (by kernel_rfl) (by kernel_rfl) (by kernel_rfl) (fun _ _ _ h => h) (Or.inl ⟨by rfl, ?_⟩) ?_
            rotate_left
            · (intro w; go_simp); (first | done | with_reducible rfl)
            try simp only [Act.put, List.setIfInBounds_toArray, List.set_cons_zero, List.set_cons_succ]
            refine wpAny_take (i := 8) (oi := { dst := some 102, op := Op.move (Operand.tmp 10), type := 22, pos := "outright.go:50", after := #[], guard := none }) (v := ?_) rfl (by kernel_rfl) (by kernel_rfl) (by kernel_rfl) (fun _ _ _ h => h) (Or.inl ⟨by rfl, ?_⟩) ?_
            rotate_left
            · (intro w; go_simp); (first | done | with_reducible rfl)
            try simp only [Act.put, List.setIfInBounds_toArray, List.set_cons_zero, List.set_cons_succ]
            refine wpAny_take (i := 9) (oi := { dst := some 103, op := Op.move (Operand.tmp 8), type := 3, pos := "outright.go:50", after := #[], guard := none }) (v := ?_) rfl (by kernel_rfl) (by kernel_rfl) (by kernel_rfl) (fun _ _ _ h => h) (Or.inl ⟨by rfl, ?_⟩) ?_
            rotate_left
            · (intro w; go_simp); (first | done | with_reducible rfl)
            try simp only [Act.put, List.setIfInBounds_toArray, List.set_cons_zero, List.set_cons_succ]
            refine wpAny_take (i := 10) (oi := { dst := some 104, op := Op.indexAddr 22 (Operand.tmp 102) (Operand.tmp 103), type := 0, pos := "outright.go:50", after := #[{ on := 8, ground := Ground.data }, { on := 9, ground := Ground.data }], guard := none }) (v := ?_) rfl (by kernel_rfl) (by kernel_rfl) (by kernel_rfl) (fun _ _ _ h => h) (Or.inl ⟨by rfl, ?_⟩) ?_
            rotate_left
            · (intro w; go_simp); (first | done | with_reducible rfl)
            try simp only [Act.put, List.setIfInBounds_toArray, List.set_cons_zero, List.set_cons_succ]
            refine wpAny_ready (rs := [7, 11]) (by kernel_rfl) (by simp) ?_
            refine AllReady.cons (o := { dst := some 101, op := Op.load 32 (Operand.tmp 100), type := 32, pos := "outright.go:50", after := #[{ on := 6, ground := Ground.data }], guard := none }) rfl (fun K hK => ?_) (AllReady.cons (o := { dst := some 105, op := Op.load 32 (Operand.tmp 104), type := 32, pos := "outright.go:50", after := #[{ on := 10, ground := Ground.data }], guard := none }) rfl (fun K hK => ?_) AllReady.nil)
            go_simp
            refine hK _ _ ?_
            clear hK K
            try simp only [Act.put, List.setIfInBounds_toArray, List.set_cons_zero, List.set_cons_succ]
            refine wpAny_ready (rs := [11]) (by kernel_rfl) (by simp) ?_
            refine AllReady.cons (o := { dst := some 105, op := Op.load 32 (Operand.tmp 104), type := 32, pos := "outright.go:50", after := #[{ on := 10, ground := Ground.data }], guard := none }) rfl (fun K hK => ?_) AllReady.nil
            go_simp
            refine hK _ _ ?_
            clear hK K
            try simp only [Act.put, List.setIfInBounds_toArray, List.set_cons_zero, List.set_cons_succ]
            refine wpAny_take (i := 12) (oi := { dst := some 106, op := Op.indexAddr 22 (Operand.tmp 94) (Operand.tmp 95), type := 0, pos := "outright.go:50", after := #[{ on := 0, ground := Ground.data }, { on := 1, ground := Ground.data }, { on := 0, ground := Ground.phase }, { on := 1, ground := Ground.phase }, { on := 2, ground := Ground.textOnly Departure.lateStores }, { on := 3, ground := Ground.textOnly Departure.lateStores }, { on := 4, ground := Ground.phase }, { on := 5, ground := Ground.phase }, { on := 6, ground := Ground.phase }, { on := 7, ground := Ground.phase }, { on := 8, ground := Ground.textOnly Departure.lateStores }, { on := 9, ground := Ground.textOnly Departure.lateStores }, { on := 10, ground := Ground.textOnly Departure.lateStoresUnsure }, { on := 11, ground := Ground.phase }], guard := none }) (v := ?_) rfl (by kernel_rfl) (by kernel_rfl) (by kernel_rfl) (fun _ _ _ h => h) (Or.inl ⟨by rfl, ?_⟩) ?_
            rotate_left
            · (intro w; go_simp); (first | done | with_reducible rfl)
            try simp only [Act.put, List.setIfInBounds_toArray, List.set_cons_zero, List.set_cons_succ]
            refine wpAny_ready (rs := [13]) (by kernel_rfl) (by simp) ?_
            refine AllReady.cons (o := { dst := none, op := Op.store 32 (Operand.tmp 106) (Operand.tmp 101), type := 0, pos := "outright.go:50", after := #[{ on := 12, ground := Ground.data }, { on := 7, ground := Ground.data }, { on := 0, ground := Ground.phase }, { on := 1, ground := Ground.phase }, { on := 2, ground := Ground.textOnly Departure.lateStores }, { on := 3, ground := Ground.textOnly Departure.lateStores }, { on := 4, ground := Ground.phase }, { on := 5, ground := Ground.phase }, { on := 6, ground := Ground.phase }, { on := 7, ground := Ground.phase }, { on := 8, ground := Ground.textOnly Departure.lateStores }, { on := 9, ground := Ground.textOnly Departure.lateStores }, { on := 10, ground := Ground.textOnly Departure.lateStoresUnsure }, { on := 11, ground := Ground.phase }], guard := none }) rfl (fun K hK => ?_) AllReady.nil
            go_simp
            refine hK _ _ ?_
            clear hK K
            try simp only [Act.put, List.setIfInBounds_toArray, List.set_cons_zero, List.set_cons_succ]
            refine wpAny_take (i := 14) (oi := { dst := some 107, op := Op.indexAddr 22 (Operand.tmp 96) (Operand.tmp 97), type := 0, pos := "outright.go:50", after := #[{ on := 2, ground := Ground.data }, { on := 3, ground := Ground.data }, { on := 0, ground := Ground.phase }, { on := 1, ground := Ground.phase }, { on := 2, ground := Ground.phase }, { on := 3, ground := Ground.phase }, { on := 4, ground := Ground.phase }, { on := 5, ground := Ground.phase }, { on := 6, ground := Ground.phase }, { on := 7, ground := Ground.phase }, { on := 8, ground := Ground.phase }, { on := 9, ground := Ground.phase }, { on := 10, ground := Ground.phase }, { on := 11, ground := Ground.phase }, { on := 12, ground := Ground.phase }, { on := 13, ground := Ground.phase }], guard := none }) (v := ?_) rfl (by kernel_rfl) (by kernel_rfl) (by kernel_rfl) (fun _ _ _ h => h) (Or.inl ⟨by rfl, ?_⟩) ?_
            rotate_left
            · (intro w; go_simp); (first | done | with_reducible rfl)
            try simp only [Act.put, List.setIfInBounds_toArray, List.set_cons_zero, List.set_cons_succ]
            refine wpAny_ready (rs := [15]) (by kernel_rfl) (by simp) ?_
            refine AllReady.cons (o := { dst := none, op := Op.store 32 (Operand.tmp 107) (Operand.tmp 105), type := 0, pos := "outright.go:50", after := #[{ on := 14, ground := Ground.data }, { on := 11, ground := Ground.data }, { on := 13, ground := Ground.chain }, { on := 0, ground := Ground.phase }, { on := 1, ground := Ground.phase }, { on := 2, ground := Ground.phase }, { on := 3, ground := Ground.phase }, { on := 4, ground := Ground.phase }, { on := 5, ground := Ground.phase }, { on := 6, ground := Ground.phase }, { on := 7, ground := Ground.phase }, { on := 8, ground := Ground.phase }, { on := 9, ground := Ground.phase }, { on := 10, ground := Ground.phase }, { on := 11, ground := Ground.phase }, { on := 12, ground := Ground.phase }, { on := 13, ground := Ground.phase }], guard := none }) rfl (fun K hK => ?_) AllReady.nil
            go_simp
            refine hK _ _ ?_
            clear hK K
            try simp only [Act.put, List.setIfInBounds_toArray, List.set_cons_zero, List.set_cons_succ]
            refine wpAny_done (by kernel_rfl) ?_ _
            rotate_left
            go_simp
            refine hK _ _ ?_
            clear hK K
            try simp only [Act.put, List.setIfInBounds_toArray, List.set_cons_zero, List.set_cons_succ]
            refine wpAny_ready (rs := [7]) (by kernel_rfl) (by simp) ?_
            refine AllReady.cons (o := { dst := some 101, op := Op.load 32 (Operand.tmp 100), type := 32, pos := "outright.go:50", after := #[{ on := 6, ground := Ground.data }], guard := none }) rfl (fun K hK => ?_) AllReady.nil
            go_simp
            refine hK _ _ ?_
            clear hK K
            try simp only [Act.put, List.setIfInBounds_toArray, List.set_cons_zero, List.set_cons_succ]
            refine wpAny_take (i := 12) (oi := { dst := some 106, op := Op.indexAddr 22 (Operand.tmp 94) (Operand.tmp 95), type := 0, pos := "outright.go:50", after := #[{ on := 0, ground := Ground.data }, { on := 1, ground := Ground.data }, { on := 0, ground := Ground.phase }, { on := 1, ground := Ground.phase }, { on := 2, ground := Ground.textOnly Departure.lateStores }, { on := 3, ground := Ground.textOnly Departure.lateStores }, { on := 4, ground := Ground.phase }, { on := 5, ground := Ground.phase }, { on := 6, ground := Ground.phase }, { on := 7, ground := Ground.phase }, { on := 8, ground := Ground.textOnly Departure.lateStores }, { on := 9, ground := Ground.textOnly Departure.lateStores }, { on := 10, ground := Ground.textOnly Departure.lateStoresUnsure }, { on := 11, ground := Ground.phase }], guard := none }) (v := ?_) rfl (by kernel_rfl) (by kernel_rfl) (by kernel_rfl) (fun _ _ _ h => h) (Or.inl ⟨by rfl, ?_⟩) ?_
            rotate_left
            · (intro w; go_simp); (first | done | with_reducible rfl)
            try simp only [Act.put, List.setIfInBounds_toArray, List.set_cons_zero, List.set_cons_succ]
            refine wpAny_ready (rs := [13]) (by kernel_rfl) (by simp) ?_
            refine AllReady.cons (o := { dst := none, op := Op.store 32 (Operand.tmp 106) (Operand.tmp 101), type := 0, pos := "outright.go:50", after := #[{ on := 12, ground := Ground.data }, { on := 7, ground := Ground.data }, { on := 0, ground := Ground.phase }, { on := 1, ground := Ground.phase }, { on := 2, ground := Ground.textOnly Departure.lateStores }, { on := 3, ground := Ground.textOnly Departure.lateStores }, { on := 4, ground := Ground.phase }, { on := 5, ground := Ground.phase }, { on := 6, ground := Ground.phase }, { on := 7, ground := Ground.phase }, { on := 8, ground := Ground.textOnly Departure.lateStores }, { on := 9, ground := Ground.textOnly Departure.lateStores }, { on := 10, ground := Ground.textOnly Departure.lateStoresUnsure }, { on := 11, ground := Ground.phase }], guard := none }) rfl (fun K hK => ?_) AllReady.nil
            go_simp
            refine hK _ _ ?_
            clear hK K
            try simp only [Act.put, List.setIfInBounds_toArray, List.set_cons_zero, List.set_cons_succ]
            refine wpAny_take (i := 14) (oi := { dst := some 107, op := Op.indexAddr 22 (Operand.tmp 96) (Operand.tmp 97), type := 0, pos := "outright.go:50", after := #[{ on := 2, ground := Ground.data }, { on := 3, ground := Ground.data }, { on := 0, ground := Ground.phase }, { on := 1, ground := Ground.phase }, { on := 2, ground := Ground.phase }, { on := 3, ground := Ground.phase }, { on := 4, ground := Ground.phase }, { on := 5, ground := Ground.phase }, { on := 6, ground := Ground.phase }, { on := 7, ground := Ground.phase }, { on := 8, ground := Ground.phase }, { on := 9, ground := Ground.phase }, { on := 10, ground := Ground.phase }, { on := 11, ground := Ground.phase }, { on := 12, ground := Ground.phase }, { on := 13, ground := Ground.phase }], guard := none }) (v := ?_) rfl (by kernel_rfl) (by kernel_rfl) (by kernel_rfl) (fun _ _ _ h => h) (Or.inl ⟨by rfl, ?_⟩) ?_
            rotate_left
            · (intro w; go_simp); (first | done | with_reducible rfl)
            try simp only [Act.put, List.setIfInBounds_toArray, List.set_cons_zero, List.set_cons_succ]
            refine wpAny_ready (rs := [15]) (by kernel_rfl) (by simp) ?_
            refine AllReady.cons (o := { dst := none, op := Op.store 32 (Operand.tmp 107) (Operand.tmp 105), type := 0, pos := "outright.go:50", after := #[{ on := 14, ground := Ground.data }, { on := 11, ground := Ground.data }, { on := 13, ground := Ground.chain }, { on := 0, ground := Ground.phase }, { on := 1, ground := Ground.phase }, { on := 2, ground := Ground.phase }, { on := 3, ground := Ground.phase }, { on := 4, ground := Ground.phase }, { on := 5, ground := Ground.phase }, { on := 6, ground := Ground.phase }, { on := 7, ground := Ground.phase }, { on := 8, ground := Ground.phase }, { on := 9, ground := Ground.phase }, { on := 10, ground := Ground.phase }, { on := 11, ground := Ground.phase }, { on := 12, ground := Ground.phase }, { on := 13, ground := Ground.phase }], guard := none }) rfl (fun K hK => ?_) AllReady.nil
            go_simp
            refine hK _ _ ?_
            clear hK K
            try simp only [Act.put, List.setIfInBounds_toArray, List.set_cons_zero, List.set_cons_succ]
            refine wpAny_done (by kernel_rfl) ?_ _
            all_goals
              have hsw := HSW2.out
              have hbs := HBSS.out
            all_goals
              go_wp2_with fail
              with_reducible refine (CS5.out _ _ _ hsw).mono ?_
              rintro e w5 ⟨rfl, hbq⟩
              have HB5 := Lib.hid (below_step hbs hbq)
              clear hbq hsw hbs
              go_wp2_with fail
              with_reducible refine (CD.out _).mono ?_
              rintro e w6 ⟨rfl, hbq⟩
              replace HB5 := carry hbq HB5
              clear hbq
              go_wp2_with fail
              go_ret
              exact ⟨rfl, HB5.out⟩
          · have hba : ¬ b = a := fun h => hab h.symm
            have QAB := Lib.hid (show ((a : Int) == (b : Int)) = false from by simp; omega)
            have u01 : ¬ (a * 3 = b * 3 + 1) := by omega
            have t01 : ¬ (b * 3 + 1 = a * 3) := by omega
            have u02 : ¬ (a * 3 = b * 3 + 2) := by omega
            have t02 : ¬ (b * 3 + 2 = a * 3) := by omega
            have u10 : ¬ (a * 3 + 1 = b * 3) := by omega
            have t10 : ¬ (b * 3 = a * 3 + 1) := by omega
            have u12 : ¬ (a * 3 + 1 = b * 3 + 2) := by omega
            have t12 : ¬ (b * 3 + 2 = a * 3 + 1) := by omega
            have u20 : ¬ (a * 3 + 2 = b * 3) := by omega
            have t20 : ¬ (b * 3 = a * 3 + 2) := by omega
            have u21 : ¬ (a * 3 + 2 = b * 3 + 1) := by omega
            have t21 : ¬ (b * 3 + 1 = a * 3 + 2) := by omega
            have CS5 := Lib.hid (fun V x c h => CSW.out a b hal hbl V x c h)
            rw [M.sw_not HS.out hal hbl hab] at CS5
            generalize L.getD a M.cl0 = x at *
            generalize L.getD b M.cl0 = y at *
            clear CSW
            refine wp_region_any (by kernel_rfl) ?_
            change wpAny _ _ _ _ _ _ _ (World.drew _)
            refine wpAny_take (i := 0) (oi := { dst := some 94, op := Op.move (Operand.tmp 10), type := 22, pos := "outright.go:50", after := #[], guard := none }) (v := ?_) rfl (by kernel_rfl) (by kernel_rfl) (by kernel_rfl) (fun _ _ _ h => h) (Or.inl ⟨by rfl, ?_⟩) ?_
            rotate_left
            · (intro w; go_simp); (first | done | with_reducible rfl)
            try simp only [Act.put, List.setIfInBounds_toArray, List.set_cons_zero, List.set_cons_succ]
            refine wpAny_take (i := 1) (oi := { dst := some 95, op := Op.move (Operand.tmp 8), type := 3, pos := "outright.go:50", after := #[], guard := none }) (v := ?_) rfl (by kernel_rfl) (by kernel_rfl) (by kernel_rfl) (fun _ _ _ h => h) (Or.inl ⟨by rfl, ?_⟩) ?_
            rotate_left
            · (intro w; go_simp); (first | done | with_reducible rfl)
            try simp only [Act.put, List.setIfInBounds_toArray, List.set_cons_zero, List.set_cons_succ]
            refine wpAny_take (i := 2) (oi := { dst := some 96, op := Op.move (Operand.tmp 10), type := 22, pos := "outright.go:50", after := #[{ on := 13, ground := Ground.gcOnly Departure.lateStores }], guard := none }) (v := ?_) rfl (by kernel_rfl) (by kernel_rfl) (by kernel_rfl) (fun _ _ _ h => h) (Or.inl ⟨by rfl, ?_⟩) ?_
            rotate_left
            · (intro w; go_simp); (first | done | with_reducible rfl)
            try simp only [Act.put, List.setIfInBounds_toArray, List.set_cons_zero, List.set_cons_succ]
            refine wpAny_take (i := 3) (oi := { dst := some 97, op := Op.move (Operand.tmp 9), type := 3, pos := "outright.go:50", after := #[{ on := 13, ground := Ground.gcOnly Departure.lateStores }], guard := none }) (v := ?_) rfl (by kernel_rfl) (by kernel_rfl) (by kernel_rfl) (fun _ _ _ h => h) (Or.inl ⟨by rfl, ?_⟩) ?_
            rotate_left
            · (intro w; go_simp); (first | done | with_reducible rfl)
            try simp only [Act.put, List.setIfInBounds_toArray, List.set_cons_zero, List.set_cons_succ]
            refine wpAny_take (i := 4) (oi := { dst := some 98, op := Op.move (Operand.tmp 10), type := 22, pos := "outright.go:50", after := #[], guard := none }) (v := ?_) rfl (by kernel_rfl) (by kernel_rfl) (by kernel_rfl) (fun _ _ _ h => h) (Or.inl ⟨by rfl, ?_⟩) ?_
            rotate_left
            · (intro w; go_simp); (first | done | with_reducible rfl)
            try simp only [Act.put, List.setIfInBounds_toArray, List.set_cons_zero, List.set_cons_succ]
            refine wpAny_take (i := 5) (oi := { dst := some 99, op := Op.move (Operand.tmp 9), type := 3, pos := "outright.go:50", after := #[], guard := none }) (v := ?_) rfl (by kernel_rfl) (by kernel_rfl) (by kernel_rfl) (fun _ _ _ h => h) (Or.inl ⟨by rfl, ?_⟩) ?_
            rotate_left
            · (intro w; go_simp); (first | done | with_reducible rfl)
            try simp only [Act.put, List.setIfInBounds_toArray, List.set_cons_zero, List.set_cons_succ]
            refine wpAny_take (i := 6) (oi := { dst := some 100, op := Op.indexAddr 22 (Operand.tmp 98) (Operand.tmp 99), type := 0, pos := "outright.go:50", after := #[{ on := 4, ground := Ground.data }, { on := 5, ground := Ground.data }], guard := none }) (v := ?_) rfl (by kernel_rfl) (by kernel_rfl) (by kernel_rfl) (fun _ _ _ h => h) (Or.inl ⟨by rfl, ?_⟩) ?_
            rotate_left
            · (intro w; go_simp); (first | done | with_reducible rfl)
            try simp only [Act.put, List.setIfInBounds_toArray, List.set_cons_zero, List.set_cons_succ]
            refine wpAny_take (i := 8) (oi := { dst := some 102, op := Op.move (Operand.tmp 10), type := 22, pos := "outright.go:50", after := #[], guard := none }) (v := ?_) rfl (by kernel_rfl) (by kernel_rfl) (by kernel_rfl) (fun _ _ _ h => h) (Or.inl ⟨by rfl, ?_⟩) ?_
            rotate_left
            · (intro w; go_simp); (first | done | with_reducible rfl)
            try simp only [Act.put, List.setIfInBounds_toArray, List.set_cons_zero, List.set_cons_succ]
            refine wpAny_take (i := 9) (oi := { dst := some 103, op := Op.move (Operand.tmp 8), type := 3, pos := "outright.go:50", after := #[], guard := none }) (v := ?_) rfl (by kernel_rfl) (by kernel_rfl) (by kernel_rfl) (fun _ _ _ h => h) (Or.inl ⟨by rfl, ?_⟩) ?_
            rotate_left
            · (intro w; go_simp); (first | done | with_reducible rfl)
            try simp only [Act.put, List.setIfInBounds_toArray, List.set_cons_zero, List.set_cons_succ]
            refine wpAny_take (i := 10) (oi := { dst := some 104, op := Op.indexAddr 22 (Operand.tmp 102) (Operand.tmp 103), type := 0, pos := "outright.go:50", after := #[{ on := 8, ground := Ground.data }, { on := 9, ground := Ground.data }], guard := none }) (v := ?_) rfl (by kernel_rfl) (by kernel_rfl) (by kernel_rfl) (fun _ _ _ h => h) (Or.inl ⟨by rfl, ?_⟩) ?_
            rotate_left
            · (intro w; go_simp); (first | done | with_reducible rfl)
            try simp only [Act.put, List.setIfInBounds_toArray, List.set_cons_zero, List.set_cons_succ]
            refine wpAny_ready (rs := [7, 11]) (by kernel_rfl) (by simp) ?_
            refine AllReady.cons (o := { dst := some 101, op := Op.load 32 (Operand.tmp 100), type := 32, pos := "outright.go:50", after := #[{ on := 6, ground := Ground.data }], guard := none }) rfl (fun K hK => ?_) (AllReady.cons (o := { dst := some 105, op := Op.load 32 (Operand.tmp 104), type := 32, pos := "outright.go:50", after := #[{ on := 10, ground := Ground.data }], guard := none }) rfl (fun K hK => ?_) AllReady.nil)
            go_simp
            refine hK _ _ ?_
            clear hK K
            try simp only [Act.put, List.setIfInBounds_toArray, List.set_cons_zero, List.set_cons_succ]
            refine wpAny_ready (rs := [11]) (by kernel_rfl) (by simp) ?_
            refine AllReady.cons (o := { dst := some 105, op := Op.load 32 (Operand.tmp 104), type := 32, pos := "outright.go:50", after := #[{ on := 10, ground := Ground.data }], guard := none }) rfl (fun K hK => ?_) AllReady.nil
            go_simp
            refine hK _ _ ?_
            clear hK K
            try simp only [Act.put, List.setIfInBounds_toArray, List.set_cons_zero, List.set_cons_succ]
            refine wpAny_take (i := 12) (oi := { dst := some 106, op := Op.indexAddr 22 (Operand.tmp 94) (Operand.tmp 95), type := 0, pos := "outright.go:50", after := #[{ on := 0, ground := Ground.data }, { on := 1, ground := Ground.data }, { on := 0, ground := Ground.phase }, { on := 1, ground := Ground.phase }, { on := 2, ground := Ground.textOnly Departure.lateStores }, { on := 3, ground := Ground.textOnly Departure.lateStores }, { on := 4, ground := Ground.phase }, { on := 5, ground := Ground.phase }, { on := 6, ground := Ground.phase }, { on := 7, ground := Ground.phase }, { on := 8, ground := Ground.textOnly Departure.lateStores }, { on := 9, ground := Ground.textOnly Departure.lateStores }, { on := 10, ground := Ground.textOnly Departure.lateStoresUnsure }, { on := 11, ground := Ground.phase }], guard := none }) (v := ?_) rfl (by kernel_rfl) (by kernel_rfl) (by kernel_rfl) (fun _ _ _ h => h) (Or.inl ⟨by rfl, ?_⟩) ?_
            rotate_left
            · (intro w; go_simp); (first | done | with_reducible rfl)
            try simp only [Act.put, List.setIfInBounds_toArray, List.set_cons_zero, List.set_cons_succ]
            refine wpAny_ready (rs := [13]) (by kernel_rfl) (by simp) ?_
            refine AllReady.cons (o := { dst := none, op := Op.store 32 (Operand.tmp 106) (Operand.tmp 101), type := 0, pos := "outright.go:50", after := #[{ on := 12, ground := Ground.data }, { on := 7, ground := Ground.data }, { on := 0, ground := Ground.phase }, { on := 1, ground := Ground.phase }, { on := 2, ground := Ground.textOnly Departure.lateStores }, { on := 3, ground := Ground.textOnly Departure.lateStores }, { on := 4, ground := Ground.phase }, { on := 5, ground := Ground.phase }, { on := 6, ground := Ground.phase }, { on := 7, ground := Ground.phase }, { on := 8, ground := Ground.textOnly Departure.lateStores }, { on := 9, ground := Ground.textOnly Departure.lateStores }, { on := 10, ground := Ground.textOnly Departure.lateStoresUnsure }, { on := 11, ground := Ground.phase }], guard := none }) rfl (fun K hK => ?_) AllReady.nil
            go_simp
            refine hK _ _ ?_
            clear hK K
            try simp only [Act.put, List.setIfInBounds_toArray, List.set_cons_zero, List.set_cons_succ]
            refine wpAny_take (i := 14) (oi := { dst := some 107, op := Op.indexAddr 22 (Operand.tmp 96) (Operand.tmp 97), type := 0, pos := "outright.go:50", after := #[{ on := 2, ground := Ground.data }, { on := 3, ground := Ground.data }, { on := 0, ground := Ground.phase }, { on := 1, ground := Ground.phase }, { on := 2, ground := Ground.phase }, { on := 3, ground := Ground.phase }, { on := 4, ground := Ground.phase }, { on := 5, ground := Ground.phase }, { on := 6, ground := Ground.phase }, { on := 7, ground := Ground.phase }, { on := 8, ground := Ground.phase }, { on := 9, ground := Ground.phase }, { on := 10, ground := Ground.phase }, { on := 11, ground := Ground.phase }, { on := 12, ground := Ground.phase }, { on := 13, ground := Ground.phase }], guard := none }) (v := ?_) rfl (by kernel_rfl) (by kernel_rfl) (by kernel_rfl) (fun _ _ _ h => h) (Or.inl ⟨by rfl, ?_⟩) ?_
            rotate_left
            · (intro w; go_simp); (first | done | with_reducible rfl)
            try simp only [Act.put, List.setIfInBounds_toArray, List.set_cons_zero, List.set_cons_succ]
            refine wpAny_ready (rs := [15]) (by kernel_rfl) (by simp) ?_
            refine AllReady.cons (o := { dst := none, op := Op.store 32 (Operand.tmp 107) (Operand.tmp 105), type := 0, pos := "outright.go:50", after := #[{ on := 14, ground := Ground.data }, { on := 11, ground := Ground.data }, { on := 13, ground := Ground.chain }, { on := 0, ground := Ground.phase }, { on := 1, ground := Ground.phase }, { on := 2, ground := Ground.phase }, { on := 3, ground := Ground.phase }, { on := 4, ground := Ground.phase }, { on := 5, ground := Ground.phase }, { on := 6, ground := Ground.phase }, { on := 7, ground := Ground.phase }, { on := 8, ground := Ground.phase }, { on := 9, ground := Ground.phase }, { on := 10, ground := Ground.phase }, { on := 11, ground := Ground.phase }, { on := 12, ground := Ground.phase }, { on := 13, ground := Ground.phase }], guard := none }) rfl (fun K hK => ?_) AllReady.nil
            go_simp
            refine hK _ _ ?_
            clear hK K
            try simp only [Act.put, List.setIfInBounds_toArray, List.set_cons_zero, List.set_cons_succ]
            refine wpAny_done (by kernel_rfl) ?_ _
            rotate_left
            go_simp
            refine hK _ _ ?_
            clear hK K
            try simp only [Act.put, List.setIfInBounds_toArray, List.set_cons_zero, List.set_cons_succ]
            refine wpAny_ready (rs := [7]) (by kernel_rfl) (by simp) ?_
            refine AllReady.cons (o := { dst := some 101, op := Op.load 32 (Operand.tmp 100), type := 32, pos := "outright.go:50", after := #[{ on := 6, ground := Ground.data }], guard := none }) rfl (fun K hK => ?_) AllReady.nil
            go_simp
            refine hK _ _ ?_
            clear hK K
            try simp only [Act.put, List.setIfInBounds_toArray, List.set_cons_zero, List.set_cons_succ]
            refine wpAny_take (i := 12) (oi := { dst := some 106, op := Op.indexAddr 22 (Operand.tmp 94) (Operand.tmp 95), type := 0, pos := "outright.go:50", after := #[{ on := 0, ground := Ground.data }, { on := 1, ground := Ground.data }, { on := 0, ground := Ground.phase }, { on := 1, ground := Ground.phase }, { on := 2, ground := Ground.textOnly Departure.lateStores }, { on := 3, ground := Ground.textOnly Departure.lateStores }, { on := 4, ground := Ground.phase }, { on := 5, ground := Ground.phase }, { on := 6, ground := Ground.phase }, { on := 7, ground := Ground.phase }, { on := 8, ground := Ground.textOnly Departure.lateStores }, { on := 9, ground := Ground.textOnly Departure.lateStores }, { on := 10, ground := Ground.textOnly Departure.lateStoresUnsure }, { on := 11, ground := Ground.phase }], guard := none }) (v := ?_) rfl (by kernel_rfl) (by kernel_rfl) (by kernel_rfl) (fun _ _ _ h => h) (Or.inl ⟨by rfl, ?_⟩) ?_
            rotate_left
            · (intro w; go_simp); (first | done | with_reducible rfl)
            try simp only [Act.put, List.setIfInBounds_toArray, List.set_cons_zero, List.set_cons_succ]
            refine wpAny_ready (rs := [13]) (by kernel_rfl) (by simp) ?_
            refine AllReady.cons (o := { dst := none, op := Op.store 32 (Operand.tmp 106) (Operand.tmp 101), type := 0, pos := "outright.go:50", after := #[{ on := 12, ground := Ground.data }, { on := 7, ground := Ground.data }, { on := 0, ground := Ground.phase }, { on := 1, ground := Ground.phase }, { on := 2, ground := Ground.textOnly Departure.lateStores }, { on := 3, ground := Ground.textOnly Departure.lateStores }, { on := 4, ground := Ground.phase }, { on := 5, ground := Ground.phase }, { on := 6, ground := Ground.phase }, { on := 7, ground := Ground.phase }, { on := 8, ground := Ground.textOnly Departure.lateStores }, { on := 9, ground := Ground.textOnly Departure.lateStores }, { on := 10, ground := Ground.textOnly Departure.lateStoresUnsure }, { on := 11, ground := Ground.phase }], guard := none }) rfl (fun K hK => ?_) AllReady.nil
            go_simp
            refine hK _ _ ?_
            clear hK K
            try simp only [Act.put, List.setIfInBounds_toArray, List.set_cons_zero, List.set_cons_succ]
            refine wpAny_take (i := 14) (oi := { dst := some 107, op := Op.indexAddr 22 (Operand.tmp 96) (Operand.tmp 97), type := 0, pos := "outright.go:50", after := #[{ on := 2, ground := Ground.data }, { on := 3, ground := Ground.data }, { on := 0, ground := Ground.phase }, { on := 1, ground := Ground.phase }, { on := 2, ground := Ground.phase }, { on := 3, ground := Ground.phase }, { on := 4, ground := Ground.phase }, { on := 5, ground := Ground.phase }, { on := 6, ground := Ground.phase }, { on := 7, ground := Ground.phase }, { on := 8, ground := Ground.phase }, { on := 9, ground := Ground.phase }, { on := 10, ground := Ground.phase }, { on := 11, ground := Ground.phase }, { on := 12, ground := Ground.phase }, { on := 13, ground := Ground.phase }], guard := none }) (v := ?_) rfl (by kernel_rfl) (by kernel_rfl) (by kernel_rfl) (fun _ _ _ h => h) (Or.inl ⟨by rfl, ?_⟩) ?_
            rotate_left
            · (intro w; go_simp); (first | done | with_reducible rfl)
            try simp only [Act.put, List.setIfInBounds_toArray, List.set_cons_zero, List.set_cons_succ]
            refine wpAny_ready (rs := [15]) (by kernel_rfl) (by simp) ?_
            refine AllReady.cons (o := { dst := none, op := Op.store 32 (Operand.tmp 107) (Operand.tmp 105), type := 0, pos := "outright.go:50", after := #[{ on := 14, ground := Ground.data }, { on := 11, ground := Ground.data }, { on := 13, ground := Ground.chain }, { on := 0, ground := Ground.phase }, { on := 1, ground := Ground.phase }, { on := 2, ground := Ground.phase }, { on := 3, ground := Ground.phase }, { on := 4, ground := Ground.phase }, { on := 5, ground := Ground.phase }, { on := 6, ground := Ground.phase }, { on := 7, ground := Ground.phase }, { on := 8, ground := Ground.phase }, { on := 9, ground := Ground.phase }, { on := 10, ground := Ground.phase }, { on := 11, ground := Ground.phase }, { on := 12, ground := Ground.phase }, { on := 13, ground := Ground.phase }], guard := none }) rfl (fun K hK => ?_) AllReady.nil
            go_simp
            refine hK _ _ ?_
            clear hK K
            try simp only [Act.put, List.setIfInBounds_toArray, List.set_cons_zero, List.set_cons_succ]
            refine wpAny_done (by kernel_rfl) ?_ _
            all_goals
              have hsw := HSWW.out
              have hbs := HBSS.out
            all_goals
              go_wp2_with fail
              with_reducible refine (CS5.out _ _ _ hsw).mono ?_
              rintro e w5 ⟨rfl, hbq⟩
              have HB5 := Lib.hid (below_step hbs hbq)
              clear hbq hsw hbs
              go_wp2_with fail
              with_reducible refine (CD.out _).mono ?_
              rintro e w6 ⟨rfl, hbq⟩
              replace HB5 := carry hbq HB5
              clear hbq
              go_wp2_with fail
              go_ret
              refine ⟨?_, HB5.out⟩
              show Ending.returned (.bool (!((a : Int) == (b : Int)))) = _
              rw [QAB.out]
              rfl

end Go.Proofs.Ytppkecilbkgbdaa
