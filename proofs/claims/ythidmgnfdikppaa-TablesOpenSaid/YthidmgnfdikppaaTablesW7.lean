/- Layer 10: TablesOpen, walked. -/
import Derived.Test.YthidmgnfdikppaaTablesW6
import Derived.Test.YthidmgnfdikppaaTablesW3
namespace Go.Proofs.Ythidmgnfdikppaa
set_option linter.unusedVariables false
open Go Go.RowKit
attribute [local go_sem ↓] run_index_S
attribute [local go_sem] S_append S_extract

set_option maxHeartbeats 8000000 in
set_option maxRecDepth 100000 in
theorem tablesOpen_calls (W : World) (text : List UInt8) (htl : text.length ≤ 140737488351232) (key : List UInt8) (hkl : key.length ≤ 140737488351232) (v2 : Value) (hv2 : U2s v2) :
    Calls Try.prog 4 #[.string (S text), .string (S key), v2] W fun e w' => e = .returned (.bool true) ∧ Below W.heap.size W w' := by
  obtain ⟨x, y, rfl⟩ := hv2
  have CD := Lib.hid does10
  have HB := Lib.hid ((Below.refl W.heap.size W).alloc (Nat.le_refl _) (.cells #[.string (S x), .string (S y)] 31))
  have HX := Lib.hid (rowIn_new #[.string (S x), .string (S y)] 31 W)
  have z0 := HX.out.cell 0
  have z1 := HX.out.cell 1
  go_enter Try.func4, Try.ntmps4
  by_cases q0 : 20000 < text.length
  · have d0 : decide ((20000 : Int) < (text.length : Int)) = true := by simp; omega
    go_wp2_with fail
    go_ret
    exact ⟨rfl, HB.out⟩
  have d0 : decide ((20000 : Int) < (text.length : Int)) = false := by simp; omega
  by_cases q1 : 1000 < key.length
  · have d1 : decide ((1000 : Int) < (key.length : Int)) = true := by simp; omega
    go_wp2_with fail
    go_ret
    exact ⟨rfl, HB.out⟩
  have d1 : decide ((1000 : Int) < (key.length : Int)) = false := by simp; omega
  by_cases q2 : 1000 < x.length
  · have d2 : decide ((1000 : Int) < (x.length : Int)) = true := by simp; omega
    go_wp2_with fail
    go_ret
    exact ⟨rfl, HB.out⟩
  have d2 : decide ((1000 : Int) < (x.length : Int)) = false := by simp; omega
  by_cases q3 : 1000 < y.length
  · have d3 : decide ((1000 : Int) < (y.length : Int)) = true := by simp; omega
    go_wp2_with fail
    go_ret
    exact ⟨rfl, HB.out⟩
  have d3 : decide ((1000 : Int) < (y.length : Int)) = false := by simp; omega
  have CO := Lib.hid (fun V => open10_any text (by omega) V)
  have CRO := Lib.hid (fun V => refOpen10_any text (by omega) V)
  unfold OpenR10 at CO
  unfold OpenD10 at CRO
  go_wp2_with fail
  clear z0 z1 d0 d1 d2 d3
  cases ho : M.openT text with
  | none =>
    rw [ho] at CO CRO
    simp only at CO CRO
    clear ho
    with_reducible refine (CO.out _).mono ?_
    rintro e w1 ⟨rfl, hbq⟩
    replace HX := carry hbq HX
    replace HB := carry hbq HB
    clear hbq
    go_wp2_with fail
    with_reducible refine (CRO.out _).mono ?_
    rintro e w2 ⟨rfl, hbq⟩
    replace HX := carry hbq HX
    replace HB := carry hbq HB
    clear hbq CO CRO
    have CGt := Lib.hid (fun V => get10_nil key V)
    have CGr : Hid (∀ V, Calls Try.prog 31 #[.slice none 0 0, .string (S key)] V fun e w' => FindR9 none V e w') := Lib.hid (fun V => refGet10_any [] (by simp) none 0 key V (clsAt_nil _ _))
    unfold FindR9 at CGt CGr
    simp only [Option.getD_none, Option.isSome_none] at CGt CGr
    generalize M.cl0 = cf at *
    have CLn := Lib.hid (fun V => len10_nil V)
    have CR1 := Lib.hid (fun V => range10_nil x y V)
    have CR2 : Hid (∀ V, Calls Try.prog 36 #[.slice none 0 0, .string (S x), .string (S y)] V fun e w' => ∃ a c, e = .returned (.slice a 0 c) ∧ ClsAt w' a [] ∧ Below V.heap.size V w') := Lib.hid (fun V => rng_clsN (refRange10_any [] (by simp) none 0 x y V (clsAt_nil _ _) (by simp) (by omega) (by omega)))
    have CAl := Lib.hid (fun V => all10_nil V)
    have CS := Lib.hid (fun V a b c d => sameN10 V [] a b c d 0 0 (clsAt_nil _ _) (clsAt_nil _ _) rfl rfl (by simp))
    go_wp2_with fail
    with_reducible refine (CGt.out _).mono ?_
    rintro e w3 ⟨rfl, hbq⟩
    replace HX := Lib.hid (HX.out.below hbq)
    replace HB := Lib.hid (below_step HB.out hbq)
    clear hbq CGt
    have HY := Lib.hid (rowIn_new (clA cf) 38 w3)
    have hal3 := (Below.refl w3.heap.size w3).alloc (Nat.le_refl _) (.cells (clA cf) 38)
    replace HX := Lib.hid (HX.out.below hal3)
    replace HB := Lib.hid (below_step HB.out hal3)
    clear hal3
    go_wp2_with fail
    with_reducible refine (CGr.out _).mono ?_
    rintro e w4 ⟨rfl, hbq⟩
    replace HX := Lib.hid (HX.out.below hbq)
    replace HB := Lib.hid (below_step HB.out hbq)
    replace HY := Lib.hid (HY.out.below hbq)
    clear hbq CGr
    have HZ := Lib.hid (rowIn_new (clA cf) 38 w4)
    have hal3 := (Below.refl w4.heap.size w4).alloc (Nat.le_refl _) (.cells (clA cf) 38)
    replace HX := Lib.hid (HX.out.below hal3)
    replace HB := Lib.hid (below_step HB.out hal3)
    replace HY := Lib.hid (HY.out.below hal3)
    clear hal3
    have z0 := HY.out.cell 0
    have z1 := HY.out.cell 1
    have z2 := HY.out.cell 2
    have y0 := HZ.out.cell 0
    have y1 := HZ.out.cell 1
    have y2 := HZ.out.cell 2
    have x0 := HX.out.cell 0
    have x1 := HX.out.cell 1
    go_wp2_with fail
    with_reducible refine (CR1.out _).mono ?_
    rintro e wA ⟨rfl, rfl⟩
    go_wp2_with fail
    with_reducible refine (CAl.out _).mono ?_
    rintro e wA ⟨rfl, rfl⟩
    go_wp2_with fail
    with_reducible refine (CLn.out _).mono ?_
    rintro e wL ⟨rfl, rfl⟩
    go_wp2_with fail
    with_reducible refine (CR2.out _).mono ?_
    rintro e w6 ⟨a6, c6, rfl, hc6, hbq⟩
    replace HB := Lib.hid (below_step HB.out hbq)
    clear hbq hc6 z0 z1 z2 y0 y1 y2 x0 x1 HX HY HZ CLn CR2
    go_wp2_with fail
    with_reducible refine (CS.out _ _ _ _ _).mono ?_
    rintro e w7 ⟨rfl, hbq⟩
    replace HB := Lib.hid (below_step HB.out hbq)
    clear hbq
    go_wp2_with fail
    with_reducible refine (CS.out _ _ _ _ _).mono ?_
    rintro e w8 ⟨rfl, hbq⟩
    replace HB := Lib.hid (below_step HB.out hbq)
    clear hbq
    go_wp2_with fail
    go_loopw [17] (fun i wr => i = .int .i64 0 ∧ wr = w8) (fun _ _ => 0)
    case atStart => exact ⟨rfl, rfl⟩
    case round =>
      obtain ⟨rfl, rfl⟩ := hrel
      go_wp2_with fail
      go_loopw [18] (fun i wx => i = .int .i64 0 ∧ wx = wr) (fun _ _ => 0)
      case atStart => exact ⟨rfl, rfl⟩
      case round =>
        obtain ⟨rfl, rfl⟩ := hrel
        go_wp2_with fail
        with_reducible refine (CAl.out _).mono ?_
        rintro e wA ⟨rfl, rfl⟩
        go_wp2_with fail
        with_reducible refine (CS.out _ _ _ _ _).mono ?_
        rintro e w9 ⟨rfl, hbq⟩
        replace HB := Lib.hid (below_step HB.out hbq)
        clear hbq
        go_wp2_with fail
        with_reducible refine (CD.out _).mono ?_
        rintro e w10 ⟨rfl, hbq⟩
        replace HB := Lib.hid (below_step HB.out hbq)
        clear hbq
        go_wp2_with fail
        go_ret
        exact ⟨rfl, HB.out⟩
  | some L =>
    have HI := Lib.hid (M.openT_is ho)
    have HS := Lib.hid HI.out.s
    have hl2 : L.length ≤ 4096 := HI.out.n
    have HQ : Hid (∀ c ∈ L, c.seq ≤ 9223372036854775807) := Lib.hid HI.out.q
    have HOK := Lib.hid (isT_oks HI.out)
    rw [ho] at CO CRO
    simp only at CO CRO
    clear ho
    with_reducible refine (CO.out _).mono ?_
    rintro e w1 ⟨⟨p, rfl, ht⟩, hbq⟩
    replace HX := carry hbq HX
    replace HB := carry hbq HB
    have HT := Lib.hid ht
    clear hbq ht
    go_wp2_with fail
    with_reducible refine (CRO.out _).mono ?_
    rintro e w2 ⟨⟨lo, lc, rfl, hlo⟩, hbq⟩
    replace HX := carry hbq HX
    have HE := Lib.hid (show Ep10 W L lo p w2 from ⟨below_step HB.out hbq, HT.out.below hbq, clsAt_own hlo rfl⟩)
    clear hbq hlo HB HT CO CRO
    have CGt := Lib.hid (fun V (h : TabAt L p V) => get10_any L p key V h HS.out (by omega) HQ.out (by omega))
    have CGr := Lib.hid (fun V (h : ClsAt V lo L) => refGet10_any L (by omega) lo lc key V h)
    unfold FindR9 at CGt CGr
    generalize (M.findL key L).getD M.cl0 = cf at *
    generalize (M.findL key L).isSome = is at *
    have CLn := Lib.hid (fun V (h : TabAt L p V) => len10_any L p V h (by omega))
    have CR1 := Lib.hid (fun V (h : TabAt L p V) => (range10_any L p x y V h HS.out (by omega) HQ.out (by omega) (by omega)).mono fun e w' h => rng_own h)
    have CR2 := Lib.hid (fun V (h : ClsAt V lo L) => rng_clsN (refRange10_any L (by omega) lo lc x y V h HOK.out (by omega) (by omega)))
    have CAl := Lib.hid (fun V (h : TabAt L p V) => (all10_any L p V h HS.out (by omega) HQ.out).mono fun e w' h => rng_own h)
    unfold RngO at CR1 CAl
    unfold RngC at CR2
    have hk1 := M.range_len x y L
    generalize M.rangeL x y L = K1 at *
    have CS := Lib.hid (fun V (A : List M.Cl) a b c d n m (h1 : ClsAt V a A) (h2 : ClsAt V b A) (hn : A.length = n) (hm : A.length = m) (hA : A.length ≤ 100000) => sameN10 V A a b c d n m h1 h2 hn hm hA)
    go_wp2_with fail
    with_reducible refine (CGt.out _ HE.out.t).mono ?_
    rintro e w3 ⟨rfl, hbq⟩
    replace HX := Lib.hid (HX.out.below hbq)
    replace HE := Lib.hid (HE.out.below hbq)
    clear hbq CGt
    have HY := Lib.hid (rowIn_new (clA cf) 38 w3)
    have hal3 := (Below.refl w3.heap.size w3).alloc (Nat.le_refl _) (.cells (clA cf) 38)
    replace HX := Lib.hid (HX.out.below hal3)
    replace HE := Lib.hid (HE.out.below hal3)
    clear hal3
    go_wp2_with fail
    with_reducible refine (CGr.out _ HE.out.c).mono ?_
    rintro e w4 ⟨rfl, hbq⟩
    replace HX := Lib.hid (HX.out.below hbq)
    replace HE := Lib.hid (HE.out.below hbq)
    replace HY := Lib.hid (HY.out.below hbq)
    clear hbq CGr
    have HZ := Lib.hid (rowIn_new (clA cf) 38 w4)
    have hal3 := (Below.refl w4.heap.size w4).alloc (Nat.le_refl _) (.cells (clA cf) 38)
    replace HX := Lib.hid (HX.out.below hal3)
    replace HE := Lib.hid (HE.out.below hal3)
    replace HY := Lib.hid (HY.out.below hal3)
    clear hal3
    have z0 := HX.out.cell 0
    have z1 := HX.out.cell 1
    go_wp2_with fail
    clear z0 z1
    obtain ⟨wS, hwS⟩ : ∃ v, v = w4.alloc (.cells #[.string (S cf.key), .int .i64 cf.seq, .string (S cf.val)] 38) := ⟨_, rfl⟩
    replace HE := Lib.hid (show Ep10 W L lo p wS from by rw [hwS]; exact HE.out)
    replace HX := Lib.hid (show RowIn #[.string (S x), .string (S y)] 31 wS W.heap.size from by rw [hwS]; exact HX.out)
    replace HY := Lib.hid (show RowIn (clA cf) 38 wS w3.heap.size from by rw [hwS]; exact HY.out)
    replace HZ := Lib.hid (show RowIn (clA cf) 38 wS w4.heap.size from by rw [hwS]; exact HZ.out)
    rw [← hwS]
    clear hwS
    have HES := HE
    with_reducible refine (CR1.out _ HE.out.t).mono ?_
    rintro e wA ⟨aS, cS, rfl, hoS, hbq⟩
    have HSA := Lib.hid hbq
    have HSR := Lib.hid hoS
    replace HX := Lib.hid (HX.out.below hbq)
    replace HY := Lib.hid (HY.out.below hbq)
    replace HZ := Lib.hid (HZ.out.below hbq)
    replace HE := Lib.hid (HE.out.below hbq)
    clear hbq hoS CR1
    go_wp2_with fail
    with_reducible refine (CAl.out _ HE.out.t).mono ?_
    rintro e w5 ⟨aA, cA, rfl, hoA, hbq⟩
    have HBA := Lib.hid hbq
    have HRA := Lib.hid hoA
    have HRS := Lib.hid (ownP_below HSR.out hbq)
    replace HX := Lib.hid (HX.out.below hbq)
    replace HY := Lib.hid (HY.out.below hbq)
    replace HZ := Lib.hid (HZ.out.below hbq)
    replace HE := Lib.hid (HE.out.below hbq)
    clear hbq hoA
    have z0 := HY.out.cell 0
    have z1 := HY.out.cell 1
    have z2 := HY.out.cell 2
    have y0 := HZ.out.cell 0
    have y1 := HZ.out.cell 1
    have y2 := HZ.out.cell 2
    have x0 := HX.out.cell 0
    have x1 := HX.out.cell 1
    go_wp2_with fail
    with_reducible refine (CLn.out _ HE.out.t).mono ?_
    rintro e wL ⟨rfl, rfl⟩
    go_wp2_with fail
    with_reducible refine (CR2.out _ HE.out.c).mono ?_
    rintro e w6 ⟨a6, c6, rfl, hc6, hbq⟩
    replace HBA := Lib.hid (below_step HBA.out hbq)
    replace HRA := Lib.hid (ownP_below HRA.out hbq)
    replace HRS := Lib.hid (ownP_below HRS.out hbq)
    replace HE := Lib.hid (HE.out.below hbq)
    have HM := Lib.hid hc6
    clear hbq hc6 z0 z1 z2 y0 y1 y2 x0 x1 HX HY HZ CLn CR2
    go_wp2_with fail
    with_reducible refine (CS.out _ _ _ _ _ _ _ _ (clsAt_own HRS.out rfl) HM.out rfl rfl (by omega)).mono ?_
    rintro e w7 ⟨rfl, hbq⟩
    replace HBA := Lib.hid (below_step HBA.out hbq)
    replace HRA := Lib.hid (ownP_below HRA.out hbq)
    replace HE := Lib.hid (HE.out.below hbq)
    clear hbq HM HRS
    go_wp2_with fail
    with_reducible refine (CS.out _ _ _ _ _ _ _ _ (clsAt_own HRA.out rfl) HE.out.c rfl rfl (by omega)).mono ?_
    rintro e w8 ⟨rfl, hbq⟩
    replace HBA := Lib.hid (below_step HBA.out hbq)
    replace HRA := Lib.hid (ownP_below HRA.out hbq)
    replace HE := Lib.hid (HE.out.below hbq)
    clear hbq
    go_wp2_with fail
    go_loopw [17] (fun i wr => ∃ k : Nat, k ≤ L.length ∧ i = .int .i64 k ∧ Hid (∀ g, aA = some ⟨g, 0, none⟩ → RoomC (L.length * 3) wr g ∧ wA.heap.size ≤ g) ∧ Hid (Below wA.heap.size wA wr)) (fun i _ => L.length - (intOf i).toNat)
    case atStart => exact ⟨0, by omega, rfl, Lib.hid (fun g hg => by
      have h1 := roomC_own (hg ▸ HRA.out)
      exact ⟨h1.1, h1.2.1⟩), HBA⟩
    case round =>
      obtain ⟨k, hk, rfl, HGr, HBr⟩ := hrel
      by_cases hlt : k < L.length
      · have d2 : decide ((k : Int) < (L.length : Int)) = true := by simp; omega
        have hki : (k : Int) < (L.length : Int) := by omega
        obtain ⟨g, hao⟩ := ownC_addr HRA.out (by omega)
        obtain ⟨hroom, hg1⟩ := HGr.out g hao
        subst hao
        obtain ⟨v0, c0⟩ := hroom.cell (k * 3) (by omega)
        obtain ⟨v1, c1⟩ := hroom.cell (k * 3 + 1) (by omega)
        obtain ⟨v2, c2⟩ := hroom.cell (k * 3 + 2) (by omega)
        have n0 := hroom.free (k * 3)
        have n1 := hroom.free (k * 3 + 1)
        have n2 := hroom.free (k * 3 + 2)
        have HRM := Lib.hid hroom
        clear hroom
        go_wp2_with fail
        go_roundw
        case rel => exact ⟨k + 1, by omega, by go_num, Lib.hid (fun g' hg' => by
          cases hg'
          exact ⟨((HRM.out.set _ _).set _ _).set _ _, hg1⟩), Lib.hid (((HBr.out.setCell (p := ⟨g, _, none⟩) hg1 _).setCell (p := ⟨g, _, none⟩) hg1 _).setCell (p := ⟨g, _, none⟩) hg1 _)⟩
        case measure => simp [intOf]; omega
      · obtain rfl : k = L.length := by omega
        have d2 : decide ((L.length : Int) < (L.length : Int)) = false := by simp
        have HB0 := Lib.hid (below_step HSA.out HBr.out)
        have HR := Lib.hid (ownP_below HSR.out HBr.out)
        clear HGr HBr HSA HSR HRA HBA d2
        clear hk
        go_wp2_with fail
        go_loopw [18] (fun i wr => ∃ k : Nat, k ≤ K1.length ∧ i = .int .i64 k ∧ Hid (∀ g, aS = some ⟨g, 0, none⟩ → RoomC (K1.length * 3) wr g ∧ wS.heap.size ≤ g) ∧ Hid (Below wS.heap.size wS wr)) (fun i _ => K1.length - (intOf i).toNat)
        case atStart => exact ⟨0, by omega, rfl, Lib.hid (fun g hg => by
          have h1 := roomC_own (hg ▸ HR.out)
          exact ⟨h1.1, h1.2.1⟩), HB0⟩
        case round =>
          obtain ⟨k, hk, rfl, HGr, HBr⟩ := hrel
          by_cases hlt : k < K1.length
          · have d2 : decide ((k : Int) < (K1.length : Int)) = true := by simp; omega
            have hki : (k : Int) < (K1.length : Int) := by omega
            obtain ⟨g, hao⟩ := ownC_addr HR.out (by omega)
            obtain ⟨hroom, hg1⟩ := HGr.out g hao
            subst hao
            obtain ⟨v0, c0⟩ := hroom.cell (k * 3) (by omega)
            obtain ⟨v1, c1⟩ := hroom.cell (k * 3 + 1) (by omega)
            obtain ⟨v2, c2⟩ := hroom.cell (k * 3 + 2) (by omega)
            have n0 := hroom.free (k * 3)
            have n1 := hroom.free (k * 3 + 1)
            have n2 := hroom.free (k * 3 + 2)
            have HRM := Lib.hid hroom
            clear hroom
            go_wp2_with fail
            go_roundw
            case rel => exact ⟨k + 1, by omega, by go_num, Lib.hid (fun g' hg' => by
              cases hg'
              exact ⟨((HRM.out.set _ _).set _ _).set _ _, hg1⟩), Lib.hid (((HBr.out.setCell (p := ⟨g, _, none⟩) hg1 _).setCell (p := ⟨g, _, none⟩) hg1 _).setCell (p := ⟨g, _, none⟩) hg1 _)⟩
            case measure => simp [intOf]; omega
          · obtain rfl : k = K1.length := by omega
            have d2 : decide ((K1.length : Int) < (K1.length : Int)) = false := by simp
            replace HE := Lib.hid (HES.out.below HBr.out)
            clear HGr HES HR HB0
            go_wp2_with fail
            with_reducible refine (CAl.out _ HE.out.t).mono ?_
            rintro e w20 ⟨a20, c20, rfl, ho20, hb20⟩
            replace HE := Lib.hid (HE.out.below hb20)
            have HM := Lib.hid (clsAt_own ho20 rfl)
            clear hb20 ho20
            go_wp2_with fail
            with_reducible refine (CS.out _ _ _ _ _ _ _ _ HM.out HE.out.c rfl rfl (by omega)).mono ?_
            rintro e w21 ⟨rfl, hb21⟩
            replace HE := Lib.hid (HE.out.below hb21)
            clear hb21 HM
            go_wp2_with fail
            with_reducible refine (CD.out _).mono ?_
            rintro e w22 ⟨rfl, hb22⟩
            replace HE := Lib.hid (HE.out.below hb22)
            clear hb22
            go_wp2_with fail
            go_ret
            exact ⟨rfl, HE.out.b⟩

end Go.Proofs.Ythidmgnfdikppaa
