/- Layer 15: MemoryOrder. -/
import Derived.Test.YthidmgnfdikppaaMemU
import Derived.Test.YthidmgnfdikppaaMemW
import Derived.Test.YthidmgnfdikppaaBlocksL
import Derived.Test.YthidmgnfdikppaaLast
import Derived.BigQuiet
import Derived.Deep.RegionHeld3
namespace Go.Proofs.Ythidmgnfdikppaa
set_option linter.unusedVariables false
set_option linter.unusedSimpArgs false
open Go Go.RowKit
attribute [local go_sem ↓] run_index_S
attribute [local go_sem] S_append S_extract

theorem M.one_of {L : List M.Cl} (h : ∀ a b, a < b → b < L.length → M.sameC (L.getD a M.cl0) (L.getD b M.cl0) = false) : M.One L := fun x hx y hy hs => by
  obtain ⟨a, ha, ea⟩ := List.getElem_of_mem hx
  obtain ⟨b, hb, eb⟩ := List.getElem_of_mem hy
  have ga := M.gD15 L a M.cl0 ha
  have gb := M.gD15 L b M.cl0 hb
  rcases Nat.lt_trichotomy a b with q | q | q
  · have := h a b q hb
    rw [ga, gb, ea, eb, hs] at this
    cases this
  · subst q
    rw [← ea, ← eb]
  · have := h b a q ha
    rw [ga, gb, ea, eb] at this
    obtain ⟨h1, h2⟩ := M.sameC_iff.1 hs
    rw [M.sameC_iff.2 ⟨h1.symm, h2.symm⟩] at this
    cases this
theorem M.sw_perm {L : List M.Cl} {a b : Nat} (ha : a < L.length) (hb : b < L.length) : (M.sw L a b).Perm L := by
  have e1 : L.getD b M.cl0 = L[b] := by simp [List.getD, hb]
  have e2 : L.getD a M.cl0 = L[a] := by simp [List.getD, ha]
  rw [M.sw, e1, e2]
  exact List.set_set_perm ha hb
/-- An append of cells that stand somewhere, as a step of a region that draws its order. -/
theorem step_append_cls15 {w : World} {ops : Array Oper} {o : Oper} {a : Act} {K : Act → World → Prop} {Q : Exit → Act → World → Prop} {E : Prop} (hgd : o.guard = none) (s x : Operand) (t : TypeId)
    (hop : o.op = .call { callee := .builtin .append, args := #[s, x], argTypes := #[t, t] })
    (base : Nat) (i : TypeInfo) (z : Value) (ht : Try.prog.underlying t = some (.slice 38)) (hi : Try.prog.info? 38 = some i) (hz : i.zero = some z) (h1 : i.size = 3) (h2 : i.bytes = 40) (h3 : z.cells.size = 3)
    (v : Value) (n : Nat) (xs : List Value) (hv : a.eval s = v) (ho : w.ownsRow base 38 3 v n xs) (ao : Option Addr) (c m : Nat) (L : List M.Cl) (hx : a.eval x = .slice ao m c) (hm : m = L.length) (hs : ClsAt w ao L) (h63 : n + L.length ≤ 1000000) (hbase : base ≤ w.heap.size)
    (h : ∀ v' w', w'.ownsRow base 38 3 v' (n + L.length) (xs ++ cls L) → w.grownBy w' v.ownBlock → (v'.ownBlock = v.ownBlock ∨ v'.ownBlock = some w.heap.size) → K (a.put o.dst v') w') :
    if Region.wanted o (yielded ops a.tmps) = true then Oper.wp Try.prog o a w K Q else E := by
  have hw : Region.wanted o (yielded ops a.tmps) = true := by simp [Region.wanted, hgd]
  rw [if_pos hw]
  subst hm
  obtain ⟨v', w', hrun, h5, h6, h7⟩ := append_cls_at w base t o.type i z ht hi hz h1 h2 h3 v n xs ho ao c L hs h63 hbase
  unfold Oper.wp execOp
  simp only [hop, resolve, invoke, builtin, Sem.run_bind, Sem.run_pure, Result.andThen_ok, List.map_toArray, List.map_cons, List.map_nil, hv, hx, hrun]
  exact h v' w' h5 h6 h7
theorem clsAt_take15 {w : World} {ao : Option Addr} {L : List M.Cl} (h : ClsAt w ao L) (q : Nat) : ClsAt w ao (L.take q) := fun hn => by
  have hL : L ≠ [] := fun e => hn (by rw [e]; simp)
  obtain ⟨g, off, e, hc⟩ := h hL
  refine ⟨g, off, e, fun j hj => ?_⟩
  rw [List.length_take] at hj
  have e2 : (L.take q).getD j M.cl0 = L.getD j M.cl0 := by simp [List.getD, show j < q from by omega]
  rw [e2]
  exact hc j (by omega)
theorem clsAt_drop15 {w : World} {g off : Nat} {L : List M.Cl} (h : ClsAt w (some ⟨g, off, none⟩) L) (q : Nat) : ClsAt w (some ⟨g, off + q * 3, none⟩) (L.drop q) := fun hn => by
  have hL : L ≠ [] := fun e => hn (by rw [e]; simp)
  obtain ⟨g', off', e, hc⟩ := h hL
  cases e
  refine ⟨g, off + q * 3, rfl, fun j hj => ?_⟩
  rw [List.length_drop] at hj
  have e2 : (L.drop q).getD j M.cl0 = L.getD (q + j) M.cl0 := by simp [List.getD]
  have h2 := hc (q + j) (by omega)
  rw [e2, show off + q * 3 + j * 3 = off + (q + j) * 3 from by omega]
  exact h2

set_option maxHeartbeats 8000000 in
set_option maxRecDepth 100000 in
theorem memoryOrder_calls (W : World) (v : Value) (hv : UCs W v) (turn : Int) (wt : (Lit.int .u8 turn).wf = true) (back : Bool) :
    Calls Try.prog 19 #[v, .int .u8 turn, .bool back] W fun e w' => e = .returned (.bool true) ∧ Below W.heap.size W w' := by
  obtain ⟨L, ao, cap, rfl, hl, hi, hc, hL⟩ := hv
  obtain ⟨hu0, hu1⟩ := u8_wf9 wt
  obtain ⟨i0, z0, hi0, hz0, hz1, hz2, hz3⟩ := infoCl_parts
  have CG := Lib.hid (show Calls Try.prog 22 #[.slice ao L.length cap, .int .i64 200] W fun e w' => GreatR9 L 200 W e w' from great9_any L cap 200 (by omega) hL hl)
  unfold GreatR9 at CG
  have CD := Lib.hid does15_any
  have HB := Lib.hid (Below.refl W.heap.size W)
  have HL := Lib.hid hL
  have HI := Lib.hid hi
  clear hL hi wt
  go_enter Try.func19, Try.ntmps19
  go_wp2_with fail
  with_reducible refine CG.out.mono ?_
  rintro e w0 ⟨rfl | ⟨rfl, hsm⟩, rfl⟩
  · go_wp2_with fail
    with_reducible refine (CD.out _).mono ?_
    rintro e wF ⟨rfl, hbq⟩
    replace HB := carry hbq HB
    clear hbq
    go_wp2_with fail
    go_ret
    exact ⟨rfl, HB.out⟩
  by_cases h0 : L.length = 0
  · have d0 : ((L.length : Int) == 0) = true := by rw [beq_iff_eq]; omega
    have d0' : (L.length == 0) = true := by rw [beq_iff_eq]; omega
    go_wp2_with fail
    with_reducible refine (CD.out _).mono ?_
    rintro e wF ⟨rfl, hbq⟩
    replace HB := carry hbq HB
    clear hbq
    go_wp2_with fail
    go_ret
    exact ⟨rfl, HB.out⟩
  have d0 : ((L.length : Int) == 0) = false := by rw [beq_eq_false_iff_ne]; omega
  have d0' : (L.length == 0) = false := by rw [beq_eq_false_iff_ne]; omega
  have HOK := Lib.hid (hsm.oks HI.out)
  have h200 := hsm.1
  obtain ⟨g, o, rfl, hcl⟩ := HL.out (fun e => by rw [e] at h0; exact h0 rfl)
  have HCL := Lib.hid hcl
  clear hsm CG hcl
  go_wp2_with fail
  go_loopw [7] (fun v7 wr => ∃ (i : Nat), i ≤ L.length ∧ v7 = .int .i64 i ∧ Hid (∀ a b, a < b → b < i → M.sameC (L.getD a M.cl0) (L.getD b M.cl0) = false) ∧ Hid (Below W.heap.size W wr)) (fun v _ => L.length - (intOf v).toNat)
  case atStart => exact ⟨0, Nat.zero_le _, rfl, Lib.hid (fun a b h1 h2 => by omega), HB⟩
  case round =>
    clear HB
    obtain ⟨i, hi_, rfl, HO, HB⟩ := hrel
    by_cases hlt : i < L.length
    · have d2 : decide ((i : Int) < (L.length : Int)) = true := by simp; omega
      have d3 : decide (i < L.length) = true := by simp; omega
      have hii : (i : Int) < (L.length : Int) := by omega
      go_wp2_with fail
      go_loopw [8] (fun v8 wr => ∃ (k : Nat), k ≤ i ∧ v8 = .int .i64 k ∧ Hid (∀ a, a < k → M.sameC (L.getD a M.cl0) (L.getD i M.cl0) = false) ∧ Hid (Below W.heap.size W wr)) (fun v _ => i - (intOf v).toNat)
      case atStart => exact ⟨0, Nat.zero_le _, rfl, Lib.hid (fun a h => by omega), HB⟩
      case round =>
        clear HB
        obtain ⟨k, hk, rfl, HK, HB⟩ := hrel
        by_cases hlk : k < i
        · have d4 : decide ((k : Int) < (i : Int)) = true := by simp; omega
          have d5 : decide (k < i) = true := by simp; omega
          have hkl : (k : Int) < (L.length : Int) := by omega
          obtain ⟨x0, x1, x2⟩ := (HCL.out k (by omega)).below HB.out
          obtain ⟨y0, y1, y2⟩ := (HCL.out i hlt).below HB.out
          have HSS := Lib.hid (show M.sameC (L.getD k M.cl0) (L.getD i M.cl0) = ((L.getD k M.cl0).key == (L.getD i M.cl0).key && (L.getD k M.cl0).seq == (L.getD i M.cl0).seq) from rfl)
          have HST := Lib.hid (show M.sameC (L.getD k M.cl0) (L.getD i M.cl0) = false → ∀ a, a < k + 1 → M.sameC (L.getD a M.cl0) (L.getD i M.cl0) = false from fun h a ha => by
            rcases Nat.lt_or_ge a k with q | q
            · exact HK.out a q
            · obtain rfl : a = k := by omega
              exact h)
          generalize hcc : L.getD k M.cl0 = c at *
          generalize hdd : L.getD i M.cl0 = d at *
          clear hcc hdd
          by_cases hkey : c.key = d.key
          · have b1 : (c.key == d.key) = true := by simpa using hkey
            by_cases hseq : c.seq = d.seq
            · have b2 : (c.seq == d.seq) = true := by simpa using hseq
              clear HST hkey hseq x2 y2
              go_wp2_with fail
              go_quiet (fail)
              have hbq : Below wr.heap.size wr (wr.drewN nq) := below_drewN (Below.refl _ _) nq
              obtain ⟨wq, hwq⟩ : ∃ x, x = wr.drewN nq := ⟨_, rfl⟩
              rw [← hwq] at hbq ⊢
              replace HB := carry hbq HB
              clear hwq hbq x0 x1 y0 y1
              go_wp2_with fail
              with_reducible refine (CD.out _).mono ?_
              rintro e wF ⟨rfl, hbq⟩
              replace HB := carry hbq HB
              clear hbq
              go_wp2_with fail
              go_ret
              exact ⟨rfl, HB.out⟩
            · have b2 : (c.seq == d.seq) = false := by rw [beq_eq_false_iff_ne]; exact hseq
              have HST2 := Lib.hid (HST.out (by rw [HSS.out, b1, b2]; rfl))
              clear hkey hseq HST x2 y2
              go_wp2_with fail
              go_quiet (fail)
              have hbq : Below wr.heap.size wr (wr.drewN nq) := below_drewN (Below.refl _ _) nq
              obtain ⟨wq, hwq⟩ : ∃ x, x = wr.drewN nq := ⟨_, rfl⟩
              rw [← hwq] at hbq ⊢
              replace HB := carry hbq HB
              clear hwq hbq x0 x1 y0 y1
              go_wp2_with fail
              go_roundw
              case rel => exact ⟨k + 1, by omega, by go_num, HST2, HB⟩
              case measure => simp [intOf]; omega
          · have b1 : (c.key == d.key) = false := by rw [beq_eq_false_iff_ne]; exact hkey
            have HST2 := Lib.hid (HST.out (by rw [HSS.out, b1]; rfl))
            clear hkey HST x2 y2
            go_wp2_with fail
            go_quiet (fail)
            have hbq : Below wr.heap.size wr (wr.drewN nq) := below_drewN (Below.refl _ _) nq
            obtain ⟨wq, hwq⟩ : ∃ x, x = wr.drewN nq := ⟨_, rfl⟩
            rw [← hwq] at hbq ⊢
            replace HB := carry hbq HB
            clear hwq hbq x0 x1 y0 y1
            go_wp2_with fail
            go_roundw
            case rel => exact ⟨k + 1, by omega, by go_num, HST2, HB⟩
            case measure => simp [intOf]; omega
        · obtain rfl : k = i := by omega
          have d4 : decide ((k : Int) < (k : Int)) = false := by simp
          have d5 : decide (k < k) = false := by simp
          have HO2 := Lib.hid (show ∀ a b, a < b → b < k + 1 → M.sameC (L.getD a M.cl0) (L.getD b M.cl0) = false from fun a b h1 h2 => by
            rcases Nat.lt_or_ge b k with q | q
            · exact HO.out a b h1 q
            · obtain rfl : b = k := by omega
              exact HK.out a h1)
          clear HO HK
          go_wp2_with fail
          go_roundw
          case rel => exact ⟨k + 1, by omega, by go_num, HO2, HB⟩
          case measure => simp [intOf]; omega
    · obtain rfl : i = L.length := by omega
      have d2 : decide ((L.length : Int) < (L.length : Int)) = false := by simp
      have d3 : decide (L.length < L.length) = false := by simp
      have HONE := Lib.hid (M.one_of HO.out)
      clear HO
      obtain ⟨q, hq⟩ : ∃ q : Nat, q = turn.toNat % L.length := ⟨_, rfl⟩
      have hql : q < L.length := by rw [hq]; exact Nat.mod_lt _ (by omega)
      have ek : turn.tmod (L.length : Int) = (q : Int) := by
        rw [Int.tmod_eq_emod_of_nonneg hu0, hq]
        have h1 : (turn.toNat : Int) = turn := Int.toNat_of_nonneg hu0
        rw [Int.natCast_emod, h1]
      have hz1' : ¬ ((L.length : Int) = 0) := by omega
      have hz2' : ((L.length : Int) == 0) = false := by rw [beq_eq_false_iff_ne]; omega
      have hcq : ¬ cap = q := by omega
      have bq0 : (0 : Int) ≤ (q : Int) := by omega
      have bq1 : (q : Int) ≤ (L.length : Int) := by omega
      have bq2 : (L.length : Int) ≤ (cap : Int) := by omega
      have bq3 : (q : Int) ≤ (cap : Int) := by omega
      have HLr := Lib.hid (HL.out.below HB.out)
      have HS0 := Lib.hid (show ∀ V, Below wr.heap.size wr V → ClsAt V (some ⟨g, o, none⟩) (L.take q) from fun V hV => clsAt_take15 (HLr.out.below hV) q)
      have HS1 := Lib.hid (show ∀ V, Below wr.heap.size wr V → ClsAt V (some ⟨g, o + q * 3, none⟩) (L.drop q) from fun V hV => clsAt_drop15 (HLr.out.below hV) q)
      have e0 : (L.take q).length = q := by rw [List.length_take]; omega
      have e1 : (L.drop q).length = L.length - q := List.length_drop ..
      have HE0 := Lib.hid e0
      have HE1 := Lib.hid e1
      have HET := Lib.hid (show (L.drop q ++ L.take q).length = L.length from by rw [List.length_append, e0, e1]; omega)
      have HPm := Lib.hid (show (L.drop q ++ L.take q).Perm L from by
        have h := List.perm_append_comm (l₁ := L.drop q) (l₂ := L.take q)
        rwa [List.take_append_drop] at h)
      have CP1 := Lib.hid (fun V (h : ClsAt V (some ⟨g, o, none⟩) L) => puts15_any (some ⟨g, o, none⟩) cap L V h HOK.out (by omega))
      unfold PutsR at CP1
      clear hq e0 e1
      go_wp2_with fail
      go_region_held3 (fun _ => True) (trivial) (first
        | (have _t := HO1; clear _t; refine step_append_cls15 (by rfl) _ _ 22 (by rfl) wr.heap.size i0 z0 Try.underlying22 hi0 hz0 hz1 hz2 hz3 (.slice ao1 (L.length - q) cap1) (L.length - q) (cls (L.drop q)) (by rfl) HO1.out (some ⟨g, o, none⟩) cap q (L.take q) (by rfl) HE0.out.symm (HS0.out w3 HB3.out) (by rw [HE0.out]; omega) HB3.out.size ?_; intro v4 w4 ho4 hg4 _; have HO4 := Lib.hid (show w4.ownsRow wr.heap.size 38 3 v4 L.length (cls (L.drop q ++ L.take q)) from by rw [cls_append]; rw [HE0.out, show L.length - q + q = L.length from (by omega)] at ho4; exact ho4); have HB4 := Lib.hid (HB3.out.grown hg4 HB3.out.size (fun q hq => (HO1.out.lt q hq).1)); clear ho4 hg4)
        | (refine step_append_cls15 (by rfl) _ _ 22 (by rfl) wr.heap.size i0 z0 Try.underlying22 hi0 hz0 hz1 hz2 hz3 (.slice (some ⟨wr.heap.size, 0, none⟩) 0 0) 0 [] (by rfl) (World.ownsRow_made wr #[] 0 (Nat.le_refl _) (by unfold maxLen; omega) rfl) (some ⟨g, o + q * 3, none⟩) (cap - q) (L.length - q) (L.drop q) (by rfl) HE1.out.symm (HS1.out _ ((Below.refl wr.heap.size wr).alloc (Nat.le_refl _) _).drew) (by rw [HE1.out]; omega) (by show wr.heap.size ≤ (wr.alloc _).heap.size; rw [szA]; exact Nat.le_succ _) ?_; intro v3 w3 ho3 hg3 _; rw [Nat.zero_add, List.nil_append, HE1.out] at ho3; obtain ⟨ao1, cap1, rfl⟩ := ownP_shape ho3; have HO1 := Lib.hid ho3; have HB3 := Lib.hid ((((Below.refl wr.heap.size wr).alloc (Nat.le_refl _) _).drew).grown hg3 (by show wr.heap.size ≤ (wr.alloc _).heap.size; rw [szA]; exact Nat.le_succ _) (fun q hq => by cases hq; exact Nat.le_refl _)); clear ho3 hg3))
      obtain ⟨aoT, capT, rfl⟩ := ownP_shape HO4.out
      obtain ⟨gT, rfl⟩ := ownC_addr HO4.out (by omega)
      obtain ⟨hroom, hgT, _⟩ := roomC_own HO4.out
      have HRM := Lib.hid hroom
      have HC4 := Lib.hid (clsAt_own HO4.out HET.out.symm)
      have HGT := Lib.hid hgT
      generalize L.drop q ++ L.take q = Q at *
      clear hroom HO4 HO1 HB3 HS0 HS1 hcq ek bq0 bq1 bq2 bq3 HE0 HE1 HCL
      clear HL
      cases back with
      | true =>
        go_wp2_with fail
        have hdq : Int.tdiv (L.length : Int) 2 = ((L.length / 2 : Nat) : Int) := by rw [Int.tdiv_eq_ediv_of_nonneg (by omega)]; rfl
        have HLr0 := HLr
        have HB0 := HB
        clear HLr HB
        go_loopw [11] (fun i wq => ∃ (k : Nat) (Q : List M.Cl), i = .int .i64 k ∧ k ≤ L.length / 2 ∧ Hid (Q.length = L.length) ∧ Hid (Q.Perm L) ∧ Hid (ClsAt wq (some ⟨gT, 0, none⟩) Q) ∧ Hid (RoomC (L.length * 3) wq gT) ∧ Hid (Below wr.heap.size wr wq)) (fun i _ => L.length - (intOf i).toNat)
        case atStart => exact ⟨0, Q, rfl, Nat.zero_le _, HET, HPm, HC4, HRM, HB4⟩
        case round =>
          clear HPm HC4 HRM HB4 HET
          obtain ⟨k, Q, rfl, hk, HQl, HPm, HC4, HRM, HB4⟩ := hrel
          by_cases hlt2 : k < L.length / 2
          · have hki : (k : Int) < ((L.length / 2 : Nat) : Int) := by omega
            have hkn : (k : Int) < (L.length : Int) := by omega
            obtain ⟨m, hm⟩ : ∃ m, m = L.length - 1 - k := ⟨_, rfl⟩
            have hmn : (m : Int) < (L.length : Int) := by omega
            have hm0 : (0 : Int) ≤ (m : Int) := by omega
            have hkm : ¬ (k = m) := by omega
            have hmk : ¬ (m = k) := by omega
            have ew1 : IntKind.i64.wrap ((L.length : Int) - 1) = ((L.length - 1 : Nat) : Int) := by rw [IntWalk.i64_in _ (by omega)]; omega
            have ew2 : IntKind.i64.wrap (((L.length - 1 : Nat) : Int) - (k : Int)) = (m : Int) := by rw [IntWalk.i64_in _ (by omega)]; omega
            have HSw := Lib.hid (M.sw_perm (L := Q) (a := k) (b := m) (by rw [HQl.out]; omega) (by rw [HQl.out]; omega))
            have HSC := Lib.hid (clsAt_sw HRM.out (by rw [HQl.out]; exact Nat.le_refl _) HC4.out (a := k) (b := m) (by rw [HQl.out]; omega) (by rw [HQl.out]; omega))
            obtain ⟨x0, x1, x2⟩ := clsAt_at0 HC4.out k (by rw [HQl.out]; omega)
            obtain ⟨y0, y1, y2⟩ := clsAt_at0 HC4.out m (by rw [HQl.out]; omega)
            have n0 := HRM.out.free (k * 3)
            have n1 := HRM.out.free (k * 3 + 1)
            have n2 := HRM.out.free (k * 3 + 2)
            have m0 := HRM.out.free (m * 3)
            have m1 := HRM.out.free (m * 3 + 1)
            have m2 := HRM.out.free (m * 3 + 2)
            have HR2 := Lib.hid (store3_room (o := m * 3) (store3_room (o := k * 3) HRM.out (Q.getD m M.cl0)) (Q.getD k M.cl0))
            have HBS := Lib.hid ((((((HB4.out.setCell (p := ⟨gT, k * 3, none⟩) HGT.out (.string (S (Q.getD m M.cl0).key))).setCell (p := ⟨gT, k * 3 + 1, none⟩) HGT.out (.int .i64 (Q.getD m M.cl0).seq)).setCell (p := ⟨gT, k * 3 + 2, none⟩) HGT.out (.string (S (Q.getD m M.cl0).val))).setCell (p := ⟨gT, m * 3, none⟩) HGT.out (.string (S (Q.getD k M.cl0).key))).setCell (p := ⟨gT, m * 3 + 1, none⟩) HGT.out (.int .i64 (Q.getD k M.cl0).seq)).setCell (p := ⟨gT, m * 3 + 2, none⟩) HGT.out (.string (S (Q.getD k M.cl0).val)))
            unfold store3 at HSC HR2
            have HSL := Lib.hid ((M.sw_len Q k m).trans HQl.out)
            generalize M.sw Q k m = Q2 at *
            generalize Q.getD k M.cl0 = c at *
            generalize Q.getD m M.cl0 = d at *
            clear hm hk
            go_wp2_with fail
            refine wp_region_Z (S := fun V => V.cell? ⟨gT, k * 3, none⟩ = some (.string (S c.key)) ∧ V.cell? ⟨gT, k * 3 + 1, none⟩ = some (.int .i64 c.seq) ∧ V.cell? ⟨gT, k * 3 + 2, none⟩ = some (.string (S c.val)) ∧ V.cell? ⟨gT, m * 3, none⟩ = some (.string (S d.key)) ∧ V.cell? ⟨gT, m * 3 + 1, none⟩ = some (.int .i64 d.seq) ∧ V.cell? ⟨gT, m * 3 + 2, none⟩ = some (.string (S d.val))) 21 (by kernel_rfl) ?_ (fun hHeld => ?_)
            · exact ⟨x0, x1, x2, y0, y1, y2⟩
            refine wpAnyZ_takeY (i := 0) (oi := { dst := some 78, op := Op.move (Operand.tmp 10), type := 22, pos := "outright.go:66", after := #[], guard := none }) (v := ?_) rfl (by kernel_rfl) (by kernel_rfl) (by kernel_rfl) (by rfl) (fun _ _ _ h => h) (Or.inl ⟨by rfl, ?_⟩) (by assumption) ?_
            rotate_left
            · (intro w; go_simp); (first | done | with_reducible rfl)
            try simp only [Act.put, List.setIfInBounds_toArray, List.set_cons_zero, List.set_cons_succ]
            refine wpAnyZ_takeY (i := 1) (oi := { dst := some 79, op := Op.move (Operand.tmp 11), type := 3, pos := "outright.go:66", after := #[], guard := none }) (v := ?_) rfl (by kernel_rfl) (by kernel_rfl) (by kernel_rfl) (by rfl) (fun _ _ _ h => h) (Or.inl ⟨by rfl, ?_⟩) (by assumption) ?_
            rotate_left
            · (intro w; go_simp); (first | done | with_reducible rfl)
            try simp only [Act.put, List.setIfInBounds_toArray, List.set_cons_zero, List.set_cons_succ]
            refine wpAnyZ_takeY (i := 2) (oi := { dst := some 80, op := Op.move (Operand.tmp 10), type := 22, pos := "outright.go:66", after := #[{ on := 21, ground := Ground.gcOnly Departure.lateStores }], guard := none }) (v := ?_) rfl (by kernel_rfl) (by kernel_rfl) (by kernel_rfl) (by rfl) (fun _ _ _ h => h) (Or.inl ⟨by rfl, ?_⟩) (by assumption) ?_
            rotate_left
            · (intro w; go_simp); (first | done | with_reducible rfl)
            try simp only [Act.put, List.setIfInBounds_toArray, List.set_cons_zero, List.set_cons_succ]
            refine wpAnyZ_takeY (i := 3) (oi := { dst := some 81, op := Op.move (Operand.tmp 10), type := 22, pos := "outright.go:66", after := #[], guard := none }) (v := ?_) rfl (by kernel_rfl) (by kernel_rfl) (by kernel_rfl) (by rfl) (fun _ _ _ h => h) (Or.inl ⟨by rfl, ?_⟩) (by assumption) ?_
            rotate_left
            · (intro w; go_simp); (first | done | with_reducible rfl)
            try simp only [Act.put, List.setIfInBounds_toArray, List.set_cons_zero, List.set_cons_succ]
            refine wpAnyZ_takeY (i := 4) (oi := { dst := some 82, op := Op.call { callee := Callee.builtin Builtin.len, args := #[Operand.tmp 81], argTypes := #[22] }, type := 3, pos := "outright.go:66", after := #[{ on := 3, ground := Ground.data }], guard := none }) (v := ?_) rfl (by kernel_rfl) (by kernel_rfl) (by kernel_rfl) (by rfl) (fun _ _ _ h => h) (Or.inl ⟨by rfl, ?_⟩) (by assumption) ?_
            rotate_left
            · (intro w; go_simp); (first | done | with_reducible rfl)
            try simp only [Act.put, List.setIfInBounds_toArray, List.set_cons_zero, List.set_cons_succ]
            refine wpAnyZ_takeY (i := 5) (oi := { dst := some 83, op := Op.binOp BinOp.sub 3 (Operand.tmp 82) (Operand.const (Value.int IntKind.i64 1)) 3, type := 3, pos := "outright.go:66", after := #[{ on := 4, ground := Ground.data }, { on := 21, ground := Ground.gcOnly Departure.lateStores }], guard := none }) (v := ?_) rfl (by kernel_rfl) (by kernel_rfl) (by kernel_rfl) (by rfl) (fun _ _ _ h => h) (Or.inl ⟨by rfl, ?_⟩) (by assumption) ?_
            rotate_left
            · (intro w; go_simp); (first | done | with_reducible rfl)
            try simp only [Act.put, List.setIfInBounds_toArray, List.set_cons_zero, List.set_cons_succ]
            refine wpAnyZ_takeY (i := 6) (oi := { dst := some 84, op := Op.move (Operand.tmp 11), type := 3, pos := "outright.go:66", after := #[{ on := 21, ground := Ground.gcOnly Departure.lateStores }], guard := none }) (v := ?_) rfl (by kernel_rfl) (by kernel_rfl) (by kernel_rfl) (by rfl) (fun _ _ _ h => h) (Or.inl ⟨by rfl, ?_⟩) (by assumption) ?_
            rotate_left
            · (intro w; go_simp); (first | done | with_reducible rfl)
            try simp only [Act.put, List.setIfInBounds_toArray, List.set_cons_zero, List.set_cons_succ]
            refine wpAnyZ_takeY (i := 7) (oi := { dst := some 85, op := Op.binOp BinOp.sub 3 (Operand.tmp 83) (Operand.tmp 84) 3, type := 3, pos := "outright.go:66", after := #[{ on := 5, ground := Ground.data }, { on := 6, ground := Ground.data }, { on := 21, ground := Ground.gcOnly Departure.lateStores }], guard := none }) (v := ?_) rfl (by kernel_rfl) (by kernel_rfl) (by kernel_rfl) (by rfl) (fun _ _ _ h => h) (Or.inl ⟨by rfl, ?_⟩) (by assumption) ?_
            rotate_left
            · (intro w; go_simp); (first | done | with_reducible rfl)
            try simp only [Act.put, List.setIfInBounds_toArray, List.set_cons_zero, List.set_cons_succ]
            refine wpAnyZ_takeY (i := 8) (oi := { dst := some 86, op := Op.move (Operand.tmp 10), type := 22, pos := "outright.go:66", after := #[], guard := none }) (v := ?_) rfl (by kernel_rfl) (by kernel_rfl) (by kernel_rfl) (by rfl) (fun _ _ _ h => h) (Or.inl ⟨by rfl, ?_⟩) (by assumption) ?_
            rotate_left
            · (intro w; go_simp); (first | done | with_reducible rfl)
            try simp only [Act.put, List.setIfInBounds_toArray, List.set_cons_zero, List.set_cons_succ]
            refine wpAnyZ_takeY (i := 9) (oi := { dst := some 87, op := Op.move (Operand.tmp 10), type := 22, pos := "outright.go:66", after := #[], guard := none }) (v := ?_) rfl (by kernel_rfl) (by kernel_rfl) (by kernel_rfl) (by rfl) (fun _ _ _ h => h) (Or.inl ⟨by rfl, ?_⟩) (by assumption) ?_
            rotate_left
            · (intro w; go_simp); (first | done | with_reducible rfl)
            try simp only [Act.put, List.setIfInBounds_toArray, List.set_cons_zero, List.set_cons_succ]
            refine wpAnyZ_takeY (i := 10) (oi := { dst := some 88, op := Op.call { callee := Callee.builtin Builtin.len, args := #[Operand.tmp 87], argTypes := #[22] }, type := 3, pos := "outright.go:66", after := #[{ on := 9, ground := Ground.data }], guard := none }) (v := ?_) rfl (by kernel_rfl) (by kernel_rfl) (by kernel_rfl) (by rfl) (fun _ _ _ h => h) (Or.inl ⟨by rfl, ?_⟩) (by assumption) ?_
            rotate_left
            · (intro w; go_simp); (first | done | with_reducible rfl)
            try simp only [Act.put, List.setIfInBounds_toArray, List.set_cons_zero, List.set_cons_succ]
            refine wpAnyZ_takeY (i := 11) (oi := { dst := some 89, op := Op.binOp BinOp.sub 3 (Operand.tmp 88) (Operand.const (Value.int IntKind.i64 1)) 3, type := 3, pos := "outright.go:66", after := #[{ on := 10, ground := Ground.data }], guard := none }) (v := ?_) rfl (by kernel_rfl) (by kernel_rfl) (by kernel_rfl) (by rfl) (fun _ _ _ h => h) (Or.inl ⟨by rfl, ?_⟩) (by assumption) ?_
            rotate_left
            · (intro w; go_simp); (first | done | with_reducible rfl)
            try simp only [Act.put, List.setIfInBounds_toArray, List.set_cons_zero, List.set_cons_succ]
            refine wpAnyZ_takeY (i := 12) (oi := { dst := some 90, op := Op.move (Operand.tmp 11), type := 3, pos := "outright.go:66", after := #[], guard := none }) (v := ?_) rfl (by kernel_rfl) (by kernel_rfl) (by kernel_rfl) (by rfl) (fun _ _ _ h => h) (Or.inl ⟨by rfl, ?_⟩) (by assumption) ?_
            rotate_left
            · (intro w; go_simp); (first | done | with_reducible rfl)
            try simp only [Act.put, List.setIfInBounds_toArray, List.set_cons_zero, List.set_cons_succ]
            refine wpAnyZ_takeY (i := 13) (oi := { dst := some 91, op := Op.binOp BinOp.sub 3 (Operand.tmp 89) (Operand.tmp 90) 3, type := 3, pos := "outright.go:66", after := #[{ on := 11, ground := Ground.data }, { on := 12, ground := Ground.data }], guard := none }) (v := ?_) rfl (by kernel_rfl) (by kernel_rfl) (by kernel_rfl) (by rfl) (fun _ _ _ h => h) (Or.inl ⟨by rfl, ?_⟩) (by assumption) ?_
            rotate_left
            · (intro w; go_simp); (first | done | with_reducible rfl)
            try simp only [Act.put, List.setIfInBounds_toArray, List.set_cons_zero, List.set_cons_succ]
            refine wpAnyZ_takeY (i := 14) (oi := { dst := some 92, op := Op.indexAddr 22 (Operand.tmp 86) (Operand.tmp 91), type := 0, pos := "outright.go:66", after := #[{ on := 8, ground := Ground.data }, { on := 13, ground := Ground.data }], guard := none }) (v := ?_) rfl (by kernel_rfl) (by kernel_rfl) (by kernel_rfl) (by rfl) (fun _ _ _ h => h) (Or.inl ⟨by rfl, ?_⟩) (by assumption) ?_
            rotate_left
            · (intro w; go_simp); (first | done | with_reducible rfl)
            try simp only [Act.put, List.setIfInBounds_toArray, List.set_cons_zero, List.set_cons_succ]
            refine wpAnyZ_take (i := 15) (oi := { dst := some 93, op := Op.load 38 (Operand.tmp 92), type := 38, pos := "outright.go:66", after := #[{ on := 14, ground := Ground.data }], guard := none }) (v := ?_) [20, 21, 22, 23] rfl (by kernel_rfl) (by kernel_rfl) (by kernel_rfl) (by kernel_rfl) (fun _ _ _ h => h) (Or.inl ⟨by rfl, ?_⟩) (by assumption) ?_
            rotate_left
            · (intro w hSw; (try dsimp only at hSw); go_simp); (first | done | with_reducible rfl)
            try simp only [Act.put, List.setIfInBounds_toArray, List.set_cons_zero, List.set_cons_succ]
            refine wpAnyZ_takeY (i := 16) (oi := { dst := some 94, op := Op.move (Operand.tmp 10), type := 22, pos := "outright.go:66", after := #[], guard := none }) (v := ?_) rfl (by kernel_rfl) (by kernel_rfl) (by kernel_rfl) (by rfl) (fun _ _ _ h => h) (Or.inl ⟨by rfl, ?_⟩) (by assumption) ?_
            rotate_left
            · (intro w; go_simp); (first | done | with_reducible rfl)
            try simp only [Act.put, List.setIfInBounds_toArray, List.set_cons_zero, List.set_cons_succ]
            refine wpAnyZ_takeY (i := 17) (oi := { dst := some 95, op := Op.move (Operand.tmp 11), type := 3, pos := "outright.go:66", after := #[], guard := none }) (v := ?_) rfl (by kernel_rfl) (by kernel_rfl) (by kernel_rfl) (by rfl) (fun _ _ _ h => h) (Or.inl ⟨by rfl, ?_⟩) (by assumption) ?_
            rotate_left
            · (intro w; go_simp); (first | done | with_reducible rfl)
            try simp only [Act.put, List.setIfInBounds_toArray, List.set_cons_zero, List.set_cons_succ]
            refine wpAnyZ_takeY (i := 18) (oi := { dst := some 96, op := Op.indexAddr 22 (Operand.tmp 94) (Operand.tmp 95), type := 0, pos := "outright.go:66", after := #[{ on := 16, ground := Ground.data }, { on := 17, ground := Ground.data }], guard := none }) (v := ?_) rfl (by kernel_rfl) (by kernel_rfl) (by kernel_rfl) (by rfl) (fun _ _ _ h => h) (Or.inl ⟨by rfl, ?_⟩) (by assumption) ?_
            rotate_left
            · (intro w; go_simp); (first | done | with_reducible rfl)
            try simp only [Act.put, List.setIfInBounds_toArray, List.set_cons_zero, List.set_cons_succ]
            refine wpAnyZ_take (i := 19) (oi := { dst := some 97, op := Op.load 38 (Operand.tmp 96), type := 38, pos := "outright.go:66", after := #[{ on := 18, ground := Ground.data }], guard := none }) (v := ?_) [20, 21, 22, 23] rfl (by kernel_rfl) (by kernel_rfl) (by kernel_rfl) (by kernel_rfl) (fun _ _ _ h => h) (Or.inl ⟨by rfl, ?_⟩) (by assumption) ?_
            rotate_left
            · (intro w hSw; (try dsimp only at hSw); go_simp); (first | done | with_reducible rfl)
            try simp only [Act.put, List.setIfInBounds_toArray, List.set_cons_zero, List.set_cons_succ]
            refine wpAnyZ_takeY (i := 20) (oi := { dst := some 98, op := Op.indexAddr 22 (Operand.tmp 78) (Operand.tmp 79), type := 0, pos := "outright.go:66", after := #[{ on := 0, ground := Ground.data }, { on := 1, ground := Ground.data }, { on := 0, ground := Ground.phase }, { on := 1, ground := Ground.phase }, { on := 2, ground := Ground.textOnly Departure.lateStores }, { on := 3, ground := Ground.textOnly Departure.lateStores }, { on := 4, ground := Ground.textOnly Departure.lateStoresUnsure }, { on := 5, ground := Ground.textOnly Departure.lateStores }, { on := 6, ground := Ground.textOnly Departure.lateStores }, { on := 7, ground := Ground.textOnly Departure.lateStores }, { on := 8, ground := Ground.phase }, { on := 9, ground := Ground.phase }, { on := 10, ground := Ground.phase }, { on := 11, ground := Ground.phase }, { on := 12, ground := Ground.phase }, { on := 13, ground := Ground.phase }, { on := 14, ground := Ground.phase }, { on := 15, ground := Ground.phase }, { on := 16, ground := Ground.textOnly Departure.lateStores }, { on := 17, ground := Ground.textOnly Departure.lateStores }, { on := 18, ground := Ground.textOnly Departure.lateStoresUnsure }, { on := 19, ground := Ground.phase }], guard := none }) (v := ?_) rfl (by kernel_rfl) (by kernel_rfl) (by kernel_rfl) (by rfl) (fun _ _ _ h => h) (Or.inl ⟨by rfl, ?_⟩) (by assumption) ?_
            rotate_left
            · (intro w; go_simp); (first | done | with_reducible rfl)
            try simp only [Act.put, List.setIfInBounds_toArray, List.set_cons_zero, List.set_cons_succ]
            refine wpAnyZ_ready (rs := [21]) (by kernel_rfl) (by simp) ?_
            refine AllReadyZ.last (o := { dst := none, op := Op.store 38 (Operand.tmp 98) (Operand.tmp 93), type := 0, pos := "outright.go:66", after := #[{ on := 20, ground := Ground.data }, { on := 15, ground := Ground.data }, { on := 0, ground := Ground.phase }, { on := 1, ground := Ground.phase }, { on := 2, ground := Ground.textOnly Departure.lateStores }, { on := 3, ground := Ground.textOnly Departure.lateStores }, { on := 4, ground := Ground.textOnly Departure.lateStoresUnsure }, { on := 5, ground := Ground.textOnly Departure.lateStores }, { on := 6, ground := Ground.textOnly Departure.lateStores }, { on := 7, ground := Ground.textOnly Departure.lateStores }, { on := 8, ground := Ground.phase }, { on := 9, ground := Ground.phase }, { on := 10, ground := Ground.phase }, { on := 11, ground := Ground.phase }, { on := 12, ground := Ground.phase }, { on := 13, ground := Ground.phase }, { on := 14, ground := Ground.phase }, { on := 15, ground := Ground.phase }, { on := 16, ground := Ground.textOnly Departure.lateStores }, { on := 17, ground := Ground.textOnly Departure.lateStores }, { on := 18, ground := Ground.textOnly Departure.lateStoresUnsure }, { on := 19, ground := Ground.phase }], guard := none }) rfl (fun K hK => ?_) AllReadyZ.nil
            go_simp
            refine hK.out _ _ ?_
            clear hK K
            try simp only [Act.put, List.setIfInBounds_toArray, List.set_cons_zero, List.set_cons_succ]
            refine wpAny_take (i := 22) (oi := { dst := some 99, op := Op.indexAddr 22 (Operand.tmp 80) (Operand.tmp 85), type := 0, pos := "outright.go:66", after := #[{ on := 2, ground := Ground.data }, { on := 7, ground := Ground.data }, { on := 0, ground := Ground.phase }, { on := 1, ground := Ground.phase }, { on := 2, ground := Ground.phase }, { on := 3, ground := Ground.phase }, { on := 4, ground := Ground.phase }, { on := 5, ground := Ground.phase }, { on := 6, ground := Ground.phase }, { on := 7, ground := Ground.phase }, { on := 8, ground := Ground.phase }, { on := 9, ground := Ground.phase }, { on := 10, ground := Ground.phase }, { on := 11, ground := Ground.phase }, { on := 12, ground := Ground.phase }, { on := 13, ground := Ground.phase }, { on := 14, ground := Ground.phase }, { on := 15, ground := Ground.phase }, { on := 16, ground := Ground.phase }, { on := 17, ground := Ground.phase }, { on := 18, ground := Ground.phase }, { on := 19, ground := Ground.phase }, { on := 20, ground := Ground.phase }, { on := 21, ground := Ground.phase }], guard := none }) (v := ?_) rfl (by kernel_rfl) (by kernel_rfl) (by kernel_rfl) (fun _ _ _ h => h) (Or.inl ⟨by rfl, ?_⟩) ?_
            rotate_left
            · (intro w; go_simp); (first | done | with_reducible rfl)
            try simp only [Act.put, List.setIfInBounds_toArray, List.set_cons_zero, List.set_cons_succ]
            refine wpAny_ready (rs := [23]) (by kernel_rfl) (by simp) ?_
            refine AllReady.cons (o := { dst := none, op := Op.store 38 (Operand.tmp 99) (Operand.tmp 97), type := 0, pos := "outright.go:66", after := #[{ on := 22, ground := Ground.data }, { on := 19, ground := Ground.data }, { on := 21, ground := Ground.chain }, { on := 0, ground := Ground.phase }, { on := 1, ground := Ground.phase }, { on := 2, ground := Ground.phase }, { on := 3, ground := Ground.phase }, { on := 4, ground := Ground.phase }, { on := 5, ground := Ground.phase }, { on := 6, ground := Ground.phase }, { on := 7, ground := Ground.phase }, { on := 8, ground := Ground.phase }, { on := 9, ground := Ground.phase }, { on := 10, ground := Ground.phase }, { on := 11, ground := Ground.phase }, { on := 12, ground := Ground.phase }, { on := 13, ground := Ground.phase }, { on := 14, ground := Ground.phase }, { on := 15, ground := Ground.phase }, { on := 16, ground := Ground.phase }, { on := 17, ground := Ground.phase }, { on := 18, ground := Ground.phase }, { on := 19, ground := Ground.phase }, { on := 20, ground := Ground.phase }, { on := 21, ground := Ground.phase }], guard := none }) rfl (fun K hK => ?_) AllReady.nil
            go_simp
            refine hK _ _ ?_
            clear hK K
            refine wpAny_done (by kernel_rfl) ?_ _
            go_wp2_with fail
            go_roundw
            case rel => exact ⟨k + 1, Q2, by go_num, by omega, HSL, Lib.hid (HSw.out.trans HPm.out), Lib.hid (clsAt_drewO HSC.out), Lib.hid HR2.out.drew9, Lib.hid HBS.out.drew⟩
            case measure => simp [intOf]; omega
          · obtain rfl : k = L.length / 2 := by omega
            go_wp2_with fail
            have HLr := Lib.hid (HLr0.out.below HB4.out)
            have HB5 := Lib.hid (HB0.out.trans (HB4.out.mono HB0.out.size))
            have HET := Lib.hid HQl.out
            have CPQ := Lib.hid (fun V (h : ClsAt V (some ⟨gT, 0, none⟩) Q) => puts15_any (some ⟨gT, 0, none⟩) capT Q V h (fun c hc => HOK.out c (HPm.out.mem_iff.1 hc)) (by rw [HET.out]; omega))
            unfold PutsR at CPQ
            rw [HET.out] at CPQ
            have HEQ := Lib.hid (show M.putsL [] Q = M.putsL [] L from (M.puts_same HONE.out (fun x => (HPm.out.mem_iff).symm)).symm)
            rw [HEQ.out] at CPQ
            have hpl : (M.putsL [] L).length ≤ L.length := by have := M.puts_len L []; simpa using this
            generalize M.putsL [] L = A at *
            have hA : A.length ≤ 1000000 := by omega
            with_reducible refine (CP1.out _ HLr.out).mono ?_
            rintro e w5 ⟨b5, rfl, hm, hbq⟩
            replace HB5 := carry hbq HB5
            replace HC4 := carry hbq HC4
            have HM5 := Lib.hid hm
            clear hm hbq
            have CR5 := Lib.hid (rangeX15 HM5.out)
            unfold RangeR10 at CR5
            go_wp2_with fail
            with_reducible refine (CR5.out).mono ?_
            rintro e w6 ⟨a6, c6, rfl, ho6, hbq⟩
            replace HB5 := carry hbq HB5
            replace HC4 := carry hbq HC4
            have HC6 := Lib.hid (clsAt_own ho6 rfl)
            clear ho6 hbq CR5 HM5
            go_wp2_with fail
            with_reducible refine (CPQ.out _ HC4.out).mono ?_
            rintro e w7 ⟨b7, rfl, hm, hbq⟩
            replace HB5 := carry hbq HB5
            replace HC6 := carry hbq HC6
            have HM7 := Lib.hid hm
            clear hm hbq
            have CR7 := Lib.hid (rangeX15 HM7.out)
            unfold RangeR10 at CR7
            go_wp2_with fail
            with_reducible refine (CR7.out).mono ?_
            rintro e w8 ⟨a8, c8, rfl, ho8, hbq⟩
            replace HB5 := carry hbq HB5
            replace HC6 := carry hbq HC6
            have HC8 := Lib.hid (clsAt_own ho8 rfl)
            clear ho8 hbq CR7 HM7
            have CS := Lib.hid (fun c1 c2 => sameCells9_yes A A.length rfl _ _ c1 c2 hA HC6.out HC8.out)
            go_wp2_with fail
            with_reducible refine (CS.out _ _).mono ?_
            rintro e w9 ⟨rfl, hbq⟩
            replace HB5 := carry hbq HB5
            clear hbq CS
            go_wp2_with fail
            with_reducible refine (CD.out _).mono ?_
            rintro e wF ⟨rfl, hbq⟩
            replace HB5 := carry hbq HB5
            clear hbq
            go_wp2_with fail
            go_ret
            exact ⟨rfl, HB5.out⟩
      | false =>
        replace HLr := carry HB4.out HLr
        have HB5 := carry HB4.out HB
        clear HB
        go_wp2_with fail
        have CPQ := Lib.hid (fun V (h : ClsAt V (some ⟨gT, 0, none⟩) Q) => puts15_any (some ⟨gT, 0, none⟩) capT Q V h (fun c hc => HOK.out c (HPm.out.mem_iff.1 hc)) (by rw [HET.out]; omega))
        unfold PutsR at CPQ
        rw [HET.out] at CPQ
        have HEQ := Lib.hid (show M.putsL [] Q = M.putsL [] L from (M.puts_same HONE.out (fun x => (HPm.out.mem_iff).symm)).symm)
        rw [HEQ.out] at CPQ
        have hpl : (M.putsL [] L).length ≤ L.length := by have := M.puts_len L []; simpa using this
        generalize M.putsL [] L = A at *
        have hA : A.length ≤ 1000000 := by omega
        with_reducible refine (CP1.out _ HLr.out).mono ?_
        rintro e w5 ⟨b5, rfl, hm, hbq⟩
        replace HB5 := carry hbq HB5
        replace HC4 := carry hbq HC4
        have HM5 := Lib.hid hm
        clear hm hbq
        have CR5 := Lib.hid (rangeX15 HM5.out)
        unfold RangeR10 at CR5
        go_wp2_with fail
        with_reducible refine (CR5.out).mono ?_
        rintro e w6 ⟨a6, c6, rfl, ho6, hbq⟩
        replace HB5 := carry hbq HB5
        replace HC4 := carry hbq HC4
        have HC6 := Lib.hid (clsAt_own ho6 rfl)
        clear ho6 hbq CR5 HM5
        go_wp2_with fail
        with_reducible refine (CPQ.out _ HC4.out).mono ?_
        rintro e w7 ⟨b7, rfl, hm, hbq⟩
        replace HB5 := carry hbq HB5
        replace HC6 := carry hbq HC6
        have HM7 := Lib.hid hm
        clear hm hbq
        have CR7 := Lib.hid (rangeX15 HM7.out)
        unfold RangeR10 at CR7
        go_wp2_with fail
        with_reducible refine (CR7.out).mono ?_
        rintro e w8 ⟨a8, c8, rfl, ho8, hbq⟩
        replace HB5 := carry hbq HB5
        replace HC6 := carry hbq HC6
        have HC8 := Lib.hid (clsAt_own ho8 rfl)
        clear ho8 hbq CR7 HM7
        have CS := Lib.hid (fun c1 c2 => sameCells9_yes A A.length rfl _ _ c1 c2 hA HC6.out HC8.out)
        go_wp2_with fail
        with_reducible refine (CS.out _ _).mono ?_
        rintro e w9 ⟨rfl, hbq⟩
        replace HB5 := carry hbq HB5
        clear hbq CS
        go_wp2_with fail
        with_reducible refine (CD.out _).mono ?_
        rintro e wF ⟨rfl, hbq⟩
        replace HB5 := carry hbq HB5
        clear hbq
        go_wp2_with fail
        go_ret
        exact ⟨rfl, HB5.out⟩

end Go.Proofs.Ythidmgnfdikppaa
