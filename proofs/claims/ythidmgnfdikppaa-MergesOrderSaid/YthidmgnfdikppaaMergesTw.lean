/- Layer 11: rows in memory of their own: the laws' twins of rows, and whether they are what they were. -/
import Derived.Test.YthidmgnfdikppaaMergesZ
import Derived.BigQuiet
namespace Go.Proofs.Ythidmgnfdikppaa
set_option linter.unusedVariables false
open Go Go.RowKit
attribute [local go_sem ↓] run_index_S
attribute [local go_sem] S_append S_extract

def rwsV (Ts : List M.Rw) : List Value := Ts.map (fun r => .slice r.o r.l.length r.k)
theorem rwsV_append (A B : List M.Rw) : rwsV (A ++ B) = rwsV A ++ rwsV B := by simp [rwsV]
theorem rwsV_get {Ts : List M.Rw} {j : Nat} (h : j < Ts.length) : (rwsV Ts)[j]? = some (.slice (Ts.getD j M.rw0).o (Ts.getD j M.rw0).l.length (Ts.getD j M.rw0).k) := by
  simp [rwsV, List.getD, h]
theorem rwsV_one (Ts : List M.Rw) : ∀ u ∈ rwsV Ts, u.oneCell' = true := fun u hu => by
  simp only [rwsV, List.mem_map] at hu
  obtain ⟨r, _, rfl⟩ := hu
  rfl
/-- A twin: a row of the call's own, with one cell more behind. -/
def TwR (B : Nat) (w : World) (r : M.Rw) : Prop := ∃ q, r.o = some ⟨q, 0, none⟩ ∧ w.ownsRow B 38 3 (.slice (some ⟨q, 0, none⟩) (r.l.length + 1) r.k) (r.l.length + 1) (cls (r.l ++ [c70]))
theorem TwR.below {B : Nat} {w w' : World} {r : M.Rw} (h : TwR B w r) (hb : Below w.heap.size w w') : TwR B w' r := by
  obtain ⟨q, e, h⟩ := h
  exact ⟨q, e, ownP_below h hb⟩
theorem TwR.cls {B : Nat} {w : World} {r : M.Rw} (h : TwR B w r) : ∃ q, r.o = some ⟨q, 0, none⟩ ∧ ClsAt w (some ⟨q, 0, none⟩) (r.l ++ [c70]) ∧ r.l.length + 1 ≤ r.k := by
  obtain ⟨q, e, h⟩ := h
  exact ⟨q, e, clsAt_own h (by simp), ownC_cap h⟩
theorem TwR.mono {B B' : Nat} {w : World} {r : M.Rw} (h : TwR B' w r) (hB : B ≤ B') : TwR B w r := by
  obtain ⟨q, e, h⟩ := h
  exact ⟨q, e, ownP_mono h hB⟩
structure Tws (B : Nat) (w : World) (ao : Option Addr) (cap : Nat) (R : List (List M.Cl)) (Ts : List M.Rw) : Prop where
  row : w.ownsRow B 22 1 (.slice ao Ts.length cap) Ts.length (rwsV Ts)
  same : M.rls Ts = R
  each : ∀ r, r ∈ Ts → TwR B w r
theorem Tws.below {B : Nat} {w w' : World} {ao : Option Addr} {cap : Nat} {R : List (List M.Cl)} {Ts : List M.Rw} (h : Tws B w ao cap R Ts) (hb : Below w.heap.size w w') : Tws B w' ao cap R Ts :=
  ⟨ownP_below h.row hb, h.same, fun r hr => (h.each r hr).below hb⟩
theorem Tws.at_ {B : Nat} {w : World} {ao : Option Addr} {cap : Nat} {R : List (List M.Cl)} {Ts : List M.Rw} (h : Tws B w ao cap R Ts) : RwsAt w ao Ts := fun hn => by
  have hl : 0 < Ts.length := by cases Ts with
    | nil => exact absurd rfl hn
    | cons _ _ => simp
  obtain ⟨g, cap', e, _, hc⟩ := own_slice10 h.row hl
  injection e with e1 e2 e3
  refine ⟨g, 0, e1, fun j hj => ?_⟩
  rw [Nat.zero_add]
  refine ⟨hc j _ (rwsV_get hj), ?_⟩
  obtain ⟨q, e, hq, _⟩ := (h.each _ (M.getD_memR hj)).cls
  rw [e]
  exact clsAt_pre9 hq
/-- What an append of a row comes to. -/
theorem Tws.snoc {B : Nat} {w w' : World} {ao ao' : Option Addr} {cap cap' : Nat} {R : List (List M.Cl)} {Ts : List M.Rw} {r : M.Rw} (h : Tws B w ao cap R Ts) (hr : TwR B w r) (ho : w'.ownsRow B 22 1 (.slice ao' (Ts.length + 1) cap') (Ts.length + 1) (rwsV Ts ++ rwsV [r])) (hg : w.grownBy w' (Value.slice ao Ts.length cap).ownBlock) :
    Tws B w' ao' cap' (R ++ [r.l]) (Ts ++ [r]) := by
  have keep : ∀ x, TwR B w x → TwR B w' x := fun x hx => by
    obtain ⟨q, e, hx⟩ := hx
    exact ⟨q, e, hx.kept hg (own_apart hx h.row (by decide))⟩
  refine ⟨?_, ?_, fun x hx => ?_⟩
  · rw [List.length_append, rwsV_append]; exact ho
  · simp only [M.rls, List.map_append, List.map_cons, List.map_nil]
    rw [show List.map (fun r => r.l) Ts = R from h.same]
  · rcases List.mem_append.1 hx with hx | hx
    · exact keep x (h.each x hx)
    · rw [List.mem_singleton] at hx
      subst hx
      exact keep x hr
def TwinO9 (L : List M.Cl) (w : World) (e : Ending) (w' : World) : Prop := ∃ g c, e = .returned (.slice (some ⟨g, 0, none⟩) L.length c) ∧ TwR w.heap.size w' ⟨L, some ⟨g, 0, none⟩, c⟩ ∧ Below w.heap.size w w'
set_option maxHeartbeats 4000000 in
set_option maxRecDepth 100000 in
theorem twin9_own (L : List M.Cl) (ao : Option Addr) (cap : Nat) (hl : L.length ≤ 900) (w : World) (h : ClsAt w ao L) :
    Calls Try.prog 23 #[.slice ao L.length cap] w fun e w' => TwinO9 L w e w' := by
  obtain ⟨i0, z0, hi, hz0, hz1, hz2, hz3⟩ := infoCl_parts
  obtain ⟨C, hC, hmk⟩ := make_cls 22 Try.underlying22 (L.length + 1) (by omega) .i64 .i64
  simp only [Int.natCast_add, Int.natCast_one] at hmk
  have ew : IntKind.i64.wrap ((L.length : Int) + 1) = (L.length : Int) + 1 := IntWalk.i64_in _ (by omega)
  have HMK := Lib.hid (World.ownsRow_made (base := w.heap.size) w C (L.length + 1) (Nat.le_refl _) (by unfold maxLen; omega) hC (e := 38))
  have HL := Lib.hid (h.below ((Below.refl w.heap.size w).alloc (Nat.le_refl _) (.cells C 38)))
  have HB := Lib.hid ((Below.refl w.heap.size w).alloc (Nat.le_refl _) (.cells C 38))
  have b1 : (0 : Int) ≤ (L.length : Int) := by omega
  clear h
  go_enter Try.func23, Try.ntmps23
  go_wp2_with (first
    | (have _t := HO1; clear _t; at_builtin; refine wpList_append_cls rfl _ _ 22 rfl w.heap.size i0 z0 Try.underlying22 hi hz0 hz1 hz2 hz3 (.slice a1 L.length q1) L.length (cls L) rfl (HO1.out.alloc _) (some ⟨w1.heap.size, 0, none⟩) 1 [c70] rfl (clsAt_row (rowIn_new (clA c70) 38 w1) rfl) (by have e1 : [c70].length = 1 := rfl; omega) (by have := HB1.out.size; rw [szA]; omega) ?_; intro v2 w2 ho2 hg2; obtain ⟨a2, q2, rfl⟩ := ownP_shape ho2; obtain ⟨g, rfl⟩ := ownC_addr ho2 (Nat.succ_pos _); have HO2 := Lib.hid (show w2.ownsRow w.heap.size 38 3 (.slice (some ⟨g, 0, none⟩) (L.length + 1) q2) (L.length + 1) (cls (L ++ [c70])) from by rw [cls_append]; exact ho2); have HB2 := Lib.hid ((HB1.out.alloc HB1.out.size (.cells (clA c70) 38)).grown hg2 (by have := HB1.out.size; rw [szA]; omega) (fun q hq => (HO1.out.lt q hq).1)); have hq2 : L.length + 1 ≤ q2 := ownC_cap HO2.out; have b2 : (L.length : Int) ≤ (q2 : Int) := (by omega); clear ho2 hg2)
    | (at_builtin; refine wpList_append_cls rfl _ _ 22 rfl w.heap.size i0 z0 Try.underlying22 hi hz0 hz1 hz2 hz3 (.slice (some ⟨w.heap.size, 0, none⟩) 0 (L.length + 1)) 0 [] rfl HMK.out ao cap L rfl HL.out (by omega) HB.out.size ?_; intro v1 w1 ho1 hg1; obtain ⟨a1, q1, rfl⟩ := ownP_shape ho1; have HO1 := Lib.hid (show w1.ownsRow w.heap.size 38 3 (.slice a1 L.length q1) L.length (cls L) from by simpa using ho1); have HB1 := Lib.hid (HB.out.grown hg1 HB.out.size (fun q hq => (HMK.out.lt q hq).1)); clear ho1 hg1))
  go_ret
  exact ⟨g, q2, rfl, ⟨g, rfl, HO2.out⟩, HB2.out⟩
/-- 'make([][]Cell, 0, n)'. -/
theorem infoRw_parts : ∃ (i0 : TypeInfo) (z : Value), Try.prog.info? 22 = some i0 ∧ i0.zero = some z ∧ i0.size = 1 ∧ i0.bytes = 24 ∧ z.cells.size = 1 := by
  have h : (Try.prog.info? 22).map (fun i => (i.zero.map (fun z => z.cells.size), i.size, i.bytes)) = some (some 1, 1, 24) := by kernel_rfl
  cases hi : Try.prog.info? 22 with
  | none => rw [hi] at h; cases h
  | some i0 =>
    rw [hi] at h
    cases hz : i0.zero with
    | none => simp [hz] at h
    | some z =>
      simp [hz] at h
      exact ⟨i0, z, rfl, hz, h.2.1, h.2.2, h.1⟩
theorem make_rws (t : TypeId) (ht : Try.prog.underlying t = some (.slice 22)) (n : Nat) (hn : n ≤ 1000000) (kl kc : IntKind) :
    ∃ C : Array Value, C.size = n * 1 ∧ ∀ w : World, (Instr.makeSlice t (.int kl 0) (.int kc (n : Int))).run Try.prog w = .ok (.slice (some ⟨w.heap.size, 0, none⟩) 0 n) (w.alloc (.cells C 22)) := by
  obtain ⟨i0, z0, hi, hz0, hz1, hz2, hz3⟩ := infoRw_parts
  refine ⟨madeCells z0.cells (n * 1), by simp [size_madeCells], fun w => ?_⟩
  have hr := run_make (P := Try.prog) w t _ i0 z0 ht hi hz0 kl kc 0 n (by omega) (by omega) (by rw [hz2]; omega) (by omega)
  rw [hz1] at hr
  exact hr
def TwsR (Rs : List M.Rw) (w : World) (e : Ending) (w' : World) : Prop := ∃ Ts ao cap, e = .returned (.slice ao Rs.length cap) ∧ Ts.length = Rs.length ∧ Tws w.heap.size w' ao cap (M.rls Rs) Ts ∧ Below w.heap.size w w'
set_option maxHeartbeats 4000000 in
set_option maxRecDepth 100000 in
theorem twins11_any (Rs : List M.Rw) (hS : SmallRs Rs) (ao : Option Addr) (cap : Nat) (w : World) (h : RwsAt w ao Rs) :
    Calls Try.prog 40 #[.slice ao Rs.length cap] w (TwsR Rs w) := by
  obtain ⟨i0, z0, hi, hz0, hz1, hz2, hz3⟩ := infoRw_parts
  have hn := hS.n
  have HS := Lib.hid hS
  obtain ⟨C, hC, hmk⟩ := make_rws 59 Try.underlying59 (Rs.length + 1) (by omega) .i64 .i64
  simp only [Int.natCast_add, Int.natCast_one] at hmk
  have ew : IntKind.i64.wrap ((Rs.length : Int) + 1) = (Rs.length : Int) + 1 := IntWalk.i64_in _ (by omega)
  have HMK := Lib.hid (World.ownsRow_made (base := w.heap.size) w C (Rs.length + 1) (Nat.le_refl _) (by unfold maxLen; omega) hC (e := 22))
  have HA := Lib.hid h
  have HB0 := Lib.hid ((Below.refl w.heap.size w).alloc (Nat.le_refl _) (.cells C 22))
  clear h hS
  go_enter Try.func40, Try.ntmps40
  go_wp2_with fail
  have HT0 := Lib.hid (show Tws w.heap.size (w.alloc (.cells C 22)) (some ⟨w.heap.size, 0, none⟩) (Rs.length + 1) [] [] from ⟨HMK.out, rfl, fun r hr => by cases hr⟩)
  generalize w.alloc (.cells C 22) = W0 at *
  obtain ⟨z1, hz1x⟩ : ∃ z, z = (some (⟨w.heap.size, 0, none⟩ : Addr)) := ⟨_, rfl⟩
  clear hmk HMK hz1x z1
  go_loopw [3, 4] (fun ov i wr => ∃ (k : Nat) (Ts : List M.Rw) (to : Option Addr) (tc : Nat), k ≤ Rs.length ∧ Ts.length = k ∧ i = .int .i64 k ∧ ov = .slice to k tc ∧ Hid (Tws w.heap.size wr to tc (M.rls (Rs.take k)) Ts) ∧ Hid (Below w.heap.size w wr)) (fun ov i _ => Rs.length - (intOf i).toNat)
  case atStart => exact ⟨0, [], _, _, Nat.zero_le _, rfl, rfl, rfl, HT0, HB0⟩
  case round =>
    obtain ⟨k, Ts, to, tc, hk, hTl, rfl, rfl, HT, HB⟩ := hrel
    by_cases hlt : k < Rs.length
    · have hki : (k : Int) < (Rs.length : Int) := by omega
      obtain ⟨g, off, eao, hc⟩ := (HA.out.below HB.out).off k hlt
      have HMR := Lib.hid (M.getD_memR hlt)
      have HTK := Lib.hid (M.rls_snoc hlt)
      generalize Rs.getD k M.rw0 = r at *
      obtain ⟨l, o, kc⟩ := r
      obtain ⟨x0, hcl⟩ := hc
      simp only at x0 hcl HTK
      subst eao
      have hll := (HS.out.each _ HMR.out).1
      simp only at hll
      have CT := Lib.hid (twin9_own l o kc (by omega) wr hcl)
      clear hcl
      go_wp2_with fail
      with_reducible refine (CT.out).mono ?_
      rintro e w2 ⟨gt, ct, rfl, htw, hb⟩
      have HBn := Lib.hid (HB.out.trans (hb.mono HB.out.size))
      have hgw : w.heap.size ≤ wr.heap.size := HB.out.size
      have hal := (Below.refl w2.heap.size w2).alloc (Nat.le_refl _) (.cells #[.slice (some ⟨gt, 0, none⟩) l.length ct] 22)
      have HX := Lib.hid (And.intro ((htw.mono hgw).below hal) ((HT.out.below hb).below hal))
      have HXX := Lib.hid (rowIn_new #[.slice (some ⟨gt, 0, none⟩) l.length ct] 22 w2)
      have HBA := Lib.hid (HBn.out.alloc HBn.out.size (.cells #[.slice (some ⟨gt, 0, none⟩) l.length ct] 22))
      have hgA : w.heap.size ≤ (w2.alloc (.cells #[.slice (some ⟨gt, 0, none⟩) l.length ct] 22)).heap.size := Nat.le_trans hgw (Nat.le_trans hb.size hal.size)
      have HRow := Lib.hid (show ((w2.alloc (.cells #[.slice (some ⟨gt, 0, none⟩) l.length ct] 22))).ownsRow w.heap.size 22 1 (.slice to k tc) k (rwsV Ts) from by have := HX.out.2.row; rwa [hTl] at this)
      clear htw hb x0 hal CT
      go_wp2_with (at_builtin; refine wpList_append_own _ rfl _ _ 59 rfl w.heap.size 22 i0 z0 1 24 Try.underlying59 hi hz0 hz1 hz2 hz3 (by decide) (.slice to k tc) k (rwsV Ts) rfl HRow.out ⟨w2.heap.size, 0, none⟩ 1 1 (rwsV [⟨l, some ⟨gt, 0, none⟩, ct⟩]) rfl rfl ?c1 (rwsV_one _) ?c2 ?c3 ?c4 ?_)
      case c1 =>
        intro j u hu
        match j with
        | 0 => simp [rwsV] at hu; subst hu; exact HXX.out.cell 0
        | j + 1 => simp [rwsV] at hu
      case c2 => unfold maxLen; omega
      case c3 => omega
      case c4 => exact hgA
      intro v' w5 ho5 hg5 hat5
      obtain ⟨ao5, cap5, rfl⟩ := ownP_shape ho5
      have HT5 := Lib.hid (show Tws w.heap.size w5 ao5 cap5 (M.rls (Rs.take (k + 1))) (Ts ++ [⟨l, some ⟨gt, 0, none⟩, ct⟩]) from by
        rw [HTK.out]
        subst hTl
        exact HX.out.2.snoc HX.out.1 ho5 hg5)
      have HB5 := Lib.hid (show Below w.heap.size w w5 from HBA.out.grown hg5 HBA.out.size (fun q hq => (HRow.out.lt q hq).1))
      clear ho5 hg5 hat5 HX HXX HBA HRow HT HB HBn
      go_wp2_with fail
      go_roundw
      case rel => exact ⟨k + 1, _, ao5, cap5, by omega, by simp; omega, by go_num, rfl, HT5, HB5⟩
      case measure => simp [intOf]; omega
    · obtain rfl : k = Rs.length := by omega
      go_wp2_with fail
      go_ret
      refine ⟨Ts, to, tc, rfl, hTl, ?_, HB.out⟩
      have := HT.out
      rw [List.take_length] at this
      exact this

set_option maxHeartbeats 4000000 in
set_option maxRecDepth 100000 in
theorem left11_any (Rs Ts : List M.Rw) (hS : SmallRs Rs) (hl : Ts.length = Rs.length) (B : Nat) (ao to : Option Addr) (cap tc n : Nat) (hn : Rs.length = n) (w : World) (h : RwsAt w ao Rs) (ht : Tws B w to tc (M.rls Rs) Ts) :
    Calls Try.prog 45 #[.slice to n tc, .slice ao n cap] w fun e w' => e = .returned (.bool true) ∧ Below w.heap.size w w' := by
  subst hn
  have HS := Lib.hid hS
  have HA := Lib.hid h
  have HT := Lib.hid ht
  have HL := Lib.hid hl
  have h20 := hS.n
  clear hS h ht hl
  go_enter Try.func45, Try.ntmps45
  go_wp2_with fail
  go_loopw [5] (fun i wr => ∃ k : Nat, k ≤ Rs.length ∧ i = .int .i64 k ∧ Hid (Below w.heap.size w wr)) (fun i _ => Rs.length - (intOf i).toNat)
  case atStart => exact ⟨0, Nat.zero_le _, rfl, Lib.hid (Below.refl _ _)⟩
  case round =>
    obtain ⟨k, hk, rfl, HB⟩ := hrel
    by_cases hlt : k < Rs.length
    · have hki : (k : Int) < (Rs.length : Int) := by omega
      have HTr := Lib.hid (HT.out.below HB.out)
      have hkt : k < Ts.length := by rw [HL.out]; exact hlt
      obtain ⟨g, off, rfl, hc⟩ := (HA.out.below HB.out).off k hlt
      obtain ⟨g', off', rfl, hc'⟩ := HTr.out.at_.off k hkt
      have HE := Lib.hid (HTr.out.each _ (M.getD_memR hkt)).cls
      have HMR := Lib.hid (M.getD_memR hlt)
      have hsame : (Ts.getD k M.rw0).l = (Rs.getD k M.rw0).l := by
        have := congrArg (fun R => R.getD k []) HTr.out.same
        simpa [M.rls, List.getD, hlt, hkt] using this
      generalize Rs.getD k M.rw0 = r at *
      generalize Ts.getD k M.rw0 = r' at *
      obtain ⟨l, o, kc⟩ := r
      obtain ⟨l', o', kc'⟩ := r'
      simp only at hsame
      subst hsame
      obtain ⟨x0, hcl⟩ := hc
      obtain ⟨y0, _⟩ := hc'
      obtain ⟨q, eo, hq, hqk⟩ := HE.out
      simp only at x0 y0 hcl eo hq hqk
      subst eo
      have hll := (HS.out.each _ HMR.out).1
      simp only at hll
      have CL := Lib.hid (fun V (h1 : ClsAt V (some ⟨q, 0, none⟩) (l' ++ [c70])) (h2 : ClsAt V o l') => left9_any l' o kc (by omega) V q kc' hqk h1 h2)
      have HQ := Lib.hid (fun d os => hq.below (below_regrown wr d os))
      have HC := Lib.hid (fun d os => hcl.below (below_regrown wr d os))
      have g0 := fun d os => cell_regrown x0 d os
      have g1 := fun d os => cell_regrown y0 d os
      clear x0 y0 hcl hq HE
      go_wp2_with fail
      refine wp_region_quiet_below (by kernel_rfl) (by kernel_rfl) ?_
      repeat (any_goals (first | go_big_quiet_step ((first | (go_at_call 26; with_reducible exact Calls.regrown_of (CL.out _ (HQ.out _ _) (HC.out _ _))))) | quiet_step ((first | (go_at_call 26; with_reducible exact Calls.regrown_of (CL.out _ (HQ.out _ _) (HC.out _ _)))))))
      refine wpQuiet_nil ?_
      intro _ hw1
      obtain ⟨⟨d1, d1o⟩, hw1⟩ := hw1
      subst hw1
      replace HB := carry (below_regrown wr d1 d1o) HB
      clear g0 g1
      go_wp2_with fail
      go_roundw
      case rel => exact ⟨k + 1, by omega, by go_num, HB⟩
      case measure => simp [intOf]; omega
    · obtain rfl : k = Rs.length := by omega
      go_wp2_with fail
      go_ret
      exact ⟨rfl, HB.out⟩

end Go.Proofs.Ythidmgnfdikppaa
