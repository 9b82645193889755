/- Layer 19: TabletsNone. -/
import Derived.Test.YtnhljlmelbiljaaGreatTbltX
import Derived.Test.YtnhljlmelbiljaaGreatZR
import Derived.Deep.CutRange
import Derived.BigQuiet
namespace Go.Proofs.YtnhljlmelbiljaaGreat
set_option linter.unusedVariables false
set_option linter.unusedSimpArgs false
open Go Go.RowKit
attribute [local go_sem ↓] run_index_S
attribute [local go_sem] S_append S_extract

theorem bestR_emp (k : List UInt8) : ∀ (R : List (List M.Cl)), (∀ l, l ∈ R → l = []) → M.bestR k R = none
  | [], _ => rfl
  | l :: R, h => by
    rw [M.bestR, h l (by simp), bestR_emp k R (fun l hl => h l (List.mem_cons_of_mem _ hl))]
    rfl
theorem getT_emp (f t k : List UInt8) (R : List (List M.Cl)) (h : ∀ l, l ∈ R → l = []) : M.getT f t R k = none := by
  unfold M.getT
  split
  · exact bestR_emp k R h
  · rfl
theorem rangeT_emp (f t a b : List UInt8) (R : List (List M.Cl)) (h : ∀ l, l ∈ R → l = []) : M.rangeT f t R a b = [] := by
  have h1 := rangeT_len19 f t R a b 0 (fun l hl => by rw [h l hl]; simp)
  exact List.eq_nil_of_length_eq_zero (by omega)
/-- A tablet in which nothing is. -/
structure Tn19 (ta : Option Addr) (Ts : List M.Tp) (mv : Value) (W : World) : Prop where
  tt : TtAt W mv ta [] Ts
  emp : ∀ l, l ∈ M.tls Ts → l = []
theorem Tn19.below {ta : Option Addr} {Ts : List M.Tp} {mv : Value} {W W' : World} (h : Tn19 ta Ts mv W) (hb : Below W.heap.size W W') : Tn19 ta Ts mv W' := ⟨h.tt.below hb, h.emp⟩
theorem Tn19.all {ta : Option Addr} {Ts : List M.Tp} {mv : Value} {W : World} (h : Tn19 ta Ts mv W) : ∀ l, l ∈ [] :: M.tls Ts → l = [] := fun l hl => by
  rcases List.mem_cons.1 hl with rfl | hl
  · rfl
  · exact h.emp l hl
section
variable {f t : List UInt8} (hf : f.length ≤ 1000) (ht : t.length ≤ 1000)
include hf ht
omit hf ht in
theorem get19_emp (key : List UInt8) (hk : key.length ≤ 1000) (mv : Value) (ta : Option Addr) (tc : Nat) (Ts : List M.Tp) (V : World) (h : Tn19 ta Ts mv V) :
    Calls Tryz.prog 12 #[.agg #[.string (S f), .string (S t), mv, .slice ta Ts.length tc], .string (S key)] V fun e w' => e = .returned (.tuple #[.agg #[.string (S []), .int .i64 0, .string (S [])], .bool false]) ∧ Below V.heap.size V w' := by
  have h1 := get19_any f t mv ta tc [] Ts key V h.tt (by omega)
  rw [getT_emp f t key _ h.all] at h1
  exact h1
theorem range19_emp (mv : Value) (ta : Option Addr) (tc : Nat) (Ts : List M.Tp) (V : World) (h : Tn19 ta Ts mv V) :
    Calls Tryz.prog 14 #[.agg #[.string (S f), .string (S t), mv, .slice ta Ts.length tc], .string ⟨#[]⟩, .string ⟨#[]⟩] V fun e w' => ∃ ao c, e = .returned (.tuple #[.slice ao 0 c, .int .i64 0]) ∧ Below V.heap.size V w' := by
  have h1 := range19_any f t mv ta tc [] Ts [] [] V h.tt (by simp) (by omega) (by omega) (by simp) (by simp)
  rw [rangeT_emp f t [] [] _ h.all] at h1
  exact h1.mono fun e w' ⟨a, c, e1, _, hb⟩ => ⟨a, c, e1, hb⟩
theorem merge19_emp (mv : Value) (ta : Option Addr) (tc : Nat) (Ts : List M.Tp) (V : World) (h : Tn19 ta Ts mv V) :
    Calls Tryz.prog 19 #[.agg #[.string (S f), .string (S t), mv, .slice ta Ts.length tc], .nilFunc] V fun e w' => ∃ ao c, e = .returned (.tuple #[.slice ao 0 c, .int .i64 0]) ∧ Below V.heap.size V w' := by
  have h1 := merge19_nil f t mv ta tc [] Ts V h.tt (by omega) (by omega)
  rw [rangeT_emp f t [] [] _ h.emp] at h1
  exact h1.mono fun e w' ⟨a, c, e1, _, hb⟩ => ⟨a, c, e1, hb⟩
theorem middle19_emp (mv : Value) (ta : Option Addr) (tc : Nat) (Ts : List M.Tp) (V : World) (h : Tn19 ta Ts mv V) :
    Calls Tryz.prog 15 #[.agg #[.string (S f), .string (S t), mv, .slice ta Ts.length tc]] V fun e w' => e = .returned (.tuple #[.string ⟨#[]⟩, .bool false]) ∧ Below V.heap.size V w' := by
  have h1 := middle19_any f t mv ta tc [] Ts V h.tt (by simp) (by omega) (by omega)
  rw [rangeT_emp f t [] [] _ h.all] at h1
  exact h1
end
theorem tn19_zero (W : World) : Tn19 none [] (.pointer none) W := ⟨⟨.inl ⟨rfl, rfl⟩, fun h => absurd rfl h, by simp⟩, by simp [M.tls]⟩
theorem memX_row {W : World} {b : Nat} (h : RowIn #[.slice none 0 0, .int .i64 0, .bool true] 105 W b) : MemX (fun _ => False) b b [] W :=
  ⟨none, 0, [], ⟨h, ⟨World.ownsRow_nil _ _ _ _, (fun p hp => by cases hp)⟩, rfl, List.Pairwise.nil, (fun p hp => by cases hp), (fun p hp => by cases hp), (fun i j hi => absurd hi (Nat.not_lt_zero _)), Nat.le_refl _, Nat.zero_le _, (fun c hc => by cases hc)⟩, (fun p hp => by cases hp), fun k _ hx => hx⟩
theorem tn19_two {W : World} {g B b : Nat} (h : RowIn #[.pointer none, .pointer none] 59 W g) (hm : MemX (fun _ => False) B b [] W) : Tn19 (some ⟨g, 0, none⟩) [M.tp0, M.tp0] (.pointer (some ⟨b, 0, none⟩)) W :=
  have ok : TpOk W M.tp0 := ⟨(fun p hp => by cases hp), (fun _ => rfl), rfl, (by simp [M.tp0]), (by simp [M.tp0])⟩
  ⟨⟨.inr ⟨B, b, rfl, hm⟩, fun _ => ⟨g, 0, rfl, fun j hj => by
    match j, hj with
    | 0, _ => exact ⟨h.cell 0, ok⟩
    | 1, _ => exact ⟨h.cell 1, ok⟩
    | j + 2, hj => exact absurd hj (by simp)⟩, by simp⟩, by simp [M.tls, M.tp0]⟩
set_option maxHeartbeats 8000000 in
set_option maxRecDepth 100000 in
theorem tabletsNone_calls (W : World) (f : List UInt8) (hf : f.length ≤ 140737488351232) (t : List UInt8) (ht : t.length ≤ 140737488351232) (key : List UInt8) (hk : key.length ≤ 140737488351232) :
    Calls Tryz.prog 8 #[.string (S f), .string (S t), .string (S key)] W fun e w' => e = .returned (.bool true) ∧ Below W.heap.size W w' := by
  have CLV := Lib.hid lives19_any
  have HB := Lib.hid (Below.refl W.heap.size W)
  go_enter Tryz.func8, Tryz.ntmps8
  by_cases hk0 : 100 < f.length
  · have e0 : decide ((100 : Int) < (f.length : Int)) = true := by simp; omega
    go_wp2_with fail
    with_reducible refine (CLV.out _).mono ?_
    rintro e wl ⟨rfl, hbl⟩
    have HBl := Lib.hid (below_step HB.out hbl)
    go_wp2_with fail
    go_ret
    exact ⟨rfl, HBl.out⟩
  have e0 : decide ((100 : Int) < (f.length : Int)) = false := by simp; omega
  by_cases hk1 : 100 < t.length
  · have e1 : decide ((100 : Int) < (t.length : Int)) = true := by simp; omega
    go_wp2_with fail
    with_reducible refine (CLV.out _).mono ?_
    rintro e wl ⟨rfl, hbl⟩
    have HBl := Lib.hid (below_step HB.out hbl)
    go_wp2_with fail
    go_ret
    exact ⟨rfl, HBl.out⟩
  have e1 : decide ((100 : Int) < (t.length : Int)) = false := by simp; omega
  by_cases hk2 : 100 < key.length
  · have e2 : decide ((100 : Int) < (key.length : Int)) = true := by simp; omega
    go_wp2_with fail
    with_reducible refine (CLV.out _).mono ?_
    rintro e wl ⟨rfl, hbl⟩
    have HBl := Lib.hid (below_step HB.out hbl)
    go_wp2_with fail
    go_ret
    exact ⟨rfl, HBl.out⟩
  have e2 : decide ((100 : Int) < (key.length : Int)) = false := by simp; omega
  have CG := Lib.hid (get19_emp (f := f) (t := t) key (by omega))
  have CR := Lib.hid (range19_emp (f := f) (t := t) (by omega) (by omega))
  have CM := Lib.hid (merge19_emp (f := f) (t := t) (by omega) (by omega))
  have CMd := Lib.hid (middle19_emp (f := f) (t := t) (by omega) (by omega))
  have CN := Lib.hid new15_any
  clear hf ht hk
  go_wp2_with fail
  clear e0 e1 e2
  go_loopw [7] (fun i wr => ∃ k : Nat, k ≤ 2 ∧ i = .int .i64 k ∧ Hid (Below W.heap.size W wr)) (fun i _ => 2 - (intOf i).toNat)
  case atStart => exact ⟨0, by omega, rfl, HB⟩
  case round =>
    clear HB
    obtain ⟨k, hk, rfl, HB⟩ := hrel
    have hk3 : k = 0 ∨ k = 1 ∨ k = 2 := by omega
    rcases hk3 with rfl | rfl | rfl
    · have HB0 := HB
      have hal := (Below.refl wr.heap.size wr).alloc (Nat.le_refl _) (.cells #[.string (S f), .string (S t), .pointer none, .slice none 0 0] 32)
      replace HB := Lib.hid (below_step HB.out hal)
      have HBX := Lib.hid (rowIn_new #[.string (S f), .string (S t), .pointer none, .slice none 0 0] 32 wr)
      clear hal
      go_upto_region 7 with fail
      have HB8 := Lib.hid (show W.heap.size ≤ wr.heap.size from HB0.out.size)
      obtain ⟨b8, hb8⟩ : ∃ x, x = wr.heap.size := ⟨_, rfl⟩
      rw [← hb8] at HBX HB8 ⊢
      generalize wr.alloc (.cells #[.string (S f), .string (S t), .pointer none, .slice none 0 0] 32) = V0 at *
      clear hb8 HB0
      obtain ⟨mv, hmv⟩ : ∃ v, v = Value.pointer none := ⟨_, rfl⟩
      obtain ⟨tc, htc⟩ : ∃ n, n = 0 := ⟨_, rfl⟩
      obtain ⟨Ts, hTs⟩ : ∃ T : List M.Tp, T = [] := ⟨_, rfl⟩
      obtain ⟨ta, hta⟩ : ∃ a : Option Addr, a = none := ⟨_, rfl⟩
      replace HBX := Lib.hid (show RowIn #[.string (S f), .string (S t), mv, .slice ta Ts.length tc] 32 V0 b8 from by rw [hmv, hTs, hta, htc]; exact HBX.out)
      have HT := Lib.hid (show Tn19 ta Ts mv V0 from by rw [hmv, hTs, hta]; exact tn19_zero _)
      clear hmv htc hTs hta
      have s0 := HBX.out.cell 0
      have s1 := HBX.out.cell 1
      have s2 := HBX.out.cell 2
      have s3 := HBX.out.cell 3
      simp at s0 s1 s2 s3
      go_wp2_with fail
      with_reducible refine (CG.out _ _ _ _ _ HT.out).mono ?_
      rintro e w1 ⟨rfl, hbq⟩
      have hal := (Below.refl w1.heap.size w1).alloc (Nat.le_refl _) (.cells #[.string (S []), .int .i64 0, .string (S [])] 38)
      replace HT := Lib.hid ((HT.out.below hbq).below hal)
      replace HBX := Lib.hid ((HBX.out.below hbq).below hal)
      replace HB := Lib.hid (below_step (below_step HB.out hbq) hal)
      have HX := Lib.hid (rowIn_new #[.string (S []), .int .i64 0, .string (S [])] 38 w1)
      clear hbq hal s0 s1 s2 s3
      go_upto_region 11 with fail
      generalize w1.alloc (.cells #[.string (S []), .int .i64 0, .string (S [])] 38) = V1 at *
      have s0 := HBX.out.cell 0
      have s1 := HBX.out.cell 1
      have s2 := HBX.out.cell 2
      have s3 := HBX.out.cell 3
      simp at s0 s1 s2 s3
      go_wp2_with fail
      with_reducible refine (CR.out _ _ _ _ _ HT.out).mono ?_
      rintro e w2 ⟨a2, c2, rfl, hbq⟩
      replace HT := Lib.hid (HT.out.below hbq)
      replace HBX := Lib.hid (HBX.out.below hbq)
      replace HX := Lib.hid (HX.out.below hbq)
      replace HB := Lib.hid (below_step HB.out hbq)
      clear hbq s0 s1 s2 s3
      have s0 := HBX.out.cell 0
      have s1 := HBX.out.cell 1
      have s2 := HBX.out.cell 2
      have s3 := HBX.out.cell 3
      simp at s0 s1 s2 s3
      go_wp2_with fail
      with_reducible refine (CM.out _ _ _ _ _ HT.out).mono ?_
      rintro e w2 ⟨a3, c3, rfl, hbq⟩
      replace HT := Lib.hid (HT.out.below hbq)
      replace HBX := Lib.hid (HBX.out.below hbq)
      replace HX := Lib.hid (HX.out.below hbq)
      replace HB := Lib.hid (below_step HB.out hbq)
      clear hbq s0 s1 s2 s3
      have s0 := HBX.out.cell 0
      have s1 := HBX.out.cell 1
      have s2 := HBX.out.cell 2
      have s3 := HBX.out.cell 3
      simp at s0 s1 s2 s3
      go_wp2_with fail
      with_reducible refine (CMd.out _ _ _ _ _ HT.out).mono ?_
      rintro e w2 ⟨rfl, hbq⟩
      replace HT := Lib.hid (HT.out.below hbq)
      replace HBX := Lib.hid (HBX.out.below hbq)
      replace HX := Lib.hid (HX.out.below hbq)
      replace HB := Lib.hid (below_step HB.out hbq)
      clear hbq s0 s1 s2 s3
      have x0 := HX.out.cell 0
      have x1 := HX.out.cell 1
      have x2 := HX.out.cell 2
      simp at x0 x1 x2
      clear HT HBX HX
      go_wp2_with fail
      go_roundw
      case rel => exact ⟨1, by omega, rfl, HB⟩
      case measure => simp [intOf]
    · have HB0 := HB
      have hal := (Below.refl wr.heap.size wr).alloc (Nat.le_refl _) (.cells #[.string (S f), .string (S t), .pointer none, .slice none 0 0] 32)
      replace HB := Lib.hid (below_step HB.out hal)
      have HBX := Lib.hid (rowIn_new #[.string (S f), .string (S t), .pointer none, .slice none 0 0] 32 wr)
      clear hal
      go_upto_region 7 with fail
      have HB8 := Lib.hid (show W.heap.size ≤ wr.heap.size from HB0.out.size)
      obtain ⟨b8, hb8⟩ : ∃ x, x = wr.heap.size := ⟨_, rfl⟩
      rw [← hb8] at HBX HB8 ⊢
      generalize wr.alloc (.cells #[.string (S f), .string (S t), .pointer none, .slice none 0 0] 32) = V0 at *
      clear hb8 HB0
      go_wp2_with fail
      with_reducible refine (CN.out _).mono ?_
      rintro e V1 ⟨rfl, rfl⟩
      have hal := (Below.refl V0.heap.size V0).alloc (Nat.le_refl _) (.cells #[.slice none 0 0, .int .i64 0, .bool true] 105)
      have HM := Lib.hid (rowIn_new #[.slice none 0 0, .int .i64 0, .bool true] 105 V0)
      have hne : V0.heap.size ≠ b8 := fun e => by have := HBX.out.lt; omega
      replace HBX := Lib.hid (HBX.out.below hal)
      replace HB := Lib.hid (below_step HB.out hal)
      clear hal
      have x2 := HBX.out.cell 2
      have f2 := HBX.out.free 2
      simp at x2
      go_upto_region 9 with fail
      obtain ⟨bm, hbm⟩ : ∃ x, x = V0.heap.size := ⟨_, rfl⟩
      rw [← hbm] at HM hne ⊢
      generalize V0.alloc (.cells #[.slice none 0 0, .int .i64 0, .bool true] 105) = V1 at *
      clear hbm x2 f2
      replace HM := Lib.hid (HM.out.other hne 2 (.pointer (some ⟨bm, 0, none⟩)))
      replace HBX := Lib.hid (show RowIn #[.string (S f), .string (S t), .pointer (some ⟨bm, 0, none⟩), .slice none 0 0] 32 (V1.setCell ⟨b8, 2, none⟩ (.pointer (some ⟨bm, 0, none⟩))) b8 from HBX.out.set 2 _)
      replace HB := Lib.hid (HB.out.setCell HB8.out (p := ⟨b8, 2, none⟩) (.pointer (some ⟨bm, 0, none⟩)))
      generalize V1.setCell ⟨b8, 2, none⟩ (.pointer (some ⟨bm, 0, none⟩)) = V2 at *
      have hal := (Below.refl V2.heap.size V2).alloc (Nat.le_refl _) (.cells #[.pointer none, .pointer none] 59)
      have HP := Lib.hid (rowIn_new #[.pointer none, .pointer none] 59 V2)
      have hne2 : V2.heap.size ≠ b8 := fun e => by have := HBX.out.lt; omega
      replace HM := Lib.hid (HM.out.below hal)
      replace HBX := Lib.hid (HBX.out.below hal)
      replace HB := Lib.hid (below_step HB.out hal)
      clear hal
      have x3 := HBX.out.cell 3
      have f3 := HBX.out.free 3
      simp at x3
      go_upto_region 10 with fail
      obtain ⟨bp, hbp⟩ : ∃ x, x = V2.heap.size := ⟨_, rfl⟩
      rw [← hbp] at HP hne2 ⊢
      generalize V2.alloc (.cells #[.pointer none, .pointer none] 59) = V3 at *
      clear hbp x3 f3
      replace HM := Lib.hid (HM.out.other hne 3 (.slice (some ⟨bp, 0, none⟩) 2 2))
      replace HP := Lib.hid (HP.out.other hne2 3 (.slice (some ⟨bp, 0, none⟩) 2 2))
      replace HBX := Lib.hid (show RowIn #[.string (S f), .string (S t), .pointer (some ⟨bm, 0, none⟩), .slice (some ⟨bp, 0, none⟩) 2 2] 32 (V3.setCell ⟨b8, 3, none⟩ (.slice (some ⟨bp, 0, none⟩) 2 2)) b8 from HBX.out.set 3 _)
      replace HB := Lib.hid (HB.out.setCell HB8.out (p := ⟨b8, 3, none⟩) (.slice (some ⟨bp, 0, none⟩) 2 2))
      generalize V3.setCell ⟨b8, 3, none⟩ (.slice (some ⟨bp, 0, none⟩) 2 2) = V4 at *
      obtain ⟨mv, hmv⟩ : ∃ v, v = Value.pointer (some ⟨bm, 0, none⟩) := ⟨_, rfl⟩
      obtain ⟨tc, htc⟩ : ∃ n, n = 2 := ⟨_, rfl⟩
      obtain ⟨Ts, hTs⟩ : ∃ T : List M.Tp, T = [M.tp0, M.tp0] := ⟨_, rfl⟩
      obtain ⟨ta, hta⟩ : ∃ a : Option Addr, a = some ⟨bp, 0, none⟩ := ⟨_, rfl⟩
      replace HBX := Lib.hid (show RowIn #[.string (S f), .string (S t), mv, .slice ta Ts.length tc] 32 V4 b8 from by rw [hmv, hTs, hta, htc]; exact HBX.out)
      have HT := Lib.hid (show Tn19 ta Ts mv V4 from by rw [hmv, hTs, hta]; exact tn19_two HP.out (memX_row HM.out))
      clear hmv htc hTs hta HP HM hne hne2
      have s0 := HBX.out.cell 0
      have s1 := HBX.out.cell 1
      have s2 := HBX.out.cell 2
      have s3 := HBX.out.cell 3
      simp at s0 s1 s2 s3
      go_wp2_with fail
      with_reducible refine (CG.out _ _ _ _ _ HT.out).mono ?_
      rintro e w1 ⟨rfl, hbq⟩
      have hal := (Below.refl w1.heap.size w1).alloc (Nat.le_refl _) (.cells #[.string (S []), .int .i64 0, .string (S [])] 38)
      replace HT := Lib.hid ((HT.out.below hbq).below hal)
      replace HBX := Lib.hid ((HBX.out.below hbq).below hal)
      replace HB := Lib.hid (below_step (below_step HB.out hbq) hal)
      have HX := Lib.hid (rowIn_new #[.string (S []), .int .i64 0, .string (S [])] 38 w1)
      clear hbq hal s0 s1 s2 s3
      go_upto_region 11 with fail
      generalize w1.alloc (.cells #[.string (S []), .int .i64 0, .string (S [])] 38) = V1 at *
      have s0 := HBX.out.cell 0
      have s1 := HBX.out.cell 1
      have s2 := HBX.out.cell 2
      have s3 := HBX.out.cell 3
      simp at s0 s1 s2 s3
      go_wp2_with fail
      with_reducible refine (CR.out _ _ _ _ _ HT.out).mono ?_
      rintro e w2 ⟨a2, c2, rfl, hbq⟩
      replace HT := Lib.hid (HT.out.below hbq)
      replace HBX := Lib.hid (HBX.out.below hbq)
      replace HX := Lib.hid (HX.out.below hbq)
      replace HB := Lib.hid (below_step HB.out hbq)
      clear hbq s0 s1 s2 s3
      have s0 := HBX.out.cell 0
      have s1 := HBX.out.cell 1
      have s2 := HBX.out.cell 2
      have s3 := HBX.out.cell 3
      simp at s0 s1 s2 s3
      go_wp2_with fail
      with_reducible refine (CM.out _ _ _ _ _ HT.out).mono ?_
      rintro e w2 ⟨a3, c3, rfl, hbq⟩
      replace HT := Lib.hid (HT.out.below hbq)
      replace HBX := Lib.hid (HBX.out.below hbq)
      replace HX := Lib.hid (HX.out.below hbq)
      replace HB := Lib.hid (below_step HB.out hbq)
      clear hbq s0 s1 s2 s3
      have s0 := HBX.out.cell 0
      have s1 := HBX.out.cell 1
      have s2 := HBX.out.cell 2
      have s3 := HBX.out.cell 3
      simp at s0 s1 s2 s3
      go_wp2_with fail
      with_reducible refine (CMd.out _ _ _ _ _ HT.out).mono ?_
      rintro e w2 ⟨rfl, hbq⟩
      replace HT := Lib.hid (HT.out.below hbq)
      replace HBX := Lib.hid (HBX.out.below hbq)
      replace HX := Lib.hid (HX.out.below hbq)
      replace HB := Lib.hid (below_step HB.out hbq)
      clear hbq s0 s1 s2 s3
      have x0 := HX.out.cell 0
      have x1 := HX.out.cell 1
      have x2 := HX.out.cell 2
      simp at x0 x1 x2
      clear HT HBX HX
      go_wp2_with fail
      go_roundw
      case rel => exact ⟨2, by omega, rfl, HB⟩
      case measure => simp [intOf]
    · go_wp2_with fail
      with_reducible refine (CLV.out _).mono ?_
      rintro e wl ⟨rfl, hbl⟩
      have HBl := Lib.hid (below_step HB.out hbl)
      go_wp2_with fail
      go_ret
      exact ⟨rfl, HBl.out⟩

end Go.Proofs.YtnhljlmelbiljaaGreat
