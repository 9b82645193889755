/- Layer 19: the chapter's tablet, by a contract. -/
import Derived.Test.YtnhljlmelbiljaaGreatTbltV
import Derived.Deep.CutRange
namespace Go.Proofs.YtnhljlmelbiljaaGreat
set_option linter.unusedVariables false
set_option linter.unusedSimpArgs false
open Go Go.RowKit
attribute [local go_sem ↓] run_index_S
attribute [local go_sem] S_append S_extract

/-- What is known of what was made. -/
structure Mk19 (K0 : List M.Cl) (b : Nat) (ta : Option Addr) (Ts : List M.Tp) (ro : Option Addr) (Rs : List M.Rw) (W : World) : Prop where
  tt : TtAt W (.pointer (some ⟨b, 0, none⟩)) ta K0 Ts
  mx : ∃ B, MemX (fun _ => False) B b K0 W
  rr : RwsAt W ro Rs
theorem Mk19.below {K0 : List M.Cl} {b : Nat} {ta : Option Addr} {Ts : List M.Tp} {ro : Option Addr} {Rs : List M.Rw} {W W' : World} (h : Mk19 K0 b ta Ts ro Rs W) (hb : Below W.heap.size W W') : Mk19 K0 b ta Ts ro Rs W' := by
  obtain ⟨B, hm⟩ := h.mx
  exact ⟨h.tt.below hb, ⟨B, hm.below hb⟩, h.rr.below hb⟩
structure Mq19 (K0 : List M.Cl) (Ts : List M.Tp) (Rs : List M.Rw) : Prop where
  same : M.rls Rs = K0 :: M.tls Ts
  ok : ∀ l, l ∈ K0 :: M.tls Ts → OkL l
  n : Ts.length ≤ 5
  rn : Rs.length ≤ 6
  l0 : K0.length ≤ 40
  lt : ∀ l, l ∈ M.tls Ts → l.length ≤ 40
  lr : ∀ r, r ∈ Rs → r.l.length ≤ 40
  st : StR Rs
  okr : ∀ r, r ∈ Rs → ∀ c, c ∈ r.l → ClOk c
theorem Mq19.pw {K0 : List M.Cl} {Ts : List M.Tp} {Rs : List M.Rw} (h : Mq19 K0 Ts Rs) : M.PW (K0 :: M.tls Ts) := okL_pw h.ok
theorem Mq19.pwt {K0 : List M.Cl} {Ts : List M.Tp} {Rs : List M.Rw} (h : Mq19 K0 Ts Rs) : M.PW (M.tls Ts) := okL_pw (fun l hl => h.ok l (List.mem_cons_of_mem _ hl))
theorem puts_small {L : List M.Cl} (h : L.length ≤ 40) : (M.putsL [] L).length ≤ 40 := by
  have := M.puts_len L []
  simp at this
  omega
theorem MadeAt.kit {x : M.Da} {b : Nat} {ta : Option Addr} {Ts : List M.Tp} {ro : Option Addr} {Rs : List M.Rw} {w w' : World} (h : MadeAt x b ta Ts ro Rs w w') (hs : SmallDa x) : Mk19 (M.putsL [] x.L) b ta Ts ro Rs w' ∧ Mq19 (M.putsL [] x.L) Ts Rs := by
  obtain ⟨B, hm⟩ := h.mem
  have hTn : Ts.length = x.R.length := by
    have := congrArg List.length h.tls
    simpa [M.tls] using this
  have hRn : Rs.length = Ts.length + 1 := by
    have := congrArg List.length h.same
    simpa [M.rls, M.tls] using this
  have h5 := hs.n
  have h0 := puts_small hs.l.1
  have hlt : ∀ l, l ∈ M.tls Ts → l.length ≤ 40 := fun l hl => by
    rw [h.tls] at hl
    obtain ⟨r, hr, rfl⟩ := List.mem_map.1 hl
    exact puts_small (hs.each r hr).1
  have hm0 : MmAt w' (.pointer (some ⟨b, 0, none⟩)) (M.putsL [] x.L) := .inr ⟨B, b, rfl, hm⟩
  have hok : ∀ l, l ∈ M.putsL [] x.L :: M.tls Ts → OkL l := fun l hl => by
    rcases List.mem_cons.1 hl with rfl | hl
    · exact hm0.okL (by omega)
    · exact h.tabs.okL l hl
  have hR : ∀ r, r ∈ Rs → r.l ∈ M.putsL [] x.L :: M.tls Ts := fun r hr => by
    rw [← h.same]; exact List.mem_map.2 ⟨r, hr, rfl⟩
  refine ⟨⟨⟨hm0, h.tabs, by omega⟩, ⟨B, hm⟩, h.rows⟩, ⟨h.same, hok, by omega, by omega, h0, hlt, fun r hr => ?_, fun r hr => (hok _ (hR r hr)).stt, fun r hr => (hok _ (hR r hr)).2.2⟩⟩
  rcases List.mem_cons.1 (hR r hr) with e | e
  · rw [e]; exact h0
  · exact hlt _ e
/-! The chapter's tablet. -/
def M.ta19 : M.Cl := ⟨[97], 5, []⟩
def M.tb19 : M.Cl := ⟨[97], 3, []⟩
def M.tc19 : M.Cl := ⟨[98], 2, []⟩
def M.td19 : M.Cl := ⟨[122], 1, []⟩
theorem M.puts19 : M.putsL [] [M.ta19] = [M.ta19] ∧ M.putsL [] [M.tb19, M.tc19, M.td19] = [M.tb19, M.tc19, M.td19] := by decide
theorem M.get19 : M.getT [] [109] [[M.ta19], [M.tb19, M.tc19, M.td19]] [97] = some M.ta19 ∧ M.getT [] [109] [[M.ta19], [M.tb19, M.tc19, M.td19]] [98] = some M.tc19 ∧ M.getT [] [109] [[M.ta19], [M.tb19, M.tc19, M.td19]] [122] = none := by decide
theorem M.range19 : M.refRange [] [109] [[M.ta19], [M.tb19, M.tc19, M.td19]] [] [] = [M.ta19, M.tc19] ∧ M.refRange [] [109] [[M.tb19, M.tc19, M.td19]] [] [] = [M.tb19, M.tc19] := by decide
def da19 (b0 b1 b2 : Nat) : M.Da := ⟨[], [109], [M.ta19], some ⟨b0, 0, none⟩, 1, [⟨[M.tb19, M.tc19, M.td19], some ⟨b1, 0, none⟩, 3⟩], some ⟨b2, 0, none⟩, 1⟩
theorem small19 (b0 b1 b2 : Nat) : SmallDa (da19 b0 b1 b2) := by
  refine ⟨by simp [da19], by simp [da19], ⟨by simp [da19], fun c hc => ?_⟩, by simp [da19], fun r hr => ?_⟩
  · simp only [da19, List.mem_singleton] at hc
    subst hc
    simp [SmallC, M.ta19]
  · simp only [da19, List.mem_singleton] at hr
    subst hr
    refine ⟨by simp, fun c hc => ?_⟩
    simp only [List.mem_cons, List.not_mem_nil, or_false] at hc
    rcases hc with rfl | rfl | rfl <;> simp [SmallC, M.tb19, M.tc19, M.td19]
theorem ok19 : ClOk M.ta19 ∧ ClOk M.tb19 ∧ ClOk M.tc19 ∧ ClOk M.td19 := by
  unfold ClOk M.ta19 M.tb19 M.tc19 M.td19
  simp
  refine ⟨?_, ?_, ?_, ?_⟩ <;> (constructor <;> simp)
/-- What is known in the example. -/
structure Lv19 (w : World) (b1 b : Nat) (ta : Option Addr) (tc : Nat) (Ts : List M.Tp) (ro : Option Addr) (Rs : List M.Rw) (W : World) : Prop where
  kit : Mk19 [M.ta19] b ta Ts ro Rs W
  bx : RowIn #[.string (S []), .string (S [109]), .pointer (some ⟨b, 0, none⟩), .slice ta Ts.length tc] 32 W b1
  bel : Below w.heap.size w W
theorem Lv19.below {w : World} {b1 b : Nat} {ta : Option Addr} {tc : Nat} {Ts : List M.Tp} {ro : Option Addr} {Rs : List M.Rw} {W W' : World} (h : Lv19 w b1 b ta tc Ts ro Rs W) (hb : Below W.heap.size W W') : Lv19 w b1 b ta tc Ts ro Rs W' := ⟨h.kit.below hb, h.bx.below hb, below_step h.bel hb⟩
theorem Lv19.s {w : World} {b1 b : Nat} {ta : Option Addr} {tc : Nat} {Ts : List M.Tp} {ro : Option Addr} {Rs : List M.Rw} {W : World} (h : Lv19 w b1 b ta tc Ts ro Rs W) : W.cell? ⟨b1, 0, none⟩ = some (.string (S [])) ∧ W.cell? ⟨b1, 1, none⟩ = some (.string (S [109])) ∧ W.cell? ⟨b1, 2, none⟩ = some (.pointer (some ⟨b, 0, none⟩)) ∧ W.cell? ⟨b1, 3, none⟩ = some (.slice ta Ts.length tc) :=
  ⟨h.bx.cell 0, h.bx.cell 1, h.bx.cell 2, h.bx.cell 3⟩
set_option maxHeartbeats 8000000 in
set_option maxRecDepth 100000 in
theorem lives19_any (w : World) : Calls Tryz.prog 10 #[] w fun e w' => e = .returned (.bool true) ∧ Below w.heap.size w w' := by
  obtain ⟨W0, hW0⟩ : ∃ W, W = ((w.alloc (.cells #[.string ⟨#[97]⟩, .int .i64 5, .string ⟨#[]⟩] 38)).alloc (.cells #[.string ⟨#[97]⟩, .int .i64 3, .string ⟨#[]⟩, .string ⟨#[98]⟩, .int .i64 2, .string ⟨#[]⟩, .string ⟨#[122]⟩, .int .i64 1, .string ⟨#[]⟩] 38)).alloc (.cells #[.slice (some ⟨w.heap.size + 1, 0, none⟩) 3 3] 22) := ⟨_, rfl⟩
  have HB0 := Lib.hid (show Below w.heap.size w W0 from by
    rw [hW0]
    exact (((Below.refl w.heap.size w).alloc (Nat.le_refl _) _).alloc (by rw [szA]; omega) _).alloc (by rw [szA, szA]; omega) _)
  have HDA := Lib.hid (show DaAt W0 (da19 w.heap.size (w.heap.size + 1) (w.heap.size + 1 + 1)) from by
    have h0 : RowIn #[.string ⟨#[97]⟩, .int .i64 5, .string ⟨#[]⟩] 38 W0 w.heap.size := by rw [hW0]; exact ((rowIn_new _ _ w).more _).more _
    have h1 : RowIn #[.string ⟨#[97]⟩, .int .i64 3, .string ⟨#[]⟩, .string ⟨#[98]⟩, .int .i64 2, .string ⟨#[]⟩, .string ⟨#[122]⟩, .int .i64 1, .string ⟨#[]⟩] 38 W0 (w.heap.size + 1) := by
      rw [hW0]
      refine RowIn.more ?_ _
      exact rowIn_at _ _ _ _ (by rw [szA])
    have h2 : RowIn #[.slice (some ⟨w.heap.size + 1, 0, none⟩) 3 3] 22 W0 (w.heap.size + 1 + 1) := by rw [hW0]; exact rowIn_at _ _ _ _ (by rw [szA, szA])
    refine ⟨clsAt_row h0 rfl, fun _ => ⟨w.heap.size + 1 + 1, 0, rfl, fun j hj => ?_⟩⟩
    match j, hj with
    | 0, _ => exact ⟨h2.cell 0, clsAt_row h1 rfl⟩
    | j + 1, hj => simp [da19] at hj)
  have CM := Lib.hid (show Calls Tryz.prog 11 #[.agg #[.string ⟨#[]⟩, .string ⟨#[109]⟩, .slice (some ⟨w.heap.size, 0, none⟩) 1 1, .slice (some ⟨w.heap.size + 1 + 1, 0, none⟩) 1 1]] W0 (fun e w' => ∃ b ta tc Ts ro rc Rs, e = .returned (.tuple #[.agg #[.string (S []), .string (S [109]), .pointer (some ⟨b, 0, none⟩), .slice ta (Ts : List M.Tp).length tc], .agg #[.string (S []), .string (S [109]), .slice ro (Rs : List M.Rw).length rc], .bool true]) ∧ MadeAt (da19 w.heap.size (w.heap.size + 1) (w.heap.size + 1 + 1)) b ta Ts ro Rs W0 w' ∧ Rs.length ≤ rc) from made19_any _ W0 HDA.out (small19 _ _ _) (fun c hc => by
    simp only [da19, List.mem_singleton] at hc
    subst hc
    exact ok19.1) (fun r hr c hc => by
    simp only [da19, List.mem_singleton] at hr
    subst hr
    simp only [List.mem_cons, List.not_mem_nil, or_false] at hc
    rcases hc with rfl | rfl | rfl
    · exact ok19.2.1
    · exact ok19.2.2.1
    · exact ok19.2.2.2))
  clear HDA
  go_enter Tryz.func10, Tryz.ntmps10
  go_wp2_with fail
  rw [← hW0]
  clear hW0
  with_reducible refine (CM.out).mono ?_
  rintro e w1 ⟨b, ta, tc, Ts, ro, rc, Rs, rfl, hmd, -⟩
  have hmk := hmd.kit (small19 _ _ _)
  have hsame := hmd.same
  have htls := hmd.tls
  have hb1 := hmd.bel
  simp only [da19, M.puts19.1, M.puts19.2, List.map_cons, List.map_nil] at hmk hsame htls
  have HMK := Lib.hid hmk.1
  have HMQ := Lib.hid hmk.2
  have HTL := Lib.hid htls
  have HB1 := Lib.hid (below_step HB0.out hb1)
  clear hmd hmk hsame htls hb1 HB0 CM
  go_wp2_with fail
  have HL := Lib.hid (show Lv19 w w1.heap.size b ta tc Ts ro Rs ((w1.alloc (.cells #[.string (S []), .string (S [109]), .pointer (some ⟨b, 0, none⟩), .slice ta Ts.length tc] 32)).alloc (.cells #[.string (S []), .string (S [109]), .slice ro Rs.length rc] 34)) from by
    have hb : Below w1.heap.size w1 ((w1.alloc (.cells #[.string (S []), .string (S [109]), .pointer (some ⟨b, 0, none⟩), .slice ta Ts.length tc] 32)).alloc (.cells #[.string (S []), .string (S [109]), .slice ro Rs.length rc] 34)) := ((Below.refl _ _).alloc (Nat.le_refl _) _).alloc (by rw [szA]; omega) _
    exact ⟨HMK.out.below hb, (rowIn_new _ _ w1).more _, below_step HB1.out hb⟩)
  generalize ((w1.alloc (.cells #[.string (S []), .string (S [109]), .pointer (some ⟨b, 0, none⟩), .slice ta Ts.length tc] 32)).alloc (.cells #[.string (S []), .string (S [109]), .slice ro Rs.length rc] 34)) = W2 at *
  obtain ⟨b1, hb1⟩ : ∃ x, x = w1.heap.size := ⟨_, rfl⟩
  replace HL := Lib.hid (show Lv19 w b1 b ta tc Ts ro Rs W2 from by rw [hb1]; exact HL.out)
  rw [← hb1]
  clear hb1 HMK HB1
  have CG1 := Lib.hid (show Calls Tryz.prog 12 #[.agg #[.string (S []), .string (S [109]), .pointer (some ⟨b, 0, none⟩), .slice ta Ts.length tc], .string ⟨#[97]⟩] W2 (fun e w' => e = .returned (.tuple #[.agg #[.string ⟨#[97]⟩, .int .i64 5, .string ⟨#[]⟩], .bool true]) ∧ Below W2.heap.size W2 w') from by
    have := get19_any [] [109] (.pointer (some ⟨b, 0, none⟩)) ta tc [M.ta19] Ts [97] W2 HL.out.kit.tt (by simp)
    rw [HTL.out, M.get19.1] at this
    exact this)
  with_reducible refine (CG1.out).mono ?_
  rintro e v1 ⟨rfl, hbq⟩
  have hal := (Below.refl v1.heap.size v1).alloc (Nat.le_refl _) (.cells #[.string ⟨#[97]⟩, .int .i64 5, .string ⟨#[]⟩] 38)
  replace HL := Lib.hid ((HL.out.below hbq).below hal)
  have HX1 := Lib.hid (rowIn_new #[.string ⟨#[97]⟩, .int .i64 5, .string ⟨#[]⟩] 38 v1)
  obtain ⟨s0, s1, s2, s3⟩ := HL.out.s
  clear hal hbq CG1
  go_upto_region 3 with fail
  generalize v1.alloc (.cells #[.string ⟨#[97]⟩, .int .i64 5, .string ⟨#[]⟩] 38) = W3 at *
  have CG2 := Lib.hid (show Calls Tryz.prog 12 #[.agg #[.string (S []), .string (S [109]), .pointer (some ⟨b, 0, none⟩), .slice ta Ts.length tc], .string ⟨#[98]⟩] W3 (fun e w' => e = .returned (.tuple #[.agg #[.string ⟨#[98]⟩, .int .i64 2, .string ⟨#[]⟩], .bool true]) ∧ Below W3.heap.size W3 w') from by
    have := get19_any [] [109] (.pointer (some ⟨b, 0, none⟩)) ta tc [M.ta19] Ts [98] W3 HL.out.kit.tt (by simp)
    rw [HTL.out, M.get19.2.1] at this
    exact this)
  go_wp2_with fail
  clear s0 s1 s2 s3
  with_reducible refine (CG2.out).mono ?_
  rintro e v2 ⟨rfl, hbq⟩
  have hal := (Below.refl v2.heap.size v2).alloc (Nat.le_refl _) (.cells #[.string ⟨#[98]⟩, .int .i64 2, .string ⟨#[]⟩] 38)
  replace HL := Lib.hid ((HL.out.below hbq).below hal)
  replace HX1 := Lib.hid ((HX1.out.below hbq).below hal)
  have HX2 := Lib.hid (rowIn_new #[.string ⟨#[98]⟩, .int .i64 2, .string ⟨#[]⟩] 38 v2)
  obtain ⟨s0, s1, s2, s3⟩ := HL.out.s
  clear hal hbq CG2
  go_upto_region 4 with fail
  generalize v2.alloc (.cells #[.string ⟨#[98]⟩, .int .i64 2, .string ⟨#[]⟩] 38) = W4 at *
  have CG3 := Lib.hid (show Calls Tryz.prog 12 #[.agg #[.string (S []), .string (S [109]), .pointer (some ⟨b, 0, none⟩), .slice ta Ts.length tc], .string ⟨#[122]⟩] W4 (fun e w' => e = .returned (.tuple #[.agg #[.string ⟨#[]⟩, .int .i64 0, .string ⟨#[]⟩], .bool false]) ∧ Below W4.heap.size W4 w') from by
    have := get19_any [] [109] (.pointer (some ⟨b, 0, none⟩)) ta tc [M.ta19] Ts [122] W4 HL.out.kit.tt (by simp)
    rw [HTL.out, M.get19.2.2] at this
    exact this)
  go_wp2_with fail
  clear s0 s1 s2 s3
  with_reducible refine (CG3.out).mono ?_
  rintro e v3 ⟨rfl, hbq⟩
  have hal := (Below.refl v3.heap.size v3).alloc (Nat.le_refl _) (.cells #[.string ⟨#[]⟩, .int .i64 0, .string ⟨#[]⟩] 38)
  replace HL := Lib.hid ((HL.out.below hbq).below hal)
  replace HX1 := Lib.hid ((HX1.out.below hbq).below hal)
  replace HX2 := Lib.hid ((HX2.out.below hbq).below hal)
  have HX3 := Lib.hid (rowIn_new #[.string ⟨#[]⟩, .int .i64 0, .string ⟨#[]⟩] 38 v3)
  obtain ⟨s0, s1, s2, s3⟩ := HL.out.s
  clear hal hbq CG3
  go_upto_region 5 with fail
  generalize v3.alloc (.cells #[.string ⟨#[]⟩, .int .i64 0, .string ⟨#[]⟩] 38) = W5 at *
  have CR := Lib.hid (show Calls Tryz.prog 14 #[.agg #[.string (S []), .string (S [109]), .pointer (some ⟨b, 0, none⟩), .slice ta Ts.length tc], .string ⟨#[]⟩, .string ⟨#[]⟩] W5 (fun e w' => ∃ ao c, e = .returned (.tuple #[.slice ao 2 c, .int .i64 0]) ∧ w'.ownsRow W5.heap.size 38 3 (.slice ao 2 c) 2 (cls [M.ta19, M.tc19]) ∧ Below W5.heap.size W5 w') from by
    have := range19_any [] [109] (.pointer (some ⟨b, 0, none⟩)) ta tc [M.ta19] Ts [] [] W5 HL.out.kit.tt (by simp) (by simp) (by simp) (by simp) (by simp)
    rw [← M.refRange_eq [] [109] HMQ.out.pw, HTL.out, M.range19.1] at this
    exact this)
  go_wp2_with fail
  clear s0 s1 s2 s3
  with_reducible refine (CR.out).mono ?_
  rintro e v4 ⟨a4, c4, rfl, ho4, hbq⟩
  replace HL := Lib.hid (HL.out.below hbq)
  replace HX1 := Lib.hid (HX1.out.below hbq)
  replace HX2 := Lib.hid (HX2.out.below hbq)
  replace HX3 := Lib.hid (HX3.out.below hbq)
  have HC4 := Lib.hid (clsAt_own ho4 rfl)
  obtain ⟨s0, s1, s2, s3⟩ := HL.out.s
  have CE := Lib.hid (show Calls Tryz.prog 19 #[.agg #[.string (S []), .string (S [109]), .pointer (some ⟨b, 0, none⟩), .slice ta Ts.length tc], .nilFunc] v4 (fun e w' => ∃ ao c, e = .returned (.tuple #[.slice ao 2 c, .int .i64 0]) ∧ w'.ownsRow v4.heap.size 38 3 (.slice ao 2 c) 2 (cls [M.tb19, M.tc19]) ∧ Below v4.heap.size v4 w') from by
    have := merge19_nil [] [109] (.pointer (some ⟨b, 0, none⟩)) ta tc [M.ta19] Ts v4 HL.out.kit.tt (by simp) (by simp)
    rw [← M.refRange_eq [] [109] HMQ.out.pwt, HTL.out, M.range19.2] at this
    exact this)
  clear hbq ho4 CR
  go_wp2_with fail
  clear s0 s1 s2 s3
  with_reducible refine (CE.out).mono ?_
  rintro e v5 ⟨a5, c5, rfl, ho5, hbq⟩
  replace HL := Lib.hid (HL.out.below hbq)
  replace HX1 := Lib.hid (HX1.out.below hbq)
  replace HX2 := Lib.hid (HX2.out.below hbq)
  replace HX3 := Lib.hid (HX3.out.below hbq)
  replace HC4 := carry hbq HC4
  have HC5 := Lib.hid (clsAt_own ho5 rfl)
  clear hbq ho5 CE
  obtain ⟨g4, o4, rfl, h4⟩ := HC4.out (by simp)
  obtain ⟨g5, o5, rfl, h5⟩ := HC5.out (by simp)
  obtain ⟨-, p4, -⟩ := h4 0 (by simp)
  obtain ⟨-, p5, -⟩ := h5 0 (by simp)
  have q4 : v5.cell? ⟨g4, o4 + 1, none⟩ = some (.int .i64 5) := by simpa [M.ta19] using p4
  have q5 : v5.cell? ⟨g5, o5 + 1, none⟩ = some (.int .i64 3) := by simpa [M.tb19] using p5
  have z1 := HX1.out.cell 1
  have z2 := HX2.out.cell 1
  simp at z1 z2
  clear p4 p5 h4 h5
  go_wp2_with fail
  go_ret
  exact ⟨rfl, HL.out.bel⟩

end Go.Proofs.YtnhljlmelbiljaaGreat
