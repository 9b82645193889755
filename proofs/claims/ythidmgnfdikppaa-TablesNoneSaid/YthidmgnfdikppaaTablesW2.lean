/- Layer 10: TablesTorn, walked. -/
import Derived.Test.YthidmgnfdikppaaTablesW1
namespace Go.Proofs.Ythidmgnfdikppaa
set_option linter.unusedVariables false
open Go Go.RowKit
attribute [local go_sem ↓] run_index_S
attribute [local go_sem] S_append S_extract

theorem u32_wf10 {n : Int} (h : (Lit.int .u32 n).wf = true) : 0 ≤ n ∧ n ≤ 4294967295 := by
  simp [Lit.wf, IntKind.min, IntKind.max, IntKind.signed, IntKind.bits] at h
  omega
theorem M.many_cons {K : List M.Cl} (h : K ≠ []) : M.many K = M.many (K.drop 4) + 1 := by
  have := List.length_pos_iff.2 h
  unfold M.many
  rw [List.length_drop]
  omega
/-- An index does not begin as a block does. -/
def M.noBlk (R : List UInt8) : Prop := ∀ (c : M.Cl) (r : List M.Cl) (y z : List UInt8), M.srt none (c :: r) = true → (c :: r).length ≤ 4 → R ++ y ≠ M.encCs (c :: r) ++ z
theorem M.gets_head (n : Nat) (h : n ≤ 9223372036854775807) (z : List UInt8) : M.gets (M.putN n ++ z) 0 = some (n, (M.putN n).length) := by
  have e := M.getsP (s := M.putN n ++ z) (a := []) (c := z) (n := n) (i := 0) h (by simp) rfl
  simpa using e
theorem M.putN_head {m n : Nat} (hm : m ≤ 9223372036854775807) (hn : n ≤ 9223372036854775807) {x y : List UInt8} (h : M.putN m ++ x = M.putN n ++ y) : m = n ∧ x = y := by
  have e1 := M.gets_head m hm x
  rw [h, M.gets_head n hn y] at e1
  injection e1 with e1
  injection e1 with e1 e2
  subst e1
  exact ⟨rfl, List.append_cancel_left h⟩
theorem M.idx_noBlk {K : List M.Cl} (hs : M.srt none K = true) (hn : K.length ≤ 4096) : M.noBlk (M.idxT K) := by
  intro c r y z h1 h2 h
  have hm : M.many K ≤ 1025 := by unfold M.many; omega
  have e1 : M.encCs (c :: r) ++ z = M.putN (c :: r).length ++ (M.putN 0 ++ (M.putT c.key ++ M.putN c.seq.toNat ++ M.putT c.val ++ M.encL c.key r ++ z)) := by
    have e0 : M.com [] c.key = 0 := by simp [M.com]
    rw [M.encCs, M.encL, M.encOne, e0, List.drop_zero]
    simp only [List.append_assoc]
  rw [e1, M.idxT, List.append_assoc] at h
  obtain ⟨g1, g2⟩ := M.putN_head (by omega) (by omega) h
  have hK : K ≠ [] := by
    rintro rfl
    simp [M.many] at g1
  rw [M.many_cons hK, M.idxS, M.entB, M.putT] at g2
  simp only [List.append_assoc] at g2
  have hp := List.length_pos_iff.2 hK
  have hk := M.mayC_true.1 (M.srt_may hs _ (M.getD_memC (j := 0) hp))
  have g3 := (M.putN_head (by omega) (by omega) g2).1
  omega
theorem M.body_pre : ∀ (n : Nat) (K L : List M.Cl) (RK RL y z : List UInt8), K.length ≤ 4 * n → L.length ≤ 4 * n → M.srt none K = true → M.srt none L = true → (∀ c ∈ K, c.seq ≤ 9223372036854775807) → (∀ c ∈ L, c.seq ≤ 9223372036854775807) → M.noBlk RK → M.noBlk RL →
    M.bodyS (M.many K) K ++ (RK ++ y) = M.bodyS (M.many L) L ++ (RL ++ z) → K = L
  | 0, K, L, _, _, _, _, hk, hl, _, _, _, _, _, _, _ => by
    rw [List.eq_nil_of_length_eq_zero (by omega : K.length = 0), List.eq_nil_of_length_eq_zero (by omega : L.length = 0)]
  | n + 1, K, L, RK, RL, y, z, hk, hl, sk, sl, qk, ql, bk, bl, h => by
    have ft : ∀ (M' : List M.Cl), M' ≠ [] → M.srt none M' = true → ∃ c r, M'.take 4 = c :: r ∧ M.srt none (c :: r) = true ∧ (c :: r).length ≤ 4 := fun M' hM hs => by
      cases M' with
      | nil => exact absurd rfl hM
      | cons c r => exact ⟨c, r.take 3, rfl, by have := M.srt_take10 hs 4; exact this, by simp; omega⟩
    have un : ∀ (M' : List M.Cl), M' ≠ [] → M.bodyS (M.many M') M' = M.encCs (M'.take 4) ++ (M.big 4 (M.sumP (M.encCs (M'.take 4))) ++ M.bodyS (M.many (M'.drop 4)) (M'.drop 4)) := fun M' hM => by
      rw [M.many_cons hM, M.bodyS, M.wsum, List.append_assoc]
    by_cases e1 : K = []
    · by_cases e2 : L = []
      · rw [e1, e2]
      · exfalso
        subst e1
        obtain ⟨c, r, f1, f2, f3⟩ := ft L e2 sl
        rw [un L e2, f1] at h
        have h0 : M.bodyS (M.many []) [] = [] := rfl
        rw [h0, List.nil_append] at h
        simp only [List.append_assoc] at h
        exact bk c r y _ f2 f3 h
    · by_cases e2 : L = []
      · exfalso
        subst e2
        obtain ⟨c, r, f1, f2, f3⟩ := ft K e1 sk
        rw [un K e1, f1] at h
        have h0 : M.bodyS (M.many []) [] = [] := rfl
        rw [h0, List.nil_append] at h
        simp only [List.append_assoc] at h
        exact bl c r z _ f2 f3 h.symm
      · rw [un K e1, un L e2] at h
        simp only [List.append_assoc] at h
        have e := M.enc_pre10 (M.srt_take10 sk 4) (M.srt_take10 sl 4) (fun c hc => qk c (List.mem_of_mem_take hc)) (fun c hc => ql c (List.mem_of_mem_take hc)) (by simp; omega) (by simp; omega) h
        rw [e] at h
        have h2 := List.append_cancel_left (List.append_cancel_left h)
        have e2 := M.body_pre n (K.drop 4) (L.drop 4) RK RL y z (by simp; omega) (by simp; omega) (M.srt_drop sk 4) (M.srt_drop sl 4) (fun c hc => qk c (List.mem_of_mem_drop hc)) (fun c hc => ql c (List.mem_of_mem_drop hc)) bk bl h2
        rw [← List.take_append_drop 4 K, ← List.take_append_drop 4 L, e, e2]
/-- A table's text with something behind it is none. -/
theorem M.tab_pre {t x : List UInt8} {K L : List M.Cl} (hK : M.IsT t K) (hL : M.IsT (t ++ x) L) : x = [] := by
  have hsp : ∀ X : List M.Cl, M.tableT X = M.bodyS (M.many X) X ++ (M.idxT X ++ (M.big 4 (M.sumP (M.idxT X)) ++ (M.bigN (M.bodyT X).length ++ M.bigN X.length ++ M.spoorT))) := fun X => by
    rw [M.tableT, M.wsum, M.bodyT]; simp only [List.append_assoc]
  have h := hL.t
  conv at h => rhs; rw [← hK.t]
  rw [hsp K, hsp L] at h
  simp only [List.append_assoc] at h
  have e := M.body_pre 1024 K L (M.idxT K) (M.idxT L) _ _ (by have := hK.n; omega) (by have := hL.n; omega) hK.s hL.s hK.q hL.q (M.idx_noBlk hK.s hK.n) (M.idx_noBlk hL.s hL.n) h.symm
  subst e
  have e2 := hL.t
  rw [hK.t] at e2
  have := congrArg List.length e2
  rw [List.length_append] at this
  exact List.eq_nil_of_length_eq_zero (by omega)
theorem M.open_cut {t : List UInt8} {L : List M.Cl} (h : M.IsT t L) {c : Nat} (hc : c < t.length) : M.openT (t.take c) = none := M.openT_none (fun K hK => by
  have e : M.IsT (t.take c ++ t.drop c) L := by rw [List.take_append_drop]; exact h
  have := congrArg List.length (M.tab_pre hK e)
  rw [List.length_drop, List.length_nil] at this
  omega)
theorem M.open_more {t x : List UInt8} {L : List M.Cl} (h : M.IsT t L) (hx : x ≠ []) : M.openT (t ++ x) = none := M.openT_none (fun K hK => hx (M.tab_pre h hK))
theorem tab_len10 {L : List M.Cl} (h : M.srt none L = true) (hl : L.length ≤ 300) : (M.tableT L).length ≤ 90000 := by
  have h1 := M.body_len h (M.many L)
  have h2 := M.idx_len h (M.many L)
  have h3 := (M.putN_length (M.many L)).2
  have h4 : M.many L ≤ 75 := by unfold M.many; omega
  rw [M.tab_len]
  unfold M.bodyT M.idxT
  rw [List.length_append]
  omega
theorem isT_self {L : List M.Cl} (h : M.srt none L = true) (hl : L.length ≤ 4096) (hi : ∀ x ∈ L, x.ints) : M.IsT (M.tableT L) L := ⟨h, hl, fun c hc => (hi c hc).h2, rfl⟩
set_option maxHeartbeats 4000000 in
set_option maxRecDepth 100000 in
theorem tablesTorn_calls (W : World) (v : Value) (hv : UCs W v) (cut : Int) (wc : (Lit.int .u32 cut).wf = true) (more : List UInt8) (hml : more.length ≤ 140737488351232) :
    Calls Try.prog 7 #[v, .int .u32 cut, .string (S more)] W fun e w' => e = .returned (.bool true) ∧ Below W.heap.size W w' := by
  obtain ⟨L, ao, cap, rfl, hl, hi, hc, hL⟩ := hv
  obtain ⟨hc0, hc1⟩ := u32_wf10 wc
  have CG := Lib.hid (show Calls Try.prog 22 #[.slice ao L.length cap, .int .i64 100] W fun e w' => GreatR9 L 100 W e w' from great9_any L cap 100 (by omega) hL hl)
  unfold GreatR9 at CG
  have CB := Lib.hid (fun (h : SmallCs9 L 100) V (h1 : ClsAt V ao L) => build10_any L (by have := h.1; omega) ao cap hc V h1 (h.oks hi))
  unfold BuildR at CB
  have CO := Lib.hid (fun t (h : t.length ≤ 900000) V => open10_any t h V)
  unfold OpenR10 at CO
  have CD := Lib.hid does10
  have HLw := Lib.hid hL
  have HB := Lib.hid (Below.refl W.heap.size W)
  have HI := Lib.hid hi
  clear hL hi wc
  go_enter Try.func7, Try.ntmps7
  go_wp2_with fail
  with_reducible refine CG.out.mono ?_
  rintro e w0 ⟨rfl | ⟨rfl, hsm⟩, rfl⟩
  · go_wp2_with fail
    go_ret
    exact ⟨rfl, HB.out⟩
  by_cases hm : 100 < more.length
  · have q0 : decide ((100 : Int) < (more.length : Int)) = true := by simp; omega
    go_wp2_with fail
    go_ret
    exact ⟨rfl, HB.out⟩
  have q0 : decide ((100 : Int) < (more.length : Int)) = false := by simp; omega
  replace CB := Lib.hid (CB.out hsm)
  rw [bE_few (by have := hsm.1; omega)] at CB
  have hl2 : L.length ≤ 100 := hsm.1
  clear hsm CG hl
  go_wp2_with fail
  cases hs : M.srt none L with
  | false =>
    rw [bN_no hs] at CB
    clear hs
    with_reducible refine (CB.out _ HLw.out).mono ?_
    rintro e w1 ⟨rfl, hbq⟩
    replace HB := carry hbq HB
    clear hbq
    go_wp2_with fail
    with_reducible refine (CD.out _).mono ?_
    rintro e w2 ⟨rfl, hbq⟩
    replace HB := carry hbq HB
    clear hbq
    go_wp2_with fail
    go_ret
    exact ⟨rfl, HB.out⟩
  | true =>
    have HT := Lib.hid (isT_self hs (by omega) HI.out)
    have htl := tab_len10 hs (by omega)
    have htp := tab_long HT.out
    rw [bN_ok hs, bS_ok hs] at CB
    have CO1 := Lib.hid (fun c (h : c < (M.tableT L).length) V => by
      have := CO.out ((M.tableT L).take c) (by rw [List.length_take]; omega) V
      rw [M.open_cut HT.out h] at this
      exact this)
    have CO2 := Lib.hid (fun (h : more ≠ []) V => by
      have := CO.out (M.tableT L ++ more) (by rw [List.length_append]; omega) V
      rw [M.open_more HT.out h] at this
      exact this)
    have CO3 := Lib.hid (fun V => by
      have := CO.out (M.tableT L) (by omega) V
      rw [M.openT_some HT.out] at this
      exact this)
    simp only at CO1 CO2 CO3
    generalize M.tableT L = t at *
    have HE0 : Hid (t.isEmpty = false ∧ (t == []) = false) := Lib.hid (by cases t with
      | nil => simp at htp
      | cons a b => simp)
    clear hs CO HT
    with_reducible refine (CB.out _ HLw.out).mono ?_
    rintro e w1 ⟨rfl, hbq⟩
    replace HB := carry hbq HB
    clear hbq CB
    obtain ⟨c, hcc⟩ : ∃ c : Nat, (c : Int) = cut % (t.length : Int) := ⟨(cut % (t.length : Int)).toNat, by have := Int.emod_nonneg cut (show (t.length : Int) ≠ 0 by omega); omega⟩
    have hcl : c < t.length := by have := Int.emod_lt_of_pos cut (show 0 < (t.length : Int) by omega); omega
    have hct : cut.tmod (t.length : Int) = (c : Int) := by rw [hcc, Int.tmod_eq_emod_of_nonneg hc0]
    obtain ⟨he1, he2⟩ := HE0.out
    have k1 := run_piece_to (P := Try.prog) 9 Try.underlying9 t (c : Int) c rfl (by omega)
    clear hcc
    go_wp2_with fail
    with_reducible refine (CO1.out c hcl w1).mono ?_
    rintro e w2 ⟨rfl, hbq⟩
    replace HB := carry hbq HB
    clear hbq CO1 k1 hct
    go_wp2_with fail
    by_cases hme : more = []
    · subst hme
      have e1 : (([] : List UInt8) == []) = true := rfl
      have e2 : ([] : List UInt8).isEmpty = true := rfl
      rw [List.append_nil]
      with_reducible refine (CO3.out w2).mono ?_
      rintro e w3 ⟨⟨p, rfl, -⟩, hbq⟩
      replace HB := carry hbq HB
      clear hbq
      go_wp2_with fail
      with_reducible refine (CD.out _).mono ?_
      rintro e w4 ⟨rfl, hbq⟩
      replace HB := carry hbq HB
      clear hbq
      go_wp2_with fail
      go_ret
      exact ⟨rfl, HB.out⟩
    · have e1 : (more == []) = false := by simpa using hme
      have e2 : more.isEmpty = false := by simpa using hme
      with_reducible refine (CO2.out hme w2).mono ?_
      rintro e w3 ⟨rfl, hbq⟩
      replace HB := carry hbq HB
      clear hbq hme
      go_wp2_with fail
      with_reducible refine (CD.out _).mono ?_
      rintro e w4 ⟨rfl, hbq⟩
      replace HB := carry hbq HB
      clear hbq
      go_wp2_with fail
      go_ret
      exact ⟨rfl, HB.out⟩

end Go.Proofs.Ythidmgnfdikppaa
