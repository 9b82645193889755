/- Layer 15: MemoryMerges. -/
import Derived.Test.YthidmgnfdikppaaMemMm
import Derived.Test.YthidmgnfdikppaaMergesHp
import Derived.Test.YthidmgnfdikppaaMemU
import Derived.BigQuiet
namespace Go.Proofs.Ythidmgnfdikppaa
set_option linter.unusedVariables false
set_option linter.unusedSimpArgs false
open Go Go.RowKit
attribute [local go_sem ↓] run_index_S
attribute [local go_sem] S_append S_extract

theorem M.puts_okM {L : List M.Cl} (h : ∀ c, c ∈ L → ClOk c) : ∀ {A : List M.Cl}, (∀ c, c ∈ A → ClOk c) → ∀ c, c ∈ M.putsL A L → ClOk c := by
  induction L with
  | nil => exact fun hA => hA
  | cons x t ih =>
    intro A hA
    refine ih (fun c hc => h c (List.mem_cons_of_mem _ hc)) (A := M.putL x A) (fun c hc => ?_)
    unfold M.putL at hc
    split at hc
    · rcases M.insC_mem hc with rfl | hc
      · exact h _ (by simp)
      · exact hA c hc
    · exact hA c hc
theorem M.puts_mayM : ∀ (L : List M.Cl) {A : List M.Cl}, (∀ c, c ∈ A → M.mayC c = true) → ∀ c, c ∈ M.putsL A L → M.mayC c = true
  | [], _, hA => hA
  | x :: L, A, hA => M.puts_mayM L (A := M.putL x A) (fun c hc => by
    unfold M.putL at hc
    split at hc
    · rename_i hm
      rcases M.insC_mem hc with rfl | hc
      · exact hm
      · exact hA c hc
    · exact hA c hc)
/-- What two memories' cells are, as rows. -/
structure Mg15 (A C Q N J : List M.Cl) : Prop where
  ok : ∀ {o1 o2 : Option Addr} {k1 k2 : Nat}, RsOk [⟨A, o1, k1⟩, ⟨C, o2, k2⟩]
  may : ∀ {o1 o2 : Option Addr} {k1 k2 : Nat}, M.mayR [⟨A, o1, k1⟩, ⟨C, o2, k2⟩] = true
  all : ∀ {o1 o2 : Option Addr} {k1 k2 : Nat}, M.mrg (M.rls [⟨A, o1, k1⟩, ⟨C, o2, k2⟩]) = Q
  new : ∀ {o1 o2 : Option Addr} {k1 k2 : Nat}, M.nw (M.mrg (M.rls [⟨A, o1, k1⟩, ⟨C, o2, k2⟩])) = N
  dd : M.dd none Q = J
  find : ∀ x, x ∈ N → M.findL x.key J = some x
  lenM : Q.length ≤ 200
  lenN : N.length ≤ 200
  lenJ : J.length ≤ 200
theorem mg15 {L K : List M.Cl} (h1 : L.length ≤ 100) (h2 : K.length ≤ 100) (hL : ∀ c, c ∈ L → ClOk c) (hK : ∀ c, c ∈ K → ClOk c) : Mg15 (M.putsL [] L) (M.putsL [] K) (M.mrg [M.putsL [] L, M.putsL [] K]) (M.nw (M.mrg [M.putsL [] L, M.putsL [] K])) (M.joinL (M.putsL [] L) (M.putsL [] K)) := by
  have a1 := M.puts_okM hL (A := []) (fun c hc => by cases hc)
  have a2 := M.puts_okM hK (A := []) (fun c hc => by cases hc)
  have m1 := M.puts_mayM L (A := []) (fun c hc => by cases hc)
  have m2 := M.puts_mayM K (A := []) (fun c hc => by cases hc)
  have s1 : M.Stt (M.putsL [] L) := M.puts_strict L List.Pairwise.nil
  have s2 : M.Stt (M.putsL [] K) := M.puts_strict K List.Pairwise.nil
  have l1 : (M.putsL [] L).length ≤ 100 := by have := M.puts_len L []; simp at this; omega
  have l2 : (M.putsL [] K).length ≤ 100 := by have := M.puts_len K []; simp at this; omega
  generalize M.putsL [] L = A at *
  generalize M.putsL [] K = C at *
  have hasc : M.Asc (M.mrg [A, C]) := (M.mrg_is [A, C]).asc (M.pw_two s1 s2)
  have hj := M.join_mrg s1 s2
  have hml : (M.mrg [A, C]).length ≤ 200 := by rw [M.mrg_len]; simp; omega
  refine ⟨rsOk_two (by omega) (by omega) a1 a2, ?_, rfl, rfl, hj.symm, fun x hx => ?_, hml, Nat.le_trans (M.nw_len _) hml, ?_⟩
  · intro o1 o2 k1 k2
    simp only [M.mayR, List.all_cons, List.all_nil, Bool.and_true, Bool.and_eq_true]
    exact ⟨M.srt_of A none m1 (fun q hq => by cases hq) s1, M.srt_of C none m2 (fun q hq => by cases hq) s2⟩
  · rw [hj, M.dd_find]
    exact M.nw_find hasc hx
  · have := M.join_len A C; omega

set_option maxHeartbeats 8000000 in
set_option maxRecDepth 100000 in
theorem memoryMerges_calls (W : World) (v : Value) (hv : UCs W v) (v2 : Value) (hv2 : UCs W v2) :
    Calls Try.prog 21 #[v, v2] W fun e w' => e = .returned (.bool true) ∧ Below W.heap.size W w' := by
  obtain ⟨L, ao, cap, rfl, hl, hi, hc, hL⟩ := hv
  obtain ⟨K, bo, cbp, rfl, hl2, hi2, hc2, hK⟩ := hv2
  obtain ⟨i0, z0, hi0, hz0, hz1, hz2, hz3⟩ := infoCl_parts
  have CG := Lib.hid (show Calls Try.prog 22 #[.slice ao L.length cap, .int .i64 100] W fun e w' => GreatR9 L 100 W e w' from great9_any L cap 100 (by omega) hL hl)
  have CG2 := Lib.hid (show Calls Try.prog 22 #[.slice bo K.length cbp, .int .i64 100] W fun e w' => GreatR9 K 100 W e w' from great9_any K cbp 100 (by omega) hK hl2)
  unfold GreatR9 at CG CG2
  have CD := Lib.hid does15_any
  have HL := Lib.hid hL
  have HK := Lib.hid hK
  have HI := Lib.hid hi
  have HI2 := Lib.hid hi2
  clear hL hi hK hi2
  go_enter Try.func21, Try.ntmps21
  go_wp2_with fail
  with_reducible refine CG.out.mono ?_
  rintro e w0 ⟨rfl | ⟨rfl, hsm⟩, rfl⟩
  · go_wp2_with fail
    go_ret
    exact ⟨rfl, Below.refl _ _⟩
  go_wp2_with fail
  with_reducible refine CG2.out.mono ?_
  rintro e w0 ⟨rfl | ⟨rfl, hsm2⟩, rfl⟩
  · go_wp2_with fail
    go_ret
    exact ⟨rfl, Below.refl _ _⟩
  have h100 : L.length ≤ 100 := hsm.1
  have h102 : K.length ≤ 100 := hsm2.1
  have HOK := Lib.hid (hsm.oks HI.out)
  have HOK2 := Lib.hid (hsm2.oks HI2.out)
  have HG := Lib.hid (mg15 h100 h102 HOK.out HOK2.out)
  have CP1 := Lib.hid (puts15_any ao cap L W HL.out HOK.out (by omega))
  have CP2 := Lib.hid (fun V (h : ClsAt V bo K) => puts15_any bo cbp K V h HOK2.out (by omega))
  unfold PutsR at CP1 CP2
  have hAl : (M.putsL [] L).length ≤ 100 := by
    have h1 := M.puts_len L []
    simp at h1
    omega
  have hKl : (M.putsL [] K).length ≤ 100 := by
    have h1 := M.puts_len K []
    simp at h1
    omega
  clear hsm hsm2 CG CG2 hl hl2 HI HI2 HOK HOK2
  generalize M.putsL [] L = A at *
  generalize M.putsL [] K = C at *
  generalize M.nw (M.mrg [A, C]) = N at *
  generalize M.mrg [A, C] = Q at *
  generalize hJ : M.joinL A C = J at *
  have HJ := Lib.hid hJ
  clear hJ
  go_wp2_with fail
  with_reducible refine (CP1.out).mono ?_
  rintro e w1 ⟨ba, rfl, hm, hbq⟩
  have HB := Lib.hid hbq
  have HMA := Lib.hid hm
  clear hm hbq CP1
  go_wp2_with fail
  with_reducible refine (CP2.out _ (HK.out.below HB.out)).mono ?_
  rintro e w2 ⟨bc, rfl, hm, hbq⟩
  replace HB := carry hbq HB
  replace HMA := carry hbq HMA
  have HMC := Lib.hid hm
  generalize W.heap.size = B1 at HMA
  generalize w1.heap.size = B2 at HMC
  clear hm hbq CP2 HL HK
  have CR := Lib.hid (fun V (h : MemX (fun _ => False) B1 ba A V) => rangeX15 h)
  have CS := Lib.hid (fun V (h : MemX (fun _ => False) B2 bc C V) => rangeX15 h)
  unfold RangeR10 at CR CS
  go_wp2_with fail
  with_reducible refine (CR.out _ HMA.out).mono ?_
  rintro e w3 ⟨a3, c3, rfl, ho, hbq⟩
  replace HB := carry hbq HB
  replace HMA := carry hbq HMA
  replace HMC := carry hbq HMC
  have HC3 := Lib.hid (clsAt_own ho rfl)
  clear ho hbq
  go_wp2_with fail
  with_reducible refine (CS.out _ HMC.out).mono ?_
  rintro e w4 ⟨a4, c4, rfl, ho, hbq⟩
  replace HB := carry hbq HB
  replace HMA := carry hbq HMA
  replace HMC := carry hbq HMC
  replace HC3 := carry hbq HC3
  have HC4 := Lib.hid (clsAt_own ho rfl)
  clear ho hbq
  have HR := Lib.hid (rowIn_new #[.slice a3 A.length c3, .slice a4 C.length c4] 22 w4)
  replace HB := carryA (w := w4) (.cells #[.slice a3 A.length c3, .slice a4 C.length c4] 22) HB
  replace HMA := carryA (w := w4) (.cells #[.slice a3 A.length c3, .slice a4 C.length c4] 22) HMA
  replace HMC := carryA (w := w4) (.cells #[.slice a3 A.length c3, .slice a4 C.length c4] 22) HMC
  replace HC3 := carryA (w := w4) (.cells #[.slice a3 A.length c3, .slice a4 C.length c4] 22) HC3
  replace HC4 := carryA (w := w4) (.cells #[.slice a3 A.length c3, .slice a4 C.length c4] 22) HC4
  have CA := Lib.hid (allL11 [⟨A, a3, c3⟩, ⟨C, a4, c4⟩] HG.out.ok HG.out.may (some ⟨w4.heap.size, 0, none⟩) 2 _ (rwsAt_two HR.out HC3.out HC4.out) Q HG.out.all 2 rfl)
  clear HR HC3 HC4
  go_wp2_with fail
  with_reducible refine (CA.out).mono ?_
  rintro e w5 ⟨aQ, cQ, rfl, hk, hbq⟩
  replace HB := carry hbq HB
  replace HMA := carry hbq HMA
  replace HMC := carry hbq HMC
  have HQ := Lib.hid hk
  clear hk hbq CA
  go_wp2_with fail
  with_reducible refine (CR.out _ HMA.out).mono ?_
  rintro e w6 ⟨a3, c3, rfl, ho, hbq⟩
  replace HB := carry hbq HB
  replace HMA := carry hbq HMA
  replace HMC := carry hbq HMC
  replace HQ := carry hbq HQ
  have HC3 := Lib.hid (clsAt_own ho rfl)
  clear ho hbq
  go_wp2_with fail
  with_reducible refine (CS.out _ HMC.out).mono ?_
  rintro e w7 ⟨a4, c4, rfl, ho, hbq⟩
  replace HB := carry hbq HB
  replace HMA := carry hbq HMA
  replace HMC := carry hbq HMC
  replace HQ := carry hbq HQ
  replace HC3 := carry hbq HC3
  have HC4 := Lib.hid (clsAt_own ho rfl)
  clear ho hbq CR CS
  have HR := Lib.hid (rowIn_new #[.slice a3 A.length c3, .slice a4 C.length c4] 22 w7)
  replace HB := carryA (w := w7) (.cells #[.slice a3 A.length c3, .slice a4 C.length c4] 22) HB
  replace HMA := carryA (w := w7) (.cells #[.slice a3 A.length c3, .slice a4 C.length c4] 22) HMA
  replace HMC := carryA (w := w7) (.cells #[.slice a3 A.length c3, .slice a4 C.length c4] 22) HMC
  replace HQ := carryA (w := w7) (.cells #[.slice a3 A.length c3, .slice a4 C.length c4] 22) HQ
  replace HC3 := carryA (w := w7) (.cells #[.slice a3 A.length c3, .slice a4 C.length c4] 22) HC3
  replace HC4 := carryA (w := w7) (.cells #[.slice a3 A.length c3, .slice a4 C.length c4] 22) HC4
  have CN := Lib.hid (newL11 [⟨A, a3, c3⟩, ⟨C, a4, c4⟩] HG.out.ok HG.out.may (some ⟨w7.heap.size, 0, none⟩) 2 _ (rwsAt_two HR.out HC3.out HC4.out) N HG.out.new 2 rfl)
  clear HR HC3 HC4
  go_wp2_with fail
  with_reducible refine (CN.out).mono ?_
  rintro e w8 ⟨aN, cN, rfl, hk, hbq⟩
  replace HB := carry hbq HB
  replace HMA := carry hbq HMA
  replace HMC := carry hbq HMC
  replace HQ := carry hbq HQ
  have HN := Lib.hid hk
  clear hk hbq CN
  have hQl := HG.out.lenM
  have hNl := HG.out.lenN
  have hJl := HG.out.lenJ
  have HDD := Lib.hid HG.out.dd
  have HFI := Lib.hid HG.out.find
  have HBD := Lib.hid (Below.refl w8.heap.size w8)
  clear HG
  go_wp2_with fail
  go_loopw [11, 12] (fun v11 v12 wr => ∃ (i : Nat) (D : List M.Cl) (ro : Option Addr) (rc : Nat), i ≤ Q.length ∧ D.length ≤ i ∧ v12 = .int .i64 i ∧ v11 = .slice ro D.length rc ∧ Hid (D = M.dd none (Q.take i)) ∧ Hid (wr.ownsRow w8.heap.size 38 3 (.slice ro D.length rc) D.length (cls D)) ∧ Hid (Below w8.heap.size w8 wr)) (fun _ v _ => Q.length - (intOf v).toNat)
  case atStart => exact ⟨0, [], none, 0, Nat.zero_le _, Nat.le_refl _, rfl, rfl, Lib.hid rfl, Lib.hid (World.ownsRow_nil _ _ _ _), HBD⟩
  case round =>
    clear HBD
    obtain ⟨i, D, ro, rc, hi, hD, rfl, rfl, HD, HO, HBD⟩ := hrel
    by_cases hlt : i < Q.length
    · have d1 : decide ((i : Int) < (Q.length : Int)) = true := by simp; omega
      have d2 : decide (i < Q.length) = true := by simp; omega
      have hii : (i : Int) < (Q.length : Int) := by omega
      have HDS := Lib.hid (M.dd_snoc hlt)
      obtain ⟨g, off, rfl, hcw⟩ := HQ.out.off i hlt
      have HCW := Lib.hid hcw
      clear hcw
      obtain ⟨y0, y1, y2⟩ := HCW.out.below HBD.out
      have HPV := Lib.hid (show 0 < i → ClOff (Q.getD (i - 1) M.cl0) w8 g (off + (i - 1) * 3) from fun h => by
        obtain ⟨g', off', e, hh⟩ := HQ.out.off (i - 1) (by omega)
        cases e
        exact hh)
      have HSS := Lib.hid (show M.sameC (Q.getD i M.cl0) (Q.getD (i - 1) M.cl0) = ((Q.getD i M.cl0).key == (Q.getD (i - 1) M.cl0).key && (Q.getD i M.cl0).seq == (Q.getD (i - 1) M.cl0).seq) from rfl)
      rw [← HD.out] at HDS
      generalize hcc : Q.getD i M.cl0 = c at *
      clear hcc
      generalize hdd : Q.getD (i - 1) M.cl0 = d at *
      clear hdd
      have HE5 := Lib.hid (show (D ++ [c]).length = D.length + 1 from by simp)
      by_cases h0 : i = 0
      · subst h0
        have HDN := Lib.hid (show D ++ [c] = M.dd none (Q.take (0 + 1)) from by rw [HDS.out, if_pos (.inl rfl)])
        clear HDS HPV HSS HD
        simp only [Nat.zero_mul, Nat.add_zero] at y0 y1 y2
        have HCW0 := HCW
        simp only [Nat.zero_mul, Nat.add_zero] at HCW0
        go_wp2_with fail
        go_quiet (fail)
        have hbq : Below wr.heap.size wr (wr.drewN nq) := below_drewN (Below.refl _ _) nq
        obtain ⟨wq, hwq⟩ : ∃ x, x = wr.drewN nq := ⟨_, rfl⟩
        rw [← hwq] at hbq ⊢
        replace HBD := carry hbq HBD
        replace HO := carry hbq HO
        clear hwq hbq y0 y1 y2
        replace HCW := HCW0
        clear HCW0
        obtain ⟨y0, y1, y2⟩ := HCW.out.below HBD.out
        have HXX := Lib.hid (rowIn_new (clA c) 38 wq)
        have HO2 := carryA (w := wq) (.cells (clA c) 38) HO
        have HB2 := carryA (w := wq) (.cells (clA c) 38) HBD
        go_wp2_with (at_builtin; refine wpList_append_cls_at rfl _ _ 22 rfl w8.heap.size i0 z0 Try.underlying22 hi0 hz0 hz1 hz2 hz3 (.slice ro D.length rc) D.length (cls D) rfl HO2.out (some ⟨wq.heap.size, 0, none⟩) 1 [c] rfl ?c1 ?c2 ?c3 ?_)
        case c1 => exact clsAt_row HXX.out rfl
        case c2 => have e1 : [c].length = 1 := rfl; omega
        case c3 => exact HB2.out.size
        intro v' w9 ho9 hg9 hat9
        obtain ⟨ao9, cap9, rfl⟩ := ownP_shape ho9
        have HB9 := Lib.hid (HB2.out.grown hg9 HB2.out.size (fun q hq => (HO2.out.lt q hq).1))
        have HO9 := Lib.hid (show w9.ownsRow w8.heap.size 38 3 (.slice ao9 (D ++ [c]).length cap9) (D ++ [c]).length (cls (D ++ [c])) from by rw [HE5.out, cls_append]; exact ho9)
        clear ho9 hg9 hat9 y0 y1 y2 HXX HO2 HB2
        go_wp2_with fail
        go_roundw
        case rel => exact ⟨0 + 1, D ++ [c], ao9, cap9, by omega, by rw [HE5.out]; omega, by go_num, by rw [HE5.out], HDN, HO9, HB9⟩
        case measure => simp [intOf]; omega
      · have q0 : ((i : Int) == 0) = false := by rw [beq_eq_false_iff_ne]; omega
        have q1 : decide ((i : Int) = 0) = false := by rw [decide_eq_false_iff_not]; omega
        have hw1 : IntKind.i64.wrap ((i : Int) - 1) = ((i - 1 : Nat) : Int) := by rw [IntWalk.i64_in _ (by omega)]; omega
        have hw2 : ((i - 1 : Nat) : Int) < (Q.length : Int) := by omega
        have hw3 : (0 : Int) ≤ ((i - 1 : Nat) : Int) := by omega
        obtain ⟨x0, x1, x2⟩ := (HPV.out (by omega)).below HBD.out
        clear HPV x2
        by_cases hkey : c.key = d.key
        · have b1 : (c.key == d.key) = true := by simpa using hkey
          by_cases hseq : c.seq = d.seq
          · have b2 : (c.seq == d.seq) = true := by simpa using hseq
            have HDN := Lib.hid (show D = M.dd none (Q.take (i + 1)) from by rw [HDS.out, if_neg (by rw [HSS.out, b1, b2]; simpa using h0), List.append_nil])
            clear HDS HSS HD hkey hseq
            go_wp2_with fail
            go_quiet (fail)
            have hbq : Below wr.heap.size wr (wr.drewN nq) := below_drewN (Below.refl _ _) nq
            obtain ⟨wq, hwq⟩ : ∃ x, x = wr.drewN nq := ⟨_, rfl⟩
            rw [← hwq] at hbq ⊢
            replace HBD := carry hbq HBD
            replace HO := carry hbq HO
            clear hwq hbq y0 y1 y2 x0 x1
            go_wp2_with fail
            go_roundw
            case rel => exact ⟨i + 1, D, ro, rc, by omega, by omega, by go_num, rfl, HDN, HO, HBD⟩
            case measure => simp [intOf]; omega
          · have b2 : (c.seq == d.seq) = false := by rw [beq_eq_false_iff_ne]; exact hseq
            have HDN := Lib.hid (show D ++ [c] = M.dd none (Q.take (i + 1)) from by rw [HDS.out, if_pos (.inr (by rw [HSS.out, b1, b2]; rfl))])
            clear HDS HSS HD hkey hseq
            go_wp2_with fail
            go_quiet (fail)
            have hbq : Below wr.heap.size wr (wr.drewN nq) := below_drewN (Below.refl _ _) nq
            obtain ⟨wq, hwq⟩ : ∃ x, x = wr.drewN nq := ⟨_, rfl⟩
            rw [← hwq] at hbq ⊢
            replace HBD := carry hbq HBD
            replace HO := carry hbq HO
            clear hwq hbq y0 y1 y2 x0 x1
            obtain ⟨y0, y1, y2⟩ := HCW.out.below HBD.out
            have HXX := Lib.hid (rowIn_new (clA c) 38 wq)
            have HO2 := carryA (w := wq) (.cells (clA c) 38) HO
            have HB2 := carryA (w := wq) (.cells (clA c) 38) HBD
            go_wp2_with (at_builtin; refine wpList_append_cls_at rfl _ _ 22 rfl w8.heap.size i0 z0 Try.underlying22 hi0 hz0 hz1 hz2 hz3 (.slice ro D.length rc) D.length (cls D) rfl HO2.out (some ⟨wq.heap.size, 0, none⟩) 1 [c] rfl ?c1 ?c2 ?c3 ?_)
            case c1 => exact clsAt_row HXX.out rfl
            case c2 => have e1 : [c].length = 1 := rfl; omega
            case c3 => exact HB2.out.size
            intro v' w9 ho9 hg9 hat9
            obtain ⟨ao9, cap9, rfl⟩ := ownP_shape ho9
            have HB9 := Lib.hid (HB2.out.grown hg9 HB2.out.size (fun q hq => (HO2.out.lt q hq).1))
            have HO9 := Lib.hid (show w9.ownsRow w8.heap.size 38 3 (.slice ao9 (D ++ [c]).length cap9) (D ++ [c]).length (cls (D ++ [c])) from by rw [HE5.out, cls_append]; exact ho9)
            clear ho9 hg9 hat9 y0 y1 y2 HXX HO2 HB2
            go_wp2_with fail
            go_roundw
            case rel => exact ⟨i + 1, D ++ [c], ao9, cap9, by omega, by rw [HE5.out]; omega, by go_num, by rw [HE5.out], HDN, HO9, HB9⟩
            case measure => simp [intOf]; omega
        · have b1 : (c.key == d.key) = false := by rw [beq_eq_false_iff_ne]; exact hkey
          have HDN := Lib.hid (show D ++ [c] = M.dd none (Q.take (i + 1)) from by rw [HDS.out, if_pos (.inr (by rw [HSS.out, b1]; rfl))])
          clear HDS HSS HD hkey
          go_wp2_with fail
          go_quiet (fail)
          have hbq : Below wr.heap.size wr (wr.drewN nq) := below_drewN (Below.refl _ _) nq
          obtain ⟨wq, hwq⟩ : ∃ x, x = wr.drewN nq := ⟨_, rfl⟩
          rw [← hwq] at hbq ⊢
          replace HBD := carry hbq HBD
          replace HO := carry hbq HO
          clear hwq hbq y0 y1 y2 x0 x1
          obtain ⟨y0, y1, y2⟩ := HCW.out.below HBD.out
          have HXX := Lib.hid (rowIn_new (clA c) 38 wq)
          have HO2 := carryA (w := wq) (.cells (clA c) 38) HO
          have HB2 := carryA (w := wq) (.cells (clA c) 38) HBD
          go_wp2_with (at_builtin; refine wpList_append_cls_at rfl _ _ 22 rfl w8.heap.size i0 z0 Try.underlying22 hi0 hz0 hz1 hz2 hz3 (.slice ro D.length rc) D.length (cls D) rfl HO2.out (some ⟨wq.heap.size, 0, none⟩) 1 [c] rfl ?c1 ?c2 ?c3 ?_)
          case c1 => exact clsAt_row HXX.out rfl
          case c2 => have e1 : [c].length = 1 := rfl; omega
          case c3 => exact HB2.out.size
          intro v' w9 ho9 hg9 hat9
          obtain ⟨ao9, cap9, rfl⟩ := ownP_shape ho9
          have HB9 := Lib.hid (HB2.out.grown hg9 HB2.out.size (fun q hq => (HO2.out.lt q hq).1))
          have HO9 := Lib.hid (show w9.ownsRow w8.heap.size 38 3 (.slice ao9 (D ++ [c]).length cap9) (D ++ [c]).length (cls (D ++ [c])) from by rw [HE5.out, cls_append]; exact ho9)
          clear ho9 hg9 hat9 y0 y1 y2 HXX HO2 HB2
          go_wp2_with fail
          go_roundw
          case rel => exact ⟨i + 1, D ++ [c], ao9, cap9, by omega, by rw [HE5.out]; omega, by go_num, by rw [HE5.out], HDN, HO9, HB9⟩
          case measure => simp [intOf]; omega
    · obtain rfl : i = Q.length := by omega
      have d1 : decide ((Q.length : Int) < (Q.length : Int)) = false := by simp
      have d2 : decide (Q.length < Q.length) = false := by simp
      obtain rfl : D = J := by rw [HD.out, List.take_length, HDD.out]
      have HW := Lib.hid (clsAt_own HO.out rfl)
      replace HB := Lib.hid (below_step HB.out HBD.out)
      replace HMA := Lib.hid (HMA.out.below HBD.out)
      replace HMC := Lib.hid (HMC.out.below HBD.out)
      replace HN := Lib.hid (HN.out.below HBD.out)
      clear HO HBD HQ HD HDD
      have CJ := Lib.hid (joinX15 HMA.out HMC.out (by omega))
      unfold JoinX at CJ
      rw [HJ.out] at CJ
      go_wp2_with fail
      with_reducible refine (CJ.out).mono ?_
      rintro e w10 ⟨bj, rfl, hm, hbq⟩
      replace HB := carry hbq HB
      replace HW := carry hbq HW
      replace HN := carry hbq HN
      have HMJ := Lib.hid hm
      generalize wr.heap.size = B3 at HMJ
      clear hm hbq CJ HMA HMC HJ
      have CR := Lib.hid (rangeX15 HMJ.out)
      unfold RangeR10 at CR
      go_wp2_with fail
      with_reducible refine (CR.out).mono ?_
      rintro e w11 ⟨a11, c11, rfl, ho, hbq⟩
      replace HB := carry hbq HB
      replace HW := carry hbq HW
      replace HN := carry hbq HN
      replace HMJ := carry hbq HMJ
      have HR11 := Lib.hid (clsAt_own ho rfl)
      clear ho hbq CR
      have CS := Lib.hid (fun c1 c2 => sameCells9_yes D D.length rfl _ _ c1 c2 (by omega) HR11.out HW.out)
      go_wp2_with fail
      with_reducible refine (CS.out _ _).mono ?_
      rintro e w12 ⟨rfl, hbq⟩
      replace HB := carry hbq HB
      replace HN := carry hbq HN
      replace HMJ := carry hbq HMJ
      clear hbq CS HR11 HW
      have HBE := Lib.hid (Below.refl w12.heap.size w12)
      go_wp2_with fail
      go_loopw [14] (fun v14 wr => ∃ (i : Nat), i ≤ N.length ∧ v14 = .int .i64 i ∧ Hid (Below w12.heap.size w12 wr)) (fun v _ => N.length - (intOf v).toNat)
      case atStart => exact ⟨0, Nat.zero_le _, rfl, HBE⟩
      case round =>
        clear HBE
        obtain ⟨i, hi, rfl, HBE⟩ := hrel
        by_cases hlt : i < N.length
        · have e1 : decide ((i : Int) < (N.length : Int)) = true := by simp; omega
          have e2 : decide (i < N.length) = true := by simp; omega
          have hii : (i : Int) < (N.length : Int) := by omega
          obtain ⟨g, off, rfl, hcw⟩ := HN.out.off i hlt
          have HCW := Lib.hid hcw
          obtain ⟨y0, y1, y2⟩ := HCW.out.below HBE.out
          have CG := Lib.hid (getX15 (N.getD i M.cl0).key (HMJ.out.below HBE.out))
          unfold FindR9 at CG
          rw [HFI.out _ (M.getD_memC hlt)] at CG
          simp only [Option.getD_some, Option.isSome_some] at CG
          generalize hcc : N.getD i M.cl0 = c at *
          clear hcw hcc
          unfold clA at CG
          go_wp2_with fail
          with_reducible refine (CG.out).mono ?_
          rintro e w13 ⟨rfl, hbq⟩
          replace HBE := carry hbq HBE
          clear hbq CG y0 y1 y2
          have HY := Lib.hid (show RowIn (clA c) 38 (w13.alloc (.cells #[.string (S c.key), .int .i64 c.seq, .string (S c.val)] 38)) w13.heap.size from rowIn_new (clA c) 38 w13)
          replace HBE := carryA (w := w13) (.cells #[.string (S c.key), .int .i64 c.seq, .string (S c.val)] 38) HBE
          obtain ⟨y0, y1, y2⟩ := HCW.out.below HBE.out
          have l0 := HY.out.cell 0
          have l1 := HY.out.cell 1
          have l2 := HY.out.cell 2
          go_wp2_with fail
          go_quiet (fail)
          have hbq := below_drewN (Below.refl (w13.alloc (.cells #[.string (S c.key), .int .i64 c.seq, .string (S c.val)] 38)).heap.size (w13.alloc (.cells #[.string (S c.key), .int .i64 c.seq, .string (S c.val)] 38))) nq
          replace HBE := carry hbq HBE
          clear y0 y1 y2 l0 l1 l2 hbq
          go_wp2_with fail
          go_roundw
          case rel => exact ⟨i + 1, by omega, by go_num, HBE⟩
          case measure => simp [intOf]; omega
        · obtain rfl : i = N.length := by omega
          have e1 : decide ((N.length : Int) < (N.length : Int)) = false := by simp
          have e2 : decide (N.length < N.length) = false := by simp
          replace HB := Lib.hid (below_step HB.out HBE.out)
          clear HBE
          go_wp2_with fail
          with_reducible refine (CD.out _).mono ?_
          rintro e w14 ⟨rfl, hbq⟩
          replace HB := carry hbq HB
          clear hbq
          go_wp2_with fail
          go_ret
          exact ⟨rfl, HB.out⟩

end Go.Proofs.Ythidmgnfdikppaa
