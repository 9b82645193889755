/- Layer 19: whether what a tablet is made of is more than is looked at; cells laid into a memory, by contracts. -/
import Derived.Test.YtnhljlmelbiljaaGreatTbltO
import Derived.Test.YtnhljlmelbiljaaGreatTbltD
import Derived.Test.YtnhljlmelbiljaaGreatZR
import Derived.Test.YtnhljlmelbiljaaGreatZU
namespace Go.Proofs.YtnhljlmelbiljaaGreat
set_option linter.unusedVariables false
set_option linter.unusedSimpArgs false
open Go Go.RowKit
attribute [local go_sem ↓] run_index_S
attribute [local go_sem] S_append S_extract

structure SmallDa (x : M.Da) : Prop where
  f : x.f.length ≤ 100
  t : x.t.length ≤ 100
  l : SmallCs x.L 40
  n : x.R.length ≤ 5
  each : ∀ r, r ∈ x.R → SmallCs r.l 40
theorem bey40 {w : World} {ao : Option Addr} (L : List M.Cl) (cap : Nat) (hs : ClsAt w ao L) (hl : L.length ≤ 9223372036854775807) :
    Calls Tryz.prog 26 #[.slice ao L.length cap, .int .i64 40] w fun e w' => BeyCR L 40 w e w' := beyond18_any L cap 40 (by omega) hs hl
def BeyDa (x : M.Da) (w : World) (e : Ending) (w' : World) : Prop := (e = .returned (.bool true) ∨ (e = .returned (.bool false) ∧ SmallDa x)) ∧ Below w.heap.size w w'
set_option maxHeartbeats 4000000 in
set_option maxRecDepth 100000 in
theorem beyond19_any (x : M.Da) (w : World) (hi : DaIn x) (h : DaAt w x) :
    Calls Tryz.prog 9 #[.agg (daV x)] w (BeyDa x w) := by
  have hB0 := (Below.refl w.heap.size w).alloc (Nat.le_refl _) (.cells (daV x) 25)
  have HB := Lib.hid hB0
  have HR := Lib.hid (rowIn_new (daV x) 25 w)
  have HL := Lib.hid (h.l.below hB0)
  have HRs := Lib.hid (h.r.below hB0)
  have HI := Lib.hid hi
  obtain ⟨f, t, L, Lo, Lk, R, Ro, Rk⟩ := x
  have CB := Lib.hid (bey40 (w := w.alloc (.cells (daV ⟨f, t, L, Lo, Lk, R, Ro, Rk⟩) 25)) L Lk HL.out hi.ln)
  unfold BeyCR at CB
  have hrn := hi.rn
  clear hi h hB0
  simp only at hrn
  unfold daV at *
  go_enter Tryz.func9, Tryz.ntmps9
  by_cases h1 : f.length ≤ 100
  · have d1 : decide ((100 : Int) < (f.length : Int)) = false := by simp; omega
    by_cases h2 : t.length ≤ 100
    · have d2 : decide ((100 : Int) < (t.length : Int)) = false := by simp; omega
      go_wp2_with fail
      generalize w.alloc (.cells #[.string (S f), .string (S t), .slice Lo L.length Lk, .slice Ro R.length Rk] 25) = W0 at *
      with_reducible refine (CB.out).mono ?_
      rintro e w1 ⟨rfl | ⟨rfl, hsm⟩, rfl⟩
      · go_wp2_with fail
        go_ret
        exact ⟨.inl rfl, HB.out⟩
      have HSM := Lib.hid hsm
      clear hsm CB
      have r3 := HR.out.cell 3
      simp at r3
      by_cases h3 : R.length ≤ 5
      · have d3 : decide ((5 : Int) < (R.length : Int)) = false := by simp; omega
        go_wp2_with fail
        have HS0 : Hid (∀ r, r ∈ R.take 0 → SmallCs r.l 40) := Lib.hid (fun r hr => by simp at hr)
        go_loopw [3] (fun iv wr => ∃ i : Nat, i ≤ R.length ∧ iv = .int .i64 i ∧ Hid (∀ r, r ∈ R.take i → SmallCs r.l 40) ∧ W0 = wr) (fun iv _ => R.length - (intOf iv).toNat)
        case atStart => exact ⟨0, Nat.zero_le _, rfl, HS0, rfl⟩
        case round =>
          clear HS0
          obtain ⟨i, hi', rfl, HS, rfl⟩ := hrel
          by_cases hlt : i < R.length
          · have e1 : decide ((i : Int) < (R.length : Int)) = true := by simp; omega
            have e2 : decide (i < R.length) = true := by simp; omega
            have hii : (i : Int) < (R.length : Int) := by omega
            obtain ⟨g, off, eao, hc⟩ := HRs.out.off i hlt
            subst eao
            have HTK := Lib.hid (M.takeR_snoc hlt)
            have hrl := (HI.out.ri _ (M.getD_memR hlt)).len
            generalize R.getD i M.rw0 = r at *
            obtain ⟨x0, hcl⟩ := hc
            obtain ⟨l, o, kc⟩ := r
            simp only at x0 hcl hrl
            have CB1 := Lib.hid (bey40 (w := W0) l kc hcl hrl)
            unfold BeyCR at CB1
            clear hcl
            go_wp2_with fail
            with_reducible refine (CB1.out).mono ?_
            rintro e w2 ⟨rfl | ⟨rfl, hsm⟩, rfl⟩
            · go_wp2_with fail
              go_ret
              exact ⟨.inl rfl, HB.out⟩
            have HS1 : Hid (∀ r, r ∈ R.take (i + 1) → SmallCs r.l 40) := Lib.hid (fun r hr => by
              rw [HTK.out, List.mem_append, List.mem_singleton] at hr
              rcases hr with hr | rfl
              · exact HS.out r hr
              · exact hsm)
            clear HTK HS hsm CB1
            go_wp2_with fail
            go_roundw
            case rel => exact ⟨i + 1, by omega, by go_num, HS1, trivial⟩
            case measure => simp [intOf]; omega
          · obtain rfl : i = R.length := by omega
            have e1 : decide ((R.length : Int) < (R.length : Int)) = false := by simp
            have e2 : decide (R.length < R.length) = false := by simp
            rw [List.take_length] at HS
            go_wp2_with fail
            go_ret
            exact ⟨.inr ⟨rfl, ⟨h1, h2, HSM.out, h3, HS.out⟩⟩, HB.out⟩
      · have d3 : decide ((5 : Int) < (R.length : Int)) = true := by simp; omega
        go_wp2_with fail
        go_ret
        exact ⟨.inl rfl, HB.out⟩
    · have d2 : decide ((100 : Int) < (t.length : Int)) = true := by simp; omega
      go_wp2_with fail
      go_ret
      exact ⟨.inl rfl, HB.out⟩
  · have d1 : decide ((100 : Int) < (f.length : Int)) = true := by simp; omega
    go_wp2_with fail
    go_ret
    exact ⟨.inl rfl, HB.out⟩
/-- What laid comes to. -/
def LaidM19 (K : List M.Cl) (w : World) (e : Ending) (w' : World) : Prop := ∃ b ro rc, e = .returned (.tuple #[.pointer (some ⟨b, 0, none⟩), .slice ro K.length rc]) ∧ MemX (fun _ => False) w.heap.size b K w' ∧ w'.ownsRow w.heap.size 38 3 (.slice ro K.length rc) K.length (cls K) ∧ Below w.heap.size w w'
set_option maxHeartbeats 4000000 in
set_option maxRecDepth 100000 in
theorem laid19_any (ao : Option Addr) (cap : Nat) (L : List M.Cl) (w : World) (h : ClsAt w ao L) (hok : ∀ c, c ∈ L → ClOk c) (hn : L.length ≤ 1000) :
    Calls Tryz.prog 27 #[.slice ao L.length cap] w (LaidM19 (M.putsL [] L) w) := by
  have CN := Lib.hid (new15_any w)
  have HC := Lib.hid h
  have HOK := Lib.hid hok
  clear h hok
  go_enter Tryz.func27, Tryz.ntmps27
  go_wp2_with fail
  refine (CN.out).mono ?_
  rintro e w1 ⟨rfl, hw1⟩
  have HM := Lib.hid (show MemX (fun _ => False) w.heap.size w.heap.size [] w1 from by rw [hw1]; exact memX_new _ w (fun k hk => hk.elim))
  have HB := Lib.hid (show Below w.heap.size w w1 from by rw [hw1]; exact (Below.refl _ _).alloc (Nat.le_refl _) _)
  clear hw1 CN
  obtain ⟨b, hb⟩ : ∃ x, x = w.heap.size := ⟨_, rfl⟩
  rw [show MemX (fun _ => False) w.heap.size w.heap.size [] w1 = MemX (fun _ => False) w.heap.size b [] w1 from by rw [hb]] at HM
  rw [← hb]
  clear hb
  go_wp2_with fail
  go_loopw [5] (fun v4 wr => ∃ (i : Nat), i ≤ L.length ∧ v4 = .int .i64 i ∧ Hid (MemX (fun _ => False) w.heap.size b (M.putsL [] (L.take i)) wr) ∧ Hid (Below w.heap.size w wr)) (fun v _ => L.length - (intOf v).toNat)
  case atStart => exact ⟨0, Nat.zero_le _, rfl, HM, HB⟩
  case round =>
    clear HM HB
    obtain ⟨i, hi, rfl, HM, HB⟩ := hrel
    by_cases hlt : i < L.length
    · have d1 : decide ((i : Int) < (L.length : Int)) = true := by simp; omega
      have d2 : decide (i < L.length) = true := by simp; omega
      have hii : (i : Int) < (L.length : Int) := by omega
      obtain ⟨g, o, rfl, hcl⟩ := HC.out (fun e => by rw [e] at hlt; simp at hlt)
      obtain ⟨y0, y1, y2⟩ := (hcl i hlt).below HB.out
      have HSN := Lib.hid (M.puts_snoc [] hlt)
      have HLN := Lib.hid (show (M.putsL [] (L.take i)).length < 50000 from by
        have h1 := M.puts_len (L.take i) []
        rw [List.length_take] at h1
        simp at h1
        omega)
      have HCK := Lib.hid (HOK.out _ (M.getD_memC hlt))
      clear hcl
      generalize L.getD i M.cl0 = c at *
      generalize M.putsL [] (L.take i) = A at *
      have CP := Lib.hid (putX15 c HM.out (fun k hk => hk.elim) HB.out.size HCK.out HLN.out)
      unfold PutX at CP
      generalize (if M.mayC c then (0 : Int) else 2) = rv at *
      go_wp2_with fail
      refine (CP.out).mono ?_
      rintro e w5 ⟨rfl, hm, ho⟩
      have HM5 := Lib.hid hm
      rw [← HSN.out] at HM5
      have HB5 := Lib.hid (HB.out.trans (ho.below (fun k hk => hk.1) HB.out.size))
      clear hm ho CP
      go_wp2_with fail
      go_roundw
      case rel => exact ⟨i + 1, by omega, by go_num, HM5, HB5⟩
      case measure => simp [intOf]; omega
    · obtain rfl : i = L.length := by omega
      have d1 : decide ((L.length : Int) < (L.length : Int)) = false := by simp
      have d2 : decide (L.length < L.length) = false := by simp
      rw [List.take_length] at HM
      have CR := Lib.hid (rangeX15 HM.out)
      unfold RangeR10 at CR
      go_wp2_with fail
      with_reducible refine (CR.out).mono ?_
      rintro e w6 ⟨ar, cr, rfl, hor, hbq⟩
      have HO6 := Lib.hid (ownP_mono hor HB.out.size)
      have HM6 := Lib.hid (HM.out.below hbq)
      have HB6 := Lib.hid (HB.out.trans (hbq.mono HB.out.size))
      clear hor hbq CR
      go_wp2_with fail
      go_ret2
      exact ⟨b, ar, cr, rfl, HM6.out, HO6.out, HB6.out⟩

end Go.Proofs.YtnhljlmelbiljaaGreat
