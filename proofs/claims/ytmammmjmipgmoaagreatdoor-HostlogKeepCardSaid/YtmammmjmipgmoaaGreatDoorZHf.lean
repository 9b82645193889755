/- Texts of lower layers, as one. -/
import Derived.Test.YtmammmjmipgmoaaGreatDoorZHe
/- Layer 6: Open, all of it. -/
namespace Go.Proofs.YtmammmjmipgmoaaGreatDoor
set_option linter.unusedVariables false
open Go Go.RowKit Go.Maps

section
variable {X : Nat → Prop} {B b d : Nat} {G : Hl.Lg} {D : Dk.St} {vs : Value} {P : List (Hl.Sm × Value)} {w w' : World}
open Hl
/-- What Open leaves: an error, or a log. -/
def OpnR (X : Nat → Prop) (B d : Nat) (r : Int × Dk.St) (G : Lg) (w : World) (e : Ending) (w' : World) : Prop :=
  Wr (fun k => B ≤ k ∧ ¬ X k) w w' ∧ ((r.1 ≠ 0 ∧ e = .returned (.tuple #[.pointer none, .int .i64 r.1]) ∧ DkX X B d r.2 w' ∧ Vr w') ∨
    (r.1 = 0 ∧ ∃ b, e = .returned (.tuple #[.pointer (some ⟨b, 0, none⟩), .int .i64 0]) ∧ w.heap.size ≤ b ∧ HgX X B b d r.2 G w'))
set_option maxHeartbeats 4000000 in
set_option maxRecDepth 100000 in
theorem open6_any (h : DkX X B d D w) (hX : ∀ k, X k → k < w.heap.size) (hB : B ≤ w.heap.size) (hv : Vr w) (h3 : 3 ≤ B) (hst : D.starts ≤ 1000000000) (Z : List Sg) (tz : List UInt8) (hZ : LdOk D Z tz)
    (hm : tz ≠ [] → (Dk.clear nD D).1 = 0 → (lastS ⟨D.starts, false, Z.map smOf⟩).size ≤ (Dk.read (nm (lastS ⟨D.starts, false, Z.map smOf⟩).n) (Dk.clear nD D).2).2.length ∧ (Dk.read (nm (lastS ⟨D.starts, false, Z.map smOf⟩).n) (Dk.clear nD D).2).2.length ≤ 10000000) :
    Calls Tryz.prog 18 #[.pointer (some ⟨d, 0, none⟩)] w (OpnR X B d (openR Z tz D) ⟨D.starts, false, Z.map smOf⟩ w) := by
  have CS := Lib.hid (fun W (k : Below w.heap.size w W) => filesState_any (h.below k))
  unfold openR
  by_cases hup : D.up = true
  · rw [if_neg (by simp [hup])]
    simp only [hup, if_true] at CS
    have CO := Lib.hid (fun W (k : Below w.heap.size w W) => filesOn6 (h.below k))
    have HD := Lib.hid h
    have HX := Lib.hid hX
    have HB := Lib.hid hB
    have HV := Lib.hid hv
    have H3 := Lib.hid h3
    have HST := Lib.hid hst
    have HZ := Lib.hid hZ
    have HM := Lib.hid hm
    clear h hX hB hv h3 hst hZ hm hup
    generalize hrr : Dk.run [Dk.clear nD, mendT ⟨D.starts, false, Z.map smOf⟩ (decide (tz ≠ []))] D = r at *
    have HRR := Lib.hid hrr
    clear hrr
    generalize hds : D.starts = ds at *
    have HDS := Lib.hid hds
    clear hds
    go_enter Tryz.func18, Tryz.ntmps18
    go_wp2_with fail
    with_reducible refine (CS.out _ ((Below.refl _ _).alloc (Nat.le_refl _) _)).mono ?_
    rintro e w1 ⟨rfl, hb⟩
    have kd := (bk_new #[.pointer (some ⟨d, 0, none⟩)] 24 w).below hb
    have HB1 := Lib.hid (below_step ((Below.refl w.heap.size w).alloc (Nat.le_refl _) (.cells #[.pointer (some ⟨d, 0, none⟩)] 24)) hb)
    have KD1 := Lib.hid kd
    have xd := kd.cell 0
    clear hb kd CS
    go_wp2_with fail
    with_reducible refine (CO.out _ HB1.out).mono ?_
    rintro e w2 ⟨rfl, hb⟩
    have HB2 := Lib.hid (below_step HB1.out hb)
    have KD2 := Lib.hid (KD1.out.below hb)
    clear hb xd CO
    go_wp2_with fail
    have hb3 := below_two5 w2 (.cells #[.pointer (some ⟨d, 0, none⟩), .int .i64 (ds : Nat), .bool false, .slice none 0 0] 48) (.cells #[.pointer (some ⟨w2.heap.size, 0, none⟩)] 33)
    have kb := (bk_new #[.pointer (some ⟨d, 0, none⟩), .int .i64 (ds : Nat), .bool false, .slice none 0 0] 48 w2).more (.cells #[.pointer (some ⟨w2.heap.size, 0, none⟩)] 33)
    have kl := bk_new #[.pointer (some ⟨w2.heap.size, 0, none⟩)] 33 (w2.alloc (.cells #[.pointer (some ⟨d, 0, none⟩), .int .i64 (ds : Nat), .bool false, .slice none 0 0] 48))
    rw [World.size_alloc] at kl
    have HB3 := Lib.hid (below_step HB2.out hb3)
    have KD3 := Lib.hid (KD2.out.below hb3)
    have KB := Lib.hid kb
    have KL := Lib.hid kl
    have hlt2 : w.heap.size < w2.heap.size := KD2.out.lt
    obtain ⟨b, hbe⟩ : ∃ x, x = w2.heap.size := ⟨_, rfl⟩
    have hbw : w.heap.size < b := by omega
    obtain ⟨lb, hlb⟩ : ∃ x, x = w2.heap.size + 1 := ⟨_, rfl⟩
    rw [← hlb, ← hbe] at KL
    rw [← hbe] at KB HB3 KD3
    rw [← hlb, ← hbe]
    have hlbb : b < lb := by omega
    clear hb3 kb kl hbe hlb hlt2
    generalize (w2.alloc (.cells #[.pointer (some ⟨d, 0, none⟩), .int .i64 (ds : Nat), .bool false, .slice none 0 0] 48)).alloc (.cells #[.pointer (some ⟨b, 0, none⟩)] 33) = w3 at *
    have CL := Lib.hid (load6_any (X := fun q => X q ∨ (w.heap.size ≤ q ∧ q < w3.heap.size)) (HD.out.newrow HB3.out) (fun k hk => hk.elim (fun q => Nat.lt_of_lt_of_le (HX.out k q) HB3.out.size) (fun q => q.2)) (Nat.le_trans HB.out HB3.out.size) (HV.out.below HB3.out) H3.out HST.out KB.out (by have := HB.out; omega) (.inr ⟨by omega, KB.out.lt⟩) Z tz HZ.out)
    with_reducible refine CL.out.mono ?_
    rintro e w4 ⟨rfl, vs, P, hL, hW, hF⟩
    have hbl : ¬ (lb = b) := by omega
    have HL4 := Lib.hid hL
    have HW4 := Lib.hid hW
    have HF4 := Lib.hid hF
    have KL4 := Lib.hid (KL.out.wr hW hbl)
    have KD4 := Lib.hid (KD3.out.wr hW (by omega))
    clear hL hW hF CL
    obtain ⟨tn, htn⟩ : ∃ x, x = decide (tz ≠ []) := ⟨_, rfl⟩
    have HTN := Lib.hid htn
    rw [← htn] at HRR ⊢
    clear htn
    have xl : ∀ o, (w4.alloc o).cell? ⟨lb, 0, none⟩ = some (.pointer (some ⟨b, 0, none⟩)) := fun o => (KL4.out.more o).cell 0
    go_wp2_with fail
    have hb6 := below_two5 w4 (.cells #[.bool tn] 4) (.cells #[.func (Fn.func 62) #[] #[.pointer (some ⟨w.heap.size, 0, none⟩)], .func (Fn.func 65) #[] #[.pointer (some ⟨lb, 0, none⟩), .pointer (some ⟨w4.heap.size, 0, none⟩)]] 58)
    have kt := (bk_new #[.bool tn] 4 w4).more (.cells #[.func (Fn.func 62) #[] #[.pointer (some ⟨w.heap.size, 0, none⟩)], .func (Fn.func 65) #[] #[.pointer (some ⟨lb, 0, none⟩), .pointer (some ⟨w4.heap.size, 0, none⟩)]] 58)
    have ka := bk_new #[.func (Fn.func 62) #[] #[.pointer (some ⟨w.heap.size, 0, none⟩)], .func (Fn.func 65) #[] #[.pointer (some ⟨lb, 0, none⟩), .pointer (some ⟨w4.heap.size, 0, none⟩)]] 58 (w4.alloc (.cells #[.bool tn] 4))
    rw [World.size_alloc] at ka
    have HB6 := Lib.hid hb6
    have KT := Lib.hid kt
    have KA := Lib.hid ka
    have KL6 := Lib.hid (KL4.out.below hb6)
    have KD6 := Lib.hid (KD4.out.below hb6)
    clear hb6 kt ka xl
    generalize (w4.alloc (.cells #[.bool tn] 4)).alloc (.cells #[.func (Fn.func 62) #[] #[.pointer (some ⟨w.heap.size, 0, none⟩)], .func (Fn.func 65) #[] #[.pointer (some ⟨lb, 0, none⟩), .pointer (some ⟨w4.heap.size, 0, none⟩)]] 58) = w6 at *
    have hs3 := HB3.out.size
    have hs4 := HW4.out.size
    have hs6 := HB6.out.size
    have hal := KA.out.lt
    have HD6 := Lib.hid (((HD.out.below HB3.out |> fun _ => (HD.out.newrow HB3.out).more (X' := fun q => X q ∨ (w.heap.size ≤ q ∧ q < w6.heap.size)) (fun k hk => by
      rcases hk with q | q
      · exact .inl (.inl q)
      · by_cases hk3 : k < w3.heap.size
        · exact .inl (.inr ⟨q.1, hk3⟩)
        · exact .inr (by omega))).wr HW4.out (fun k hk => .inr ⟨by omega, by have := KB.out.lt; omega⟩)).below HB6.out)
    have HL6 := Lib.hid (HL4.out.below HB6.out)
    have HFX := Lib.hid (fun k (hk : LgF b vs P k) => (show w.heap.size ≤ k ∧ k < w6.heap.size from by
      have h1 := (HL6.out.lt k hk).2
      rcases HF4.out k hk with q | q
      · exact ⟨by omega, h1⟩
      · exact ⟨by omega, h1⟩))
    have HV6 := Lib.hid (((HV.out.below HB3.out).wr HW4.out (fun k hk q => by have := H3.out; have := HB.out; omega)).below HB6.out)
    have CR := Lib.hid (openRow6 (X := fun q => X q ∨ (w.heap.size ≤ q ∧ q < w6.heap.size)) HL6.out HD6.out (fun k hk => hk.elim (fun q => Nat.lt_of_lt_of_le (HX.out k q) (by omega)) (fun q => q.2)) (by have := HB.out; omega) HV6.out (fun k hk => .inr (HFX.out k hk)) H3.out (bd := w.heap.size) (lb := lb) (tb := w4.heap.size) (ga := w4.heap.size + 1) (.inr ⟨Nat.le_refl _, by omega⟩) (.inr ⟨by omega, by have := KL6.out.lt; omega⟩) (.inr ⟨by omega, by omega⟩) (.inr ⟨by omega, hal⟩) tn KD6.out KL6.out KT.out KA.out (fun ht hc => by
      rw [HTN.out] at ht
      have hne := of_decide_eq_true ht
      have := HM.out hne hc
      refine ⟨fun e => hne (HZ.out.none (List.map_eq_nil_iff.1 e)), this⟩))
    rw [HRR.out] at CR
    with_reducible refine CR.out.mono ?_
    rintro e w7 ⟨rfl, h1, h2, h4, h5⟩
    have KL7 := Lib.hid (KL6.out.wr h5 (by
      rintro (q | q)
      · exact hbl q
      · exact q.2 (.inr ⟨by omega, KL6.out.lt⟩)))
    have HW7 := Lib.hid (show Wr (fun k => B ≤ k ∧ ¬ X k) w w7 from (((wr_below HB3.out).step HW4.out (fun x hx => .inr (by omega))).trans (wr_below HB6.out)).step h5 (fun x hx => by
      rcases hx with q | q
      · exact .inr (by omega)
      · exact .inl ⟨q.1, fun z => q.2 (.inl z)⟩))
    have HL7 := Lib.hid h1
    have HD7 := Lib.hid h2
    have HV7 := Lib.hid h4
    clear h1 h2 h4 h5 CR
    by_cases hr0 : r.1 = 0
    · have HF := Lib.hid (show OpnR X B d r ⟨ds, false, Z.map smOf⟩ w (.returned (.tuple #[.pointer (some ⟨b, 0, none⟩), .int .i64 0])) w7 from
        ⟨HW7.out, .inr ⟨hr0, b, rfl, by omega, vs, P, (by have := HL7.out; rw [hr0, hold_zero] at this; exact this), HD7.out.less (fun k hk => by
          rcases hk with q | q
          · exact .inl q
          · exact .inr (HFX.out k q)), (fun k hk q => by have := (HFX.out k hk).1; have := HX.out k q; omega), HV7.out, H3.out⟩⟩)
      have xl7 := KL7.out.cell 0
      obtain ⟨r1, r2⟩ := r
      simp only at hr0
      subst hr0
      go_wp2_with fail
      go_ret2
      exact HF.out
    · have HF := Lib.hid (show OpnR X B d r ⟨ds, false, Z.map smOf⟩ w (.returned (.tuple #[.pointer none, .int .i64 r.1])) w7 from
        ⟨HW7.out, .inl ⟨hr0, rfl, HD7.out.less (fun k hk => .inl hk), HV7.out⟩⟩)
      have dr : (r.1 != 0) = true := by simpa using hr0
      go_wp2_with fail
      go_ret2
      exact HF.out
  · have hup2 : D.up = false := by simpa using hup
    rw [if_pos hup2]
    have HF := Lib.hid (fun w' (k : Below w.heap.size w w') => (show OpnR X B d (51, D) ⟨D.starts, false, Z.map smOf⟩ w (.returned (.tuple #[.pointer none, .int .i64 51])) w' from ⟨wr_below k, .inl ⟨by simp, rfl, h.below k, hv.below k⟩⟩))
    simp only [hup2] at CS
    clear h hX hB hv h3 hst hZ hm hup hup2
    go_enter Tryz.func18, Tryz.ntmps18
    go_wp2_with fail
    with_reducible refine (CS.out _ ((Below.refl _ _).alloc (Nat.le_refl _) _)).mono ?_
    rintro e w1 ⟨rfl, hb⟩
    have HB1 := Lib.hid (below_step ((Below.refl w.heap.size w).alloc (Nat.le_refl _) (.cells #[.pointer (some ⟨d, 0, none⟩)] 24)) hb)
    clear hb CS
    go_wp2_with fail
    go_ret2
    exact HF.out _ HB1.out
end

end Go.Proofs.YtmammmjmipgmoaaGreatDoor
