import Derived.Test.YtmammmjmipgmoaaGreatDoorZHe
import Derived.Test.YtmammmjmipgmoaaGreatDoorZQh
set_option linter.unusedVariables false
set_option maxRecDepth 100000
set_option maxHeartbeats 16000000
namespace Go.Proofs.YtmammmjmipgmoaaGreatDoor
open Go Go.RowKit Go.Maps
section
variable {X : Nat → Prop} {B b d : Nat} {G : Hl.Lg} {D : Dk.St} {vs : Value} {P : List (Hl.Sm × Value)} {w w' : World}
open Hl
def OpnR (X : Nat → Prop) (B d : Nat) (r : Int × Dk.St) (G : Lg) (w : World) (e : Ending) (w' : World) : Prop :=
 Wr (fun k => B ≤ k ∧ ¬ X k) w w' ∧ ((r.1 ≠ 0 ∧ e = .returned (.tuple #[.pointer none, .int .i64 r.1]) ∧ DkX X B d r.2 w' ∧ Vr w') ∨
  (r.1 = 0 ∧ ∃ b, e = .returned (.tuple #[.pointer (some ⟨b, 0, none⟩), .int .i64 0]) ∧ w.heap.size ≤ b ∧ HgX X B b d r.2 G w'))
theorem Jhg (h : DkX X B d D w) (hX : ∀ k, X k → k < w.heap.size) (hB : B ≤ w.heap.size) (hv : Vr w) (h3 : 3 ≤ B) (hst : D.starts ≤ 1000000000) (Z : List Sg) (tz : List UInt8) (hZ : LdOk D Z tz)
  (hm : tz ≠ [] → (Dk.clear nD D).1 = 0 → (lastS ⟨D.starts, false, Z.map smOf⟩).size ≤ (Dk.read (nm (lastS ⟨D.starts, false, Z.map smOf⟩).n) (Dk.clear nD D).2).2.length ∧ (Dk.read (nm (lastS ⟨D.starts, false, Z.map smOf⟩).n) (Dk.clear nD D).2).2.length ≤ 10000000) :
  Calls Tryz.prog 18 #[.pointer (some ⟨d, 0, none⟩)] w (OpnR X B d (openR Z tz D) ⟨D.starts, false, Z.map smOf⟩ w) := by
 have CS := Qh (fun W (k : Below w.heap.size w W) => Jgn (h.below k));unfold openR;by_cases hup : D.up = true
 ·rw [if_neg (by simp [hup])]
  simp only [hup, if_true] at CS;have CO := Qh (fun W (k : Below w.heap.size w W) => Jos (h.below k));have HD := Qh h;have HX := Qh hX;have HB := Qh hB;have HV := Qh hv;have H3 := Qh h3;have HST := Qh hst;have HZ := Qh hZ;have HM := Qh hm;clear h hX hB hv h3 hst hZ hm hup;generalize hrr : Dk.run [Dk.clear nD, mendT ⟨D.starts, false, Z.map smOf⟩ (decide (tz ≠ []))] D = r at *;have HRR := Qh hrr;clear hrr;generalize hds : D.starts = ds at *;have HDS := Qh hds;clear hds;go_enter Tryz.func18, Tryz.ntmps18;go_wp2_with fail;with_reducible refine (CS.o _ (Qa _)).mono ?_
  rintro e w1 ⟨rfl, hb⟩;have kd := (Jae #[.pointer (some ⟨d, 0, none⟩)] 24 w).below hb;have HB1 := Qh (Jaa ((Below.refl w.heap.size w).alloc (Nat.le_refl _) (.cells #[.pointer (some ⟨d, 0, none⟩)] 24)) hb);have KD1 := Qh kd;have xd := kd.cell 0;clear hb kd CS;go_wp2_with fail;with_reducible refine (CO.o _ HB1.o).mono ?_
  rintro e w2 ⟨rfl, hb⟩;have HB2 := Qh (Jaa HB1.o hb);have KD2 := Qh (KD1.o.below hb);clear hb xd CO;go_wp2_with fail;have hb3 := Jas w2 (.cells #[.pointer (some ⟨d, 0, none⟩), .int .i64 (ds : Nat), .bool false, .slice none 0 0] 48) (.cells #[.pointer (some ⟨w2.heap.size, 0, none⟩)] 33);have kb := (Jae #[.pointer (some ⟨d, 0, none⟩), .int .i64 (ds : Nat), .bool false, .slice none 0 0] 48 w2).more (.cells #[.pointer (some ⟨w2.heap.size, 0, none⟩)] 33);have kl := Jae #[.pointer (some ⟨w2.heap.size, 0, none⟩)] 33 (w2.alloc (.cells #[.pointer (some ⟨d, 0, none⟩), .int .i64 (ds : Nat), .bool false, .slice none 0 0] 48));rw [World.size_alloc] at kl;have HB3 := Qh (Jaa HB2.o hb3);have KD3 := Qh (KD2.o.below hb3);have KB := Qh kb;have KL := Qh kl;have hlt2 : w.heap.size < w2.heap.size := KD2.o.lt;obtain ⟨b, hbe⟩ : ∃ x, x = w2.heap.size := ⟨_, rfl⟩
  have hbw : w.heap.size < b := by omega
  obtain ⟨lb, hlb⟩ : ∃ x, x = w2.heap.size + 1 := ⟨_, rfl⟩
  rw [← hlb, ← hbe] at KL;rw [← hbe] at KB HB3 KD3;rw [← hlb, ← hbe];have hlbb : b < lb := by omega
  clear hb3 kb kl hbe hlb hlt2;generalize (w2.alloc (.cells #[.pointer (some ⟨d, 0, none⟩), .int .i64 (ds : Nat), .bool false, .slice none 0 0] 48)).alloc (.cells #[.pointer (some ⟨b, 0, none⟩)] 33) = w3 at *;have CL := Qh (Jm9 (X := fun q => X q ∨ (w.heap.size ≤ q ∧ q < w3.heap.size)) (HD.o.newrow HB3.o) (fun k hk => hk.elim (fun q => Nat.lt_of_lt_of_le (HX.o k q) HB3.o.size) (fun q => q.2)) (Nat.le_trans HB.o HB3.o.size) (HV.o.below HB3.o) H3.o HST.o KB.o (by have := HB.o; omega) (.inr ⟨by omega, KB.o.lt⟩) Z tz HZ.o);with_reducible refine CL.o.mono ?_
  rintro e w4 ⟨rfl, vs, P, hL, hW, hF⟩;have hbl : ¬ (lb = b) := by omega
  have HL4 := Qh hL;have HW4 := Qh hW;have HF4 := Qh hF;have KL4 := Qh (KL.o.wr hW hbl);have KD4 := Qh (KD3.o.wr hW (by omega));clear hL hW hF CL;obtain ⟨tn, htn⟩ : ∃ x, x = decide (tz ≠ []) := ⟨_, rfl⟩
  have HTN := Qh htn;rw [← htn] at HRR ⊢;clear htn;have xl : ∀ o, (w4.alloc o).cell? ⟨lb, 0, none⟩ = some (.pointer (some ⟨b, 0, none⟩)) := fun o => (KL4.o.more o).cell 0
  go_wp2_with fail;have hb6 := Jas w4 (.cells #[.bool tn] 4) (.cells #[.func (Fn.func 62) #[] #[.pointer (some ⟨w.heap.size, 0, none⟩)], .func (Fn.func 65) #[] #[.pointer (some ⟨lb, 0, none⟩), .pointer (some ⟨w4.heap.size, 0, none⟩)]] 58);have kt := (Jae #[.bool tn] 4 w4).more (.cells #[.func (Fn.func 62) #[] #[.pointer (some ⟨w.heap.size, 0, none⟩)], .func (Fn.func 65) #[] #[.pointer (some ⟨lb, 0, none⟩), .pointer (some ⟨w4.heap.size, 0, none⟩)]] 58);have ka := Jae #[.func (Fn.func 62) #[] #[.pointer (some ⟨w.heap.size, 0, none⟩)], .func (Fn.func 65) #[] #[.pointer (some ⟨lb, 0, none⟩), .pointer (some ⟨w4.heap.size, 0, none⟩)]] 58 (w4.alloc (.cells #[.bool tn] 4));rw [World.size_alloc] at ka;have HB6 := Qh hb6;have KT := Qh kt;have KA := Qh ka;have KL6 := Qh (KL4.o.below hb6);have KD6 := Qh (KD4.o.below hb6);clear hb6 kt ka xl;generalize (w4.alloc (.cells #[.bool tn] 4)).alloc (.cells #[.func (Fn.func 62) #[] #[.pointer (some ⟨w.heap.size, 0, none⟩)], .func (Fn.func 65) #[] #[.pointer (some ⟨lb, 0, none⟩), .pointer (some ⟨w4.heap.size, 0, none⟩)]] 58) = w6 at *;have hs3 := HB3.o.size;have hs4 := HW4.o.size;have hs6 := HB6.o.size;have hal := KA.o.lt
  have HD6 := Qh (((HD.o.below HB3.o |> fun _ => (HD.o.newrow HB3.o).more (X' := fun q => X q ∨ (w.heap.size ≤ q ∧ q < w6.heap.size)) (fun k hk => by
   rcases hk with q | q
   ·exact .inl (.inl q)
   ·by_cases hk3 : k < w3.heap.size
    ·exact .inl (.inr ⟨q.1, hk3⟩)
    ·exact .inr (by omega))).wr HW4.o (fun k hk => .inr ⟨by omega, by have := KB.o.lt; omega⟩)).below HB6.o)
  have HL6 := Qh (HL4.o.below HB6.o)
  have HFX := Qh (fun k (hk : LgF b vs P k) => (show w.heap.size ≤ k ∧ k < w6.heap.size from by
   have h1 := (HL6.o.lt k hk).2;rcases HF4.o k hk with q | q
   ·exact ⟨by omega, h1⟩
   ·exact ⟨by omega, h1⟩))
  have HV6 := Qh (((HV.o.below HB3.o).wr HW4.o (fun k hk q => by have := H3.o; have := HB.o; omega)).below HB6.o)
  have CR := Qh (Jo0 (X := fun q => X q ∨ (w.heap.size ≤ q ∧ q < w6.heap.size)) HL6.o HD6.o (fun k hk => hk.elim (fun q => Nat.lt_of_lt_of_le (HX.o k q) (by omega)) (fun q => q.2)) (by have := HB.o; omega) HV6.o (fun k hk => .inr (HFX.o k hk)) H3.o (bd := w.heap.size) (lb := lb) (tb := w4.heap.size) (ga := w4.heap.size + 1) (.inr ⟨Nat.le_refl _, by omega⟩) (.inr ⟨by omega, by have := KL6.o.lt; omega⟩) (.inr ⟨by omega, by omega⟩) (.inr ⟨by omega, hal⟩) tn KD6.o KL6.o KT.o KA.o (fun ht hc => by
   rw [HTN.o] at ht;have hne := of_decide_eq_true ht;have := HM.o hne hc
   refine ⟨fun e => hne (HZ.o.none (List.map_eq_nil_iff.1 e)), this⟩))
  rw [HRR.o] at CR;with_reducible refine CR.o.mono ?_
  rintro e w7 ⟨rfl, h1, h2, h4, h5⟩
  have KL7 := Qh (KL6.o.wr h5 (by
   rintro (q | q)
   ·exact hbl q
   ·exact q.2 (.inr ⟨by omega, KL6.o.lt⟩)))
  have HW7 := Qh (show Wr (fun k => B ≤ k ∧ ¬ X k) w w7 from (((Jad HB3.o).step HW4.o (fun x hx => .inr (by omega))).trans (Jad HB6.o)).step h5 (fun x hx => by
   rcases hx with q | q
   ·exact .inr (by omega)
   ·exact .inl ⟨q.1, fun z => q.2 (.inl z)⟩))
  have HL7 := Qh h1;have HD7 := Qh h2;have HV7 := Qh h4;clear h1 h2 h4 h5 CR;by_cases hr0 : r.1 = 0
  ·have HF := Qh (show OpnR X B d r ⟨ds, false, Z.map smOf⟩ w (.returned (.tuple #[.pointer (some ⟨b, 0, none⟩), .int .i64 0])) w7 from
    ⟨HW7.o, .inr ⟨hr0, b, rfl, by omega, vs, P, (by have := HL7.o; rw [hr0, hold_zero] at this; exact this), HD7.o.less (fun k hk => by
     rcases hk with q | q
     ·exact .inl q
     ·exact .inr (HFX.o k q)), (fun k hk q => by have := (HFX.o k hk).1; have := HX.o k q; omega), HV7.o, H3.o⟩⟩)
   have xl7 := KL7.o.cell 0;obtain ⟨r1, r2⟩ := r;simp only at hr0;subst hr0;go_wp2_with fail;go_ret2
   exact HF.o
  ·have HF := Qh (show OpnR X B d r ⟨ds, false, Z.map smOf⟩ w (.returned (.tuple #[.pointer none, .int .i64 r.1])) w7 from
    ⟨HW7.o, .inl ⟨hr0, rfl, HD7.o.less (fun k hk => .inl hk), HV7.o⟩⟩)
   have dr : (r.1 != 0) = true := by simpa using hr0
   go_wp2_with fail;go_ret2
   exact HF.o
 ·have hup2 : D.up = false := by simpa using hup
  rw [if_pos hup2];have HF := Qh (fun w' (k : Below w.heap.size w w') => (show OpnR X B d (51, D) ⟨D.starts, false, Z.map smOf⟩ w (.returned (.tuple #[.pointer none, .int .i64 51])) w' from ⟨Jad k, .inl ⟨by simp, rfl, h.below k, hv.below k⟩⟩));simp only [hup2] at CS;clear h hX hB hv h3 hst hZ hm hup hup2;go_enter Tryz.func18, Tryz.ntmps18;go_wp2_with fail;with_reducible refine (CS.o _ (Qa _)).mono ?_
  rintro e w1 ⟨rfl, hb⟩;have HB1 := Qh (Jaa ((Below.refl w.heap.size w).alloc (Nat.le_refl _) (.cells #[.pointer (some ⟨d, 0, none⟩)] 24)) hb);clear hb CS;go_wp2_with fail;go_ret2
  exact HF.o _ HB1.o
end
end Go.Proofs.YtmammmjmipgmoaaGreatDoor
