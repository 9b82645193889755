import Derived.Test.YtmammmjmipgmoaaGreatDoorZKh
import Derived.Test.YtmammmjmipgmoaaGreatDoorZHh
import Derived.Test.YtmammmjmipgmoaaGreatDoorZJd
import Derived.Test.YtmammmjmipgmoaaGreatDoorZQh
set_option linter.unusedVariables false
set_option maxRecDepth 100000
set_option maxHeartbeats 16000000
namespace Go.Proofs.YtmammmjmipgmoaaGreatDoor
open Go Go.RowKit Go.Maps
section
open Hl
variable {B d r x b q i : Nat} {G : Hl.Lg} {D Dr : Dk.St} {w w' w1 : World} {P : Nat → Prop} {lp ld : Option (Nat × Hl.Lg)} {c : Rc}
theorem actB6 (h : Bch i B d r x w) (h8 : i ≤ 800) (y : Ra6) (hy : RaP6 B w y) : Calls Tryz.prog 15 #[.pointer (some ⟨x, 0, none⟩), .agg (raA6 y)] w (ActB i B d r x w) := by
 obtain ⟨b, q, G, D, h1, h2, h3⟩ := h;obtain ⟨hk0, hk1⟩ := hy.kind;obtain ⟨m, hm, hlt⟩ : ∃ m : Nat, y.kind % 13 = (m : Int) ∧ m < 13 := ⟨(y.kind % 13).toNat, by omega, by omega⟩
 by_cases m4 : m ≤ 4
 ·exact Jkc h1 h2 h8 h3 y hy m hm (by omega)
 by_cases m6 : m ≤ 6
 ·exact Jne h1 h2 h8 h3 y hy m hm (by omega)
 by_cases m7 : m = 7
 ·exact Jka h1 h2 h8 h3 y hy m hm m7
 by_cases m8 : m = 8
 ·exact Jkb h1 h2 h8 h3 y hy m hm m8
 by_cases m9 : m = 9
 ·exact Jng h1 h2 h8 h3 y hy m hm m9
 by_cases m10 : m = 10
 ·exact Jlw h1 h2 h8 h3 y hy m hm m10
 by_cases m11 : m = 11
 ·exact Jnf h1 h2 h8 h3 y hy m hm m11
 exact Jlx h1 h2 h8 h3 y hy m hm (by omega)
theorem bn_new (hd : DkX (fun _ => False) B d D w1) (hv : Vr w1) (h3 : 3 ≤ B) (hB : B ≤ w1.heap.size) (hb : Below w1.heap.size w1 w) (hr : RfIn B r c D w) (hr1 : ∀ k, Fr r c k → w1.heap.size ≤ k) : Bn (fun _ => False) B d r none D none D w :=
 ⟨Fr r c, Fr r c, ⟨(hd.more (X' := Fr r c) (fun k hk => .inr (hr1 k hk))).below hb, hv.below hb, h3⟩, ⟨c, hr, Nat.le_trans hB (hr1 r (.inl rfl)), rfl⟩, fun k hk => ⟨hk, id⟩, fun k hk => hk.elim, fun k hk => (hr.fr k hk).2, Nat.le_trans hB hb.size⟩
theorem Jgx (W : World) (hv : Vr W) (cp : Int) (L : List Ra6) (ao : Option Addr) (cap : Nat) (hI : Jh1 L) (hA : RasAt6 W ao L) :
  Calls Tryz.prog 3 #[.int .i64 cp, .slice ao L.length cap] W fun e w' => e = .returned (.bool true) ∧ Below W.heap.size W w' := by
 have CG := Qh (great6 L ao cap W hI hA);have HI := Qh hI;have HA := Qh hA;have HV := Qh hv;have H3 := Qh hv.sz;clear hI hA hv;by_cases hc : 1 ≤ cp ∧ cp ≤ 1048576
 ·obtain ⟨n, rfl⟩ : ∃ n : Nat, cp = (n : Int) := ⟨cp.toNat, by omega⟩
  have CN := Qh (Jms n W (by omega) (by omega));have CR := Qh (fun w1 => rNew5 n w1 (by omega) (by omega));clear hc;go_enter Tryz.func3, Tryz.ntmps3;go_wp2_with fail;with_reducible refine CG.o.mono ?_
  rintro e w1 (⟨rfl, rfl⟩ | ⟨rfl, hF, rfl⟩)
  ·go_wp2_with fail
   go_ret;exact ⟨rfl, Below.refl _ _⟩
  have HF := Qh hF;have hL := hF.n;clear hF CG;go_wp2_with fail;with_reducible refine CN.o.mono ?_
  rintro e w1 ⟨d, rfl, hd, hb, hda⟩;have HD := Qh hd;have HB := Qh hb;clear hd hb CN hda;go_wp2_with fail;with_reducible refine (CR.o _).mono ?_
  rintro e w2 ⟨rfl, hr, hb2⟩
  have H0 := Qh (show Bn (fun _ => False) W.heap.size d w1.heap.size none (Dk.new n) none (Dk.new n) w2 from by
   have hr' : RfIn W.heap.size w1.heap.size rc0 (Dk.new n) w2 := ⟨hr.box, Jaq hr.row HB.o.size, Jaq hr.krow HB.o.size, hr.set, hr.ok, hr.few, hr.small⟩
   refine bn_new HD.o (HV.o.below HB.o) H3.o HB.o.size hb2 hr' (fun k hk => ?_);rcases hk with rfl | ⟨x, hx, _⟩ | ⟨x, hx, _⟩
   ·exact Nat.le_refl _
   ·cases hx
   ·cases hx)
  replace HB := Qh (HB.o.trans (hb2.mono HB.o.size));obtain ⟨r, hr9⟩ : ∃ x, x = w1.heap.size := ⟨_, rfl⟩
  rw [← hr9] at H0 ⊢;clear hr hb2 CR HD hr9;go_wp2_with fail;have hbx := (Below.refl w2.heap.size w2).alloc (Nat.le_refl _) (.cells (bxC d r (.pointer none) (.pointer none)) 36);have HX := Qh (show Bk (bxC d r (.pointer none) (.pointer none)) 36 (w2.alloc (.cells (bxC d r (.pointer none) (.pointer none)) 36)) w2.heap.size from Jae _ _ _);have HN := Qh (show Bn (fun k => k = w2.heap.size) W.heap.size d r none (Dk.new n) none (Dk.new n) (w2.alloc (.cells (bxC d r (.pointer none) (.pointer none)) 36)) from (H0.o.newrow hbx).less (fun k hk => .inr ⟨by omega, by rw [hk]; exact HX.o.lt⟩));replace HB := Qh (HB.o.trans (hbx.mono HB.o.size));unfold bxC at HX HN HB;have COP := Qh (Jnd (Z := []) (tz := []) HN.o HX.o (by show (0 : Nat) ≤ _; omega) (Jnc n).hz rfl);rw [open_new] at COP;clear hbx H0;generalize w2.alloc (.cells #[.pointer (some ⟨d, 0, none⟩), .pointer none, .pointer (some ⟨r, 0, none⟩), .pointer none] 36) = w3 at *;generalize w2.heap.size = x at *;go_wp2_with fail;with_reducible refine COP.o.mono ?_
  rintro e w4 ⟨rfl, hb4, ⟨h0, _⟩ | ⟨_, b, q, hn4, hx4⟩⟩
  ·exact absurd rfl h0
  have HH := Qh (show Bch 0 W.heap.size d r x w4 from ⟨b, q, _, _, hn4, ⟨Nat.le_refl _, Nat.le_refl _, .inl ⟨0, [], Jnc n, Nat.le_refl _⟩⟩, hx4⟩);replace HB := Qh (HB.o.trans hb4);have x1 := hx4.cell 1;simp [bxC] at x1;clear hb4 hn4 hx4 COP HX HN;go_wp2_with fail;have HL := Qh (show Bch 0 W.heap.size d r x w4 ∧ Below W.heap.size W w4 from ⟨HH.o, HB.o⟩);clear x1 HH HB;go_loopw [10] (fun v wr => ∃ i : Nat, i ≤ L.length ∧ v = .int .i64 i ∧ Hid (Bch i W.heap.size d r x wr ∧ Below W.heap.size W wr)) (fun v _ => L.length - (intOf v).toNat)
  case atStart => exact ⟨0, Nat.zero_le _, rfl, HL⟩
  case round =>
   clear HL;obtain ⟨w5, rfl⟩ : ∃ x, x = wr := ⟨_, rfl⟩
   obtain ⟨i, hi, rfl, HH⟩ := hrel;by_cases hlt : i < L.length
   ·have d1 : decide ((i : Int) < (L.length : Int)) = true := by simpa using hlt
    have d1' : decide (i < L.length) = true := by simpa using hlt
    obtain ⟨g, off, rfl, hra⟩ := (HA.o.below HH.o.2).off hlt
    have HRP := Qh (show RaP6 W.heap.size w5 (L.getD i ra06) from by
     have hm : L.getD i ra06 ∈ L := by rw [show L.getD i ra06 = L[i] from by simp [List.getD, hlt]]; exact List.getElem_mem hlt
     have hw := HI.o.each _ hm;have hf := HF.o.each i hlt;have hns := (HA.o.off hlt)
     obtain ⟨g0, off0, _, hr0⟩ := hns
     exact ⟨hw.kind, hf.fits hw, hw.n, hw.m, hw.keep.ks (by have := hf.keep; omega), hr0.2.below HH.o.2, Jqi hr0.2⟩)
    have CA := actB6 HH.o.1 (by omega) (L.getD i ra06) HRP.o;have HZ := Qh HH.o.1.size;have hi1 : (0 : Int) ≤ (i : Int) := by omega
    have hi2 : (i : Int) < (L.length : Int) := by omega
    generalize L.getD i ra06 = y at *;obtain ⟨⟨c0, c1, c2, c3, c4, c5, c6, c7, c8, c9, c10, c11⟩, -⟩ := hra;unfold raA6 at CA;replace CA := Qh CA;go_wp2_with fail;with_reducible refine CA.o.mono ?_
    rintro e w6 ⟨rfl, hb, hc⟩;have HN := Qh (show Bch (i + 1) W.heap.size d r x w6 ∧ Below W.heap.size W w6 from ⟨hc, HH.o.2.trans hb⟩);have CS := Qh (sameB6 hc);clear hb hc CA HH c0 c1 c2 c3 c4 c5 c6 c7 c8 c9 c10 c11;go_wp2_with fail;with_reducible refine CS.o.mono ?_
    rintro e w7 ⟨rfl, hb⟩;have HM := Qh (show Bch (i + 1) W.heap.size d r x w7 ∧ Below W.heap.size W w7 from ⟨HN.o.1.below hb, HN.o.2.trans (hb.mono HN.o.1.size)⟩);clear hb CS HN;go_wp2_with fail;go_roundw
    case rel => exact ⟨i + 1, by omega, by go_num, HM⟩
    case measure => simp [intOf]; omega
   ·have d1 : decide ((i : Int) < (L.length : Int)) = false := by simpa using hlt
    have d1' : decide (i < L.length) = false := by simpa using hlt
    have HBL := Qh HH.o.2;have CD := Qh (show Calls Tryz.prog 13 #[] w5 (fun e w' => e = .returned (.bool true) ∧ Below w5.heap.size w5 w') from does6 w5 (by obtain ⟨b, q, G, D, h1, _⟩ := HH.o.1; exact h1.vr));have HZ := Qh HH.o.1.size;clear HH;go_wp2_with fail;with_reducible refine CD.o.mono ?_
    rintro e w6 ⟨rfl, hb⟩;have HF4 := Qh (HBL.o.trans (hb.mono HZ.o));clear hb;go_wp2_with fail;go_ret;exact ⟨rfl, HF4.o⟩
 ·have CN := Qh (Jpr cp W (by omega))
  have CR := Qh (Jp1 cp W (by omega));have CD := Qh (does6 W HV.o);go_enter Tryz.func3, Tryz.ntmps3;go_wp2_with fail;with_reducible refine CG.o.mono ?_
  rintro e w1 (⟨rfl, rfl⟩ | ⟨rfl, hF, rfl⟩)
  ·go_wp2_with fail
   go_ret;exact ⟨rfl, Below.refl _ _⟩
  go_wp2_with fail;with_reducible refine CN.o.mono ?_
  rintro e w1 ⟨rfl, rfl⟩;go_wp2_with fail;with_reducible refine CR.o.mono ?_
  rintro e w1 ⟨rfl, rfl⟩;go_wp2_with fail;with_reducible refine CD.o.mono ?_
  rintro e w4 ⟨rfl, hb⟩;have HF4 := Qh hb;clear hb;go_wp2_with fail;go_ret;exact ⟨rfl, HF4.o⟩
theorem hostlogPlays_calls (W : World) (hv : Vr W) (cp : Int) (hcp : (Lit.int .i64 cp).wf = true) (u : Value) (hu : URas6 W u) : Calls Tryz.prog 3 #[.int .i64 cp, u] W fun e w' => e = .returned (.bool true) ∧ Below W.heap.size W w' := by
 obtain ⟨L, ao, cap, rfl, hI, hA⟩ := hu;exact Jgx W hv cp L ao cap hI hA
end
end Go.Proofs.YtmammmjmipgmoaaGreatDoor
