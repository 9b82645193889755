import Derived.Test.YtmammmjmipgmoaaGreatDoorZN
import Derived.Test.YtmammmjmipgmoaaGreatDoorIter
import Derived.Test.YtmammmjmipgmoaaGreatDoorZM
import Derived.Test.YtmammmjmipgmoaaGreatDoorZD
import Derived.Lib.AtoiErrMem
import Derived.Test.YtmammmjmipgmoaaGreatDoorZQh
set_option linter.unusedVariables false
set_option maxRecDepth 100000
set_option maxHeartbeats 16000000
namespace Go.Proofs.YtmammmjmipgmoaaGreatDoor
section
open Go Go.RowKit Go.Maps
namespace Hl
def Lg.shift (G : Lg) : Lg := { G with S := G.S.tail }
def retainL (n : Nat) : List Sm → Lg → Dk.St → Int × Dk.St × Lg
 | [], G, D => (0, D, G)
 | s :: r, G, D => if r.length + 1 ≤ n then (0, D, G) else if (Dk.remove (nm s.n) D).1 = 0 then retainL n r G.shift (Dk.remove (nm s.n) D).2 else ((Dk.remove (nm s.n) D).1, (Dk.remove (nm s.n) D).2, G.hold (Dk.remove (nm s.n) D).1)
def retain6 (n : Int) (G : Lg) (D : Dk.St) : Int × Dk.St × Lg :=
 if state D G ≠ 0 then (state D G, D, G) else if n < 1 then (2, D, G) else retainL n.toNat G.S G D
theorem retainL_cons (n : Nat) (s : Sm) (r : List Sm) (G : Lg) (D : Dk.St) : retainL n (s :: r) G D = if r.length + 1 ≤ n then (0, D, G) else if (Dk.remove (nm s.n) D).1 = 0 then retainL n r G.shift (Dk.remove (nm s.n) D).2 else ((Dk.remove (nm s.n) D).1, (Dk.remove (nm s.n) D).2, G.hold (Dk.remove (nm s.n) D).1) := rfl
theorem retainL_few {n : Nat} {S : List Sm} {G : Lg} {D : Dk.St} (h : S.length ≤ n) : retainL n S G D = (0, D, G) := by
 cases S with
 | nil => rfl
 | cons s r => exact if_pos h
end Hl
def Jd3 (b : Nat) (w : World) : Nat := match w.cell? ⟨b, 3, none⟩ with
 | some (.slice _ n _) => n
 | _ => 0
section
variable {X Y : Nat → Prop} {B b d : Nat} {G G' : Hl.Lg} {D : Dk.St} {vs : Value} {P : List (Hl.Sm × Value)} {w w' w1 : World}
open Hl
def retV (bl bo : Nat) : Value := .func (Fn.func 74) #[] #[.pointer (some ⟨bl, 0, none⟩), .pointer (some ⟨bo, 0, none⟩)]
def Jc5 (s : List UInt8) (bl : Nat) (w : World) : World := (w.alloc (.cells #[.string (S s)] 9)).alloc (.cells #[retV bl w.heap.size] 58)
theorem Jfj (s : List UInt8) (bl : Nat) (w : World) : Below w.heap.size w (Jc5 s bl w) ∧ Bk #[.string (S s)] 9 (Jc5 s bl w) w.heap.size ∧ Bk #[retV bl w.heap.size] 58 (Jc5 s bl w) (w.heap.size + 1) ∧ (Jc5 s bl w).heap.size = w.heap.size + 2 := by
 unfold Jc5;refine ⟨Jas w _ _, (Jae _ _ _).more _, ?_, by simp only [sz5]⟩;have := Jae #[retV bl w.heap.size] 58 (w.alloc (.cells #[.string (S s)] 9));rw [sz5] at this;exact this
theorem Jp6 (hL : LgIn B b d G vs P w) (h : DkX (fun k => X k ∨ LgF b vs P k) B d D w) (hX : ∀ k, X k → k < w.heap.size) (hB : B ≤ w.heap.size) (hv : Vr w) (hN : ∀ k, LgF b vs P k → ¬ X k) (h3 : 3 ≤ B)
  {bl : Nat} (yl : X bl) (s : List UInt8) (c1 : w.cell? ⟨bl, 0, none⟩ = some (.pointer (some ⟨b, 0, none⟩))) (hs : s.length ≤ 100) :
  Calls Tryz.prog 61 #[.pointer (some ⟨b, 0, none⟩), .slice (some ⟨w.heap.size + 1, 0, none⟩) 1 1] (Jc5 s bl w) (RwL6 (fun k => (X k ∨ LgF b vs P k) ∨ (w.heap.size ≤ k ∧ k < w.heap.size + 2)) B b d G vs P (Dk.remove s D) (Jc5 s bl w)) := by
 obtain ⟨hb, hk1, hk2, hsz⟩ := Jfj s bl w;obtain ⟨n1, n2⟩ := Je8 h hL hX hb;generalize Jc5 s bl w = w1 at *;rw [hsz] at n1;have n2' : ∀ k, ((X k ∨ LgF b vs P k) ∨ (w.heap.size ≤ k ∧ k < w.heap.size + 2)) → k < w1.heap.size := fun k hk => n2 k (by rw [hsz]; exact hk)
 have key := Jed (X := fun k => (X k ∨ LgF b vs P k) ∨ (w.heap.size ≤ k ∧ k < w.heap.size + 2)) [(74, #[], #[.pointer (some ⟨bl, 0, none⟩), .pointer (some ⟨w.heap.size, 0, none⟩)])] (w.heap.size + 1) 1 [Dk.remove s] rfl (by simp) (hL.below hb) n1 n2' (Nat.le_trans hB hb.size) (hv.below hb) (fun k hk => .inl (.inr hk)) h3 (.inr ⟨by omega, by omega⟩)
  (fun j hj => by
   match j, hj with
   | 0, _ => exact hk2.cell 0)
  (fun i hi => by
   match i, hi with
   | 0, _ => exact Jav (fn := Tryz.f74) (by kernel_rfl) (by kernel_rfl) rfl)
  (fun i hi hi' D' w' hd hl hv' hw => by
   have kc : ∀ {a : Addr} {x : Value}, w.cell? a = some x → (X a.block ∨ LgF b vs P a.block) → w'.cell? a = some x := fun hc hx => Jam (Jab hc hb) hw (fun q => q.2 (.inl hx))
   match i, hi, hi' with
   | 0, _, _ => exact Jm3 hd (fun k hk => Nat.lt_of_lt_of_le (n2' k hk) hw.size) (Nat.le_trans hB (Nat.le_trans hb.size hw.size)) (.inl (.inl yl)) (.inr ⟨Nat.le_refl _, by omega⟩) (.inl (.inr (.inl rfl))) s hs (kc c1 (.inl yl)) ((hk1.wr hw (fun q => q.2 (.inr ⟨Nat.le_refl _, by omega⟩))).cell 0) hl.cell0)
 rw [Jcd] at key;exact key
structure RtI6 (X : Nat → Prop) (B b d n : Nat) (F : Int × Dk.St × Hl.Lg) (bl : Nat) (w : World) (G : Hl.Lg) (D : Dk.St) (wr : World) : Prop where
 h : HgX (fun k => X k ∨ k = bl) B b d D G wr
 f : retainL n G.S G D = F
 wt : Wr (fun k => B ≤ k ∧ ¬ X k) w wr
 c : wr.cell? ⟨bl, 0, none⟩ = some (.pointer (some ⟨b, 0, none⟩))
theorem Jd4 {n : Nat} (h : n ≤ 1000000000) : (nm n).length ≤ 11 := by unfold nm; rw [List.length_cons]; have := Jb8 n h; omega
theorem Jdy (h : HgX X B b d D G w) (hX : ∀ k, X k → k < w.heap.size) (hB : B ≤ w.heap.size) (n : Int) (hn : n ≤ 9223372036854775807) :
  Calls Tryz.prog 22 #[.pointer (some ⟨b, 0, none⟩), .int .i64 n] w (HgO X B b d (retain6 n G D) w) := by
 have CS := Qh (fun W (k : Below w.heap.size w W) => Jay (h.below k));have HS := Qh (fun (v : Int) W (k : Below w.heap.size w W) => Jcx (v := v) h k);unfold retain6;by_cases hs : Hl.state D G = 0
 ·rw [if_neg (by simp [hs])]
  rw [hs] at CS;by_cases hn1 : n < 1
  ·rw [if_pos hn1]
   have dn : decide (n < 1) = true := by simpa using hn1
   clear h hX hB hs;go_enter Tryz.func22, Tryz.ntmps22;go_wp2_with fail;with_reducible refine (CS.o _ (Qa _)).mono ?_
   rintro e w1 ⟨rfl, hb⟩;have HB := Qh (Jaa (Qa _) hb);clear hb CS;go_wp2_with fail;go_ret;exact HS.o _ _ HB.o
  ·rw [if_neg hn1]
   have dn : decide (n < 1) = false := by simpa using hn1
   obtain ⟨nn, rfl⟩ : ∃ k : Nat, n = (k : Int) := ⟨n.toNat, by omega⟩
   rw [Int.toNat_natCast];obtain ⟨F, hF⟩ : ∃ F, F = retainL nn G.S G D := ⟨_, rfl⟩
   rw [← hF]
   have H1 := Qh (fun W (k : Below w.heap.size w W) (l : w.heap.size < W.heap.size) (c : W.cell? ⟨w.heap.size, 0, none⟩ = some (.pointer (some ⟨b, 0, none⟩))) => (show RtI6 X B b d nn F w.heap.size w G D W from
    ⟨(h.newrow k).less (fun x hx => by
      rcases hx with q | q
      ·exact .inl q
      ·exact .inr ⟨by omega, by omega⟩), hF.symm, Jad k, c⟩))
   have HX0 := Qh hX;have HB0 := Qh hB;have hn2 : 1 ≤ nn := by omega
   clear h hX hB hs hF HS;go_enter Tryz.func22, Tryz.ntmps22;go_wp2_with fail;with_reducible refine (CS.o _ (Qa _)).mono ?_
   rintro e w1 ⟨rfl, hb⟩;have HI := Qh (H1.o w1 (Jaa (Qa _) hb) (by have := hb.size; rw [sz5] at this; omega) (((Jae #[.pointer (some ⟨b, 0, none⟩)] 33 w).below hb).cell 0));have HLT := Qh (show w.heap.size < w1.heap.size from by have := hb.size; rw [sz5] at this; omega);clear hb CS H1;go_wp2_with fail;go_loopw [] (fun wr => ∃ G' D', Hid (RtI6 X B b d nn F w.heap.size w G' D' wr)) (fun wr => Jd3 b wr)
   case atStart => exact ⟨G, D, HI⟩
   case round =>
    clear HI;obtain ⟨w3, rfl⟩ : ∃ x, x = wr := ⟨_, rfl⟩
    obtain ⟨G', D', HI⟩ := hrel;obtain ⟨hg, hf, hw, hc⟩ := HI.o;obtain ⟨vs, P, hL, hD, hN, hv, h3⟩ := hg;obtain ⟨ao, cap, rfl, hcm, hcp⟩ := hL.row.val;have hfew : P.length ≤ 1000 := by have := hL.ok.few; have := hL.len; omega
    have c3 : w3.cell? ⟨b, 3, none⟩ = some (.slice ao P.length cap) := hL.cell3;have c1 := hc;have hml : Jd3 b w3 = P.length := by unfold Jd3; rw [c3]
    have HW := Qh hw;by_cases hle : P.length ≤ nn
    ·have dl : decide ((nn : Int) < (P.length : Int)) = false := by simp; omega
     have dl' : decide (nn < P.length) = false := by simp; omega
     have HF := Qh (show HgO X B b d F w (.returned (.int .i64 0)) w3 from by
      rw [← hf, retainL_few (by rw [← hL.len]; exact hle)]
      exact ⟨rfl, HI.o.h.less (fun k hk => .inl hk), hw⟩)
     clear HI hf hw hc hL hD hN hv h3 hcm hcp hml HW;generalize P.length = M at *;go_wp2_with fail;go_ret;exact HF.o
    ·have dl : decide ((nn : Int) < (P.length : Int)) = true := by simp; omega
     have dl' : decide (nn < P.length) = true := by simp; omega
     obtain ⟨p, P', rfl⟩ : ∃ p P', P = p :: P' := by cases P with
      | nil => simp at hle
      | cons p P' => exact ⟨p, P', rfl⟩
     obtain ⟨m, hm⟩ : ∃ m, P'.length = m + 1 := ⟨P'.length - 1, by rw [List.length_cons] at hle; omega⟩
     obtain ⟨g, o, cap', hv9, k1, k2, k3, k4, k5, k6⟩ := hL.row.shape (by simp);simp only [Value.slice.injEq] at hv9;obtain ⟨rfl, -, rfl⟩ := hv9;have c5 : w3.cell? ⟨g, o, none⟩ = some (.int .i64 (p.1.n : Nat)) := k3 0 (by simp);have c6 : w3.cell? ⟨g, o + 1, none⟩ = some p.2 := k3 1 (by rw [List.length_cons]; omega);have hpn : p.1.n ≤ 900 := by have := (hL.ok.seg p.1 (by rw [← hL.seg]; simp)).1; unfold Sm.fin at this; omega
     have hS : G'.S = p.1 :: P'.map (·.1) := by rw [← hL.seg]; rfl
     have hlen : (p :: P').length = m + 2 := by rw [List.length_cons, hm]
     rw [hlen] at c3 dl dl' hml hcp;simp only [hlen] at hL hD hN;have CN := Qh (fun W (k : Vr W) => Jbv p.1 p.2 (by omega) W k);have hnl := Jd4 (n := p.1.n) (by omega);have CR := Qh (fun (W : World) (k : Below w3.heap.size w3 W) => Jp6 (X := fun k => X k ∨ k = w.heap.size) (hL.below k) (hD.below k) (fun x hx => Nat.lt_of_lt_of_le (by rcases hx with q | q; exact Nat.lt_of_lt_of_le (HX0.o x q) hw.size; rw [q]; exact World.block_lt_of_cell? w3 _ hc) k.size) (Nat.le_trans HB0.o (Nat.le_trans hw.size k.size)) (hv.below k) hN h3 (bl := w.heap.size) (.inr rfl) (nm p.1.n) (Jab hc k) (by omega));have dl3 : decide ((nn : Int) < (m : Int) + 2) = true := by have := dl'; simp only [decide_eq_true_eq] at *; omega
     have HL := Qh hL;have HN := Qh hN;have HV := Qh hv;have H3 := Qh h3;have HC := Qh hc;have HF := Qh hf;have HSS := Qh hS;have HM := Qh hm;have HML := Qh hml;have hmm : m + 2 ≤ 1000 := by rw [← hlen]; exact hfew
     obtain ⟨np, hnp⟩ : ∃ x, x = nm p.1.n := ⟨_, rfl⟩
     have HNP := Qh hnp;rw [← hnp] at CR CN;clear HI hf hw hc hL hD hN hv h3 hcm k1 k2 k3 k4 k5 k6 hS hm hml hle hlen hfew hnp hnl;generalize hr : Dk.remove np D' = r at *;have HR := Qh hr;clear hr;generalize hpp : p.1.n = pn at *;have HPP := Qh hpp;clear hpp;generalize hp2 : p.2 = p2 at *;have HP2 := Qh hp2;clear hp2;go_wp2_with fail;with_reducible refine (CN.o _ HV.o).mono ?_
     rintro e w4 ⟨rfl, hb4⟩;have HB4 := Qh hb4;have c1 := Jab HC.o hb4;have l4 : w.heap.size < w4.heap.size := World.block_lt_of_cell? w4 ⟨w.heap.size, 0, none⟩ c1;clear hb4 CN c3 c5 c6;have CR1 := Qh (CR.o w4 HB4.o);unfold Jc5 retV at CR1;clear CR;go_wp2_with fail;with_reducible refine CR1.o.mono ?_
     rintro e w5 ⟨rfl, o2, o3, o4, o5⟩;have HLF := Jfj np w.heap.size w4;unfold Jc5 retV at HLF;obtain ⟨e1, e2, e3, e4⟩ := HLF;have hlne : w.heap.size ≠ b := fun e => HN.o b (.inl rfl) (.inr e.symm)
     have F1 := Qh (show w5.cell? ⟨w.heap.size, 0, none⟩ = some (.pointer (some ⟨b, 0, none⟩)) from Jam (Jab c1 e1) o5 (fun q => by rcases q with q | q; exact hlne q; exact q.2 (.inl (.inl (.inr rfl)))));have F2 := Qh o2.cell3;have HBE := Qh (Jaa HB4.o e1);have HO2 := Qh o2;have HO3 := Qh o3;have HO4 := Qh o4
     have HWR := Qh (show Wr (fun k => B ≤ k ∧ ¬ X k) w w5 from HW.o.trans ((Jad HBE.o).step o5 (fun x hx => by
      rcases hx with rfl | ⟨z1, z2⟩
      ·exact .inl ⟨HL.o.bB, fun q => HN.o _ (.inl rfl) (.inl q)⟩
      ·exact .inl ⟨z1, fun q => z2 (.inl (.inl (.inl q)))⟩)))
     clear o2 o3 o4 o5 e1 e2 e3 e4 CR1 c1;by_cases hr : r.1 = 0
     ·rw [hr, hold_zero] at HO2
      have HF2 := Qh (show retainL nn (P'.map (·.1)) G'.shift r.2 = F from by
       rw [← HF.o, HSS.o]
       rw [retainL_cons, if_neg (by rw [List.length_map, HM.o]; have : decide (nn < m + 2) = true := dl'; simp only [decide_eq_true_eq] at this; omega), HPP.o, ← HNP.o, HR.o, if_pos hr])
      have d1 : (r.1 != 0) = false := by simp [hr]
      go_wp2_with fail;refine Jaj (S := fun V => V.cell? ⟨w.heap.size, 0, none⟩ = some (.pointer (some ⟨b, 0, none⟩)) ∧ V.cell? ⟨b, 3, none⟩ = some (.slice (some ⟨g, o, none⟩) (m + 2) cap)) 8 (by kernel_rfl) ?_ (fun hQ => ?_)
      ·exact ⟨Jab F1.o (Below.refl _ _).drew, Jab F2.o (Below.refl _ _).drew⟩
      have HX := Qh (Below.refl w5.heap.size w5).drew;obtain ⟨wd, hwd⟩ : ∃ x, x = World.drew w5 := ⟨_, rfl⟩
      rw [← hwd] at HX hQ ⊢;clear hwd;refine tkZ 0 [6, 7, 8] ?_;refine tkZ 1 [2, 3, 4, 5, 6, 7, 8] ?_;refine tkY 2 ?_;refine tkY 3 ?_;refine tkZ 4 [5, 6, 7, 8] ?_;refine tqZ 5 fun K hK => ?_
      go_simp;rw [if_pos (show (1 : Int) ≤ (m : Int) + 2 from by omega), if_neg (show ¬ cap = 1 from by omega)];go_simp;refine hK.out _ _ ?_ (fun hQ => ?_)
      ·exact ⟨Jab F1.o HX.o, Jab F2.o HX.o⟩
      clear hK K;refine tkY 6 ?_;refine tkY 7 ?_;refine tqL 8 fun K hK => ?_
      have f9 : wd.frozen? ⟨b, 3, none⟩ = false := (HO2.o.box.below HX.o).free 3;have m9 := Jab F2.o HX.o;go_simp;refine hK.out _ _ ?_;clear hK K;refine wpAny_done (by kernel_rfl) ?_ _;clear hQ m9 f9;have hK := (HO2.o.below HX.o).rest HM.o;have hset := Jai (A := fun z => z = b) wd ⟨b, 3, none⟩ (.slice (some ⟨g, o + 2, none⟩) (m + 1) (cap - 1)) rfl
      have hsub : ∀ k, LgF b (.slice (some ⟨g, o + 2, none⟩) (m + 1) (cap - 1)) P' k → LgF b (.slice (some ⟨g, o, none⟩) (m + 2) cap) (p :: P') k := fun k hk => by
       rcases hk with q | q | ⟨z, hz, q⟩
       ·exact .inl q
       ·exact .inr (.inl q)
       ·exact .inr (.inr ⟨z, List.mem_cons_of_mem _ hz, q⟩)
      have HI := Qh (show RtI6 X B b d nn F w.heap.size w G'.shift r.2 (wd.setCell ⟨b, 3, none⟩ (.slice (some ⟨g, o + 2, none⟩) (m + 1) (cap - 1))) from
       ⟨⟨_, _, hK, ((HO3.o.below HX.o).wr hset (fun k hk => by rw [hk]; exact .inl (.inr (.inl rfl)))).less (fun k hk => by
        rcases hk with q | q
        ·exact .inl (.inl q)
        ·exact .inl (.inr (hsub k q))), fun k hk => HN.o k (hsub k hk), (HO4.o.below HX.o).wr hset (fun k hk q => by have h1 := HL.o.bB; have h2 := H3.o; omega), H3.o⟩,
        by show retainL nn G'.S.tail G'.shift r.2 = F; rw [HSS.o]; exact HF2.o,
        (HWR.o.trans (Jad HX.o)).step hset (fun x hx => .inl (by rw [hx]; exact ⟨HL.o.bB, fun q => HN.o b (.inl rfl) (.inl q)⟩)),
        Jam (Jab F1.o HX.o) hset hlne⟩)
      have HM6 := Qh (show Jd3 b (wd.setCell ⟨b, 3, none⟩ (.slice (some ⟨g, o + 2, none⟩) (m + 1) (cap - 1))) < Jd3 b w3 from by
       rw [HML.o];unfold Jd3;rw [hK.cell3];simp only
       omega)
      clear hK hset hsub F1 F2;go_wp2_with fail;go_roundw
      case rel => exact ⟨_, _, HI⟩
      case measure => exact HM6.o
     ·have d1 : (r.1 != 0) = true := by simpa using hr
      have HFF := Qh (show HgO X B b d F w (.returned (.int .i64 r.1)) w5 from by
       have e : F = (r.1, r.2, G'.hold r.1) := by
        rw [← HF.o, HSS.o];rw [retainL_cons, if_neg (by rw [List.length_map, HM.o]; have : decide (nn < m + 2) = true := dl'; simp only [decide_eq_true_eq] at this; omega), HPP.o, ← HNP.o, HR.o, if_neg hr]
       rw [e]
       exact ⟨rfl, ⟨_, _, HO2.o, HO3.o.less (fun k hk => by rcases hk with q | q; exact .inl (.inl (.inl q)); exact .inl (.inr q)), fun k hk q => HN.o k hk (.inl q), HO4.o, H3.o⟩, HWR.o⟩)
      go_wp2_with fail;go_ret;exact HFF.o
 ·rw [if_pos hs]
  clear h hX hB;generalize Hl.state D G = z at *;have dz : (z != 0) = true := by simpa using hs
  go_enter Tryz.func22, Tryz.ntmps22;go_wp2_with fail;with_reducible refine (CS.o _ (Qa _)).mono ?_
  rintro e w1 ⟨rfl, hb⟩;have HB := Qh (Jaa (Qa _) hb);clear hb CS;go_wp2_with fail;go_ret;exact HS.o _ _ HB.o
end
end
section
open Go Go.RowKit Go.Maps
namespace Hl
def cntE (es : List Nat) (c : Nat) : Nat := es.countP fun e => decide (e ≤ c)
def sureS (D : Dk.St) : List Sm → Nat → Nat
 | [], a => a
 | s :: r, a => if cntE s.es (Dk.get (nm s.n) D.L).safe < s.es.length then s.n + cntE s.es (Dk.get (nm s.n) D.L).safe else sureS D r (s.n + cntE s.es (Dk.get (nm s.n) D.L).safe)
def sureL (D : Dk.St) (G : Lg) : Nat := if state D G = 0 then sureS D G.S 0 else 0
def Srt (G : Lg) : Prop := ∀ s ∈ G.S, s.es.Pairwise (· ≤ ·)
theorem cntE_le (es : List Nat) (c : Nat) : cntE es c ≤ es.length := by unfold cntE; exact List.countP_le_length
end Hl
section
variable {X Y : Nat → Prop} {B b d : Nat} {G G' : Hl.Lg} {D : Dk.St} {vs : Value} {P : List (Hl.Sm × Value)} {w w' w1 : World}
open Hl
theorem Jj6 (es : List Nat) (c : Nat) (ao : Option Addr) (cap : Nat) (hr : w.ownsRow B 3 1 (.slice ao es.length cap) es.length (nats es)) (hs : es.Pairwise (· ≤ ·)) (hl : es.length ≤ 1000000) :
  Calls Tryz.prog 76 #[.slice ao es.length cap, .int .i64 ((c : Int) + 1)] w fun e w' => e = .returned (.int .i64 (cntE es c : Nat)) ∧ Below w.heap.size w w' := by
 by_cases h0 : es.length = 0
 ·have he : es = [] := List.length_eq_zero_iff.1 h0
  subst he;have := Any.sort_SearchInts_none Tryz.searchInts ao cap ((c : Int) + 1) w;exact this
 ·obtain ⟨g, o, cap', hv, h1, h2, h3, h4, h5, h6⟩ := (Jak hr).shape (by omega)
  simp only [Value.slice.injEq] at hv;obtain ⟨rfl, -, rfl⟩ := hv;have hsz : (es.map fun n : Nat => (n : Int)).toArray.size = es.length := by simp
  have hat : ∀ i (hi : i < es.length), ((es.map fun n : Nat => (n : Int)).toArray)[i]! = (es[i] : Int) := fun i hi => by
   rw [getElem!_pos _ i (by simpa using hi)];simp
  have key := Any.sort_SearchInts Tryz.searchInts g o cap (es.map fun n : Nat => (n : Int)).toArray ((c : Int) + 1) w (fun i hi => by
   rw [hsz] at hi;rw [h3 i (by omega), hat i hi];unfold nats;rw [List.getElem?_map, List.getElem?_eq_getElem hi]
   rfl) h6 (by rw [hsz]; omega) (fun i j hij hj hi => by
   rw [hsz] at hj;rw [hat i (by omega)] at hi;rw [hat j hj];simp only [decide_eq_true_eq] at *;rcases Nat.lt_or_ge i j with q | q
   ·have := List.pairwise_iff_getElem.1 hs i j (by omega) hj q
    omega
   ·obtain rfl : i = j := by omega
    exact hi)
  rw [hsz] at key
  have e : (es.map fun n : Nat => (n : Int)).toArray.toList.countP (fun y => !decide ((c : Int) + 1 ≤ y)) = cntE es c := by
   unfold cntE;simp only [List.countP_map];refine List.countP_congr fun x hx => ?_
   simp;omega
  rw [e] at key;exact key
structure SuI (B b d : Nat) (G : Hl.Lg) (D : Dk.St) (w : World) (i a : Nat) (wr : World) : Prop where
 b : Below w.heap.size w wr
 f : sureS D (G.S.drop i) a = sureS D G.S 0
 a : a ≤ 1000
theorem Jee (D : Dk.St) (s : Sm) (r : List Sm) (a : Nat) : sureS D (s :: r) a = if cntE s.es (Dk.get (nm s.n) D.L).safe < s.es.length then s.n + cntE s.es (Dk.get (nm s.n) D.L).safe else sureS D r (s.n + cntE s.es (Dk.get (nm s.n) D.L).safe) := rfl
theorem Je0 (h : HgX X B b d D G w) (hsr : Srt G) : Calls Tryz.prog 24 #[.pointer (some ⟨b, 0, none⟩)] w fun e w' => e = .returned (.int .i64 (sureL D G : Nat)) ∧ Below w.heap.size w w' := by
 have CS := Qh (Jay h);by_cases hs : Hl.state D G = 0
 ·have he : sureL D G = sureS D G.S 0 := if_pos hs
  rw [he];rw [hs] at CS;obtain ⟨F, hF⟩ : ∃ F, F = sureS D G.S 0 := ⟨_, rfl⟩
  have HFF := Qh hF;rw [← hF];obtain ⟨vs, P, hL, hD, hN, hv, h3⟩ := h;obtain ⟨ao, cap, rfl, -, -⟩ := hL.row.val;have C3 := Qh hL.cell3;have HL := Qh hL;have HD := Qh hD;have HV := Qh hv;have HSR := Qh hsr;have hM : P.length ≤ 1000 := by have := hL.ok.few; have := hL.len; omega
  have HI0 := Qh (fun W (k : Below w.heap.size w W) => (show SuI B b d G D w 0 0 W from ⟨k, rfl, Nat.zero_le _⟩));clear hL hD hN hv h3 hs he hF hsr;generalize hMM : P.length = M at *;go_enter Tryz.func24, Tryz.ntmps24;go_wp2_with fail;with_reducible refine CS.o.mono ?_
  rintro e w1 ⟨rfl, hb⟩;have c3 := Jab C3.o hb;have HI := Qh (HI0.o w1 hb);clear hb CS HI0;go_wp2_with fail;go_loopw [3, 15] (fun v3 vi wr => ∃ i a : Nat, i ≤ M ∧ vi = .int .i64 i ∧ v3 = .int .i64 a ∧ Hid (SuI B b d G D w i a wr)) (fun _ vi _ => M - (intOf vi).toNat)
  case atStart => exact ⟨0, 0, Nat.zero_le _, rfl, rfl, HI⟩
  case round =>
   clear HI c3;obtain ⟨w3, rfl⟩ : ∃ x, x = wr := ⟨_, rfl⟩
   obtain ⟨i, a, hi, rfl, rfl, HI⟩ := hrel;obtain ⟨hb, hf, ha⟩ := HI.o;by_cases hlt : i < M
   ·have d1 : decide ((i : Int) < (M : Int)) = true := by simpa using hlt
    have d1' : decide (i < M) = true := by simpa using hlt
    have hip : i < P.length := by omega
    obtain ⟨g, o, cap', hv9, k1, k2, k3, k4, k5, k6⟩ := HL.o.row.shape (by omega);rw [hMM] at hv9;simp only [Value.slice.injEq] at hv9;obtain ⟨rfl, -, rfl⟩ := hv9;obtain ⟨p, hp⟩ : ∃ p, p = P[i] := ⟨_, rfl⟩
    have hpm : p ∈ P := by rw [hp]; exact List.getElem_mem _
    have hat := segsV_at P i hip;rw [← hp] at hat;have c5 : w3.cell? ⟨g, o + i * 2, none⟩ = some (.int .i64 (p.1.n : Nat)) := Jab (by rw [k3 (i * 2) (by omega), Nat.mul_comm i 2]; exact hat.1) hb;have c6 : w3.cell? ⟨g, o + i * 2 + 1, none⟩ = some p.2 := Jab (by rw [Nat.add_assoc, k3 (i * 2 + 1) (by omega), Nat.mul_comm i 2]; exact hat.2) hb
    have hgs : G.S.drop i = p.1 :: G.S.drop (i + 1) := by
     have hl := HL.o.len;rw [List.drop_eq_getElem_cons (by omega)];congr 1
     rw [hp];simp only [← HL.o.seg, List.getElem_map]
    have hpS : p.1 ∈ G.S := by rw [← HL.o.seg]; exact List.mem_map_of_mem hpm
    have hrow := HL.o.ends p hpm;have hsm := (HL.o.ok.seg p.1 hpS).1;unfold Sm.fin at hsm;obtain ⟨ae, ce, hp2⟩ := Jac hrow;rw [hp2] at hrow c6;have CN := Qh (fun W (k : Below w3.heap.size w3 W) => Jbv p.1 (.slice ae p.1.es.length ce) (by omega) W ((HV.o.below hb).below k));have hnl := Jd4 (n := p.1.n) (by omega);have CY := Qh (fun W (k : Below w3.heap.size w3 W) => Jkn ((HD.o.below hb).below k) (nm p.1.n) (by omega));have hsafe := Dk.get_safe HD.o.ok.l (nm p.1.n);have hsz := Dk.get_size HD.o.ok.l (nm p.1.n);have hrm := HD.o.ok.room;have hms := HD.o.ok.most;have CQ := Qh (fun W (k : Below w3.heap.size w3 W) => Jj6 p.1.es (Dk.get (nm p.1.n) D.L).safe ae ce (Jaf (Jaf hrow hb) k) (HSR.o p.1 hpS) (by omega));have c0 := Jab HL.o.cell0 hb;have hcl := cntE_le p.1.es (Dk.get (nm p.1.n) D.L).safe
    have HST := Qh (show (cntE p.1.es (Dk.get (nm p.1.n) D.L).safe < p.1.es.length → F = p.1.n + cntE p.1.es (Dk.get (nm p.1.n) D.L).safe) ∧ (¬ cntE p.1.es (Dk.get (nm p.1.n) D.L).safe < p.1.es.length → sureS D (G.S.drop (i + 1)) (p.1.n + cntE p.1.es (Dk.get (nm p.1.n) D.L).safe) = sureS D G.S 0) from by
     rw [hgs, Jee] at hf
     exact ⟨fun q => by rw [if_pos q] at hf; rw [HFF.o, ← hf], fun q => by rw [if_neg q] at hf; exact hf⟩)
    have hsf : (Dk.get (nm p.1.n) D.L).safe ≤ 100000000 := by omega
    generalize (Dk.get (nm p.1.n) D.L).safe = sf at *;rw [show (sf : Int) + 1 = IntKind.i64.wrap ((sf : Int) + 1) from (IntWalk.i64_in _ (by omega)).symm] at CQ;have HB := Qh hb;clear hb hf k1 k2 k3 k4 k5 k6 hp hpm hat hgs hpS hrow hp2 hnl hsafe hsz hrm hms HI;generalize hN : S (nm p.1.n) = N at *;generalize cntE p.1.es sf = cn at *;generalize p.1.es.length = L at *;generalize p.1.n = pn at *;go_wp2_with fail;have hb4 := (Below.refl w3.heap.size w3).alloc (Nat.le_refl _) (.cells #[.int .i64 (pn : Nat), .slice ae L ce] 88);have bk4 := Jae #[.int .i64 (pn : Nat), .slice ae L ce] 88 w3;have C0 := Qh (Jab c0 hb4);have HBW := Qh (Jaa HB.o hb4);clear c0 c5 c6;obtain ⟨bg, hbg⟩ : ∃ x, x = w3.heap.size := ⟨_, rfl⟩
    rw [← hbg] at bk4 hb4 ⊢;have HBG := Qh hbg;clear hbg;generalize w3.alloc (.cells #[.int .i64 (pn : Nat), .slice ae L ce] 88) = w4 at *;have HB4 := Qh (show Below w3.heap.size w3 w4 from by rw [← HBG.o]; exact hb4);have B0 := Qh (show w4.cell? ⟨bg, 0, none⟩ = some (.int .i64 (pn : Nat)) from bk4.cell 0);have B1 := Qh (show w4.cell? ⟨bg, 1, none⟩ = some (.slice ae L ce) from bk4.cell 1);have hK : ∀ {W' : World} {x : Addr} {u : Value}, w4.cell? x = some u → Below w4.heap.size w4 W' → W'.cell? x = some u := fun hx hy => Jab hx hy
    clear hb4 bk4 hK;have c0 := C0.o;have q0 := B0.o;have q1 := B1.o
    go_region_held3 (fun W => W.cell? ⟨b, 0, none⟩ = some (.pointer (some ⟨d, 0, none⟩)) ∧ W.cell? ⟨bg, 0, none⟩ = some (.int .i64 (pn : Nat)) ∧ W.cell? ⟨bg, 1, none⟩ = some (.slice ae L ce)) (go_keep) (first
     | (go_at_call 73; refine (CN.o _ (Jaa HB4.o ((Below.refl _ w4).drew))).mono ?_; rintro e w5 ⟨rfl, hb5⟩; have HB5 := Qh (Jaa ((Below.refl w4.heap.size w4).drew) hb5); clear hb5; have u0 := Jab C0.o HB5.o; have u1 := Jab B0.o HB5.o; have u2 := Jab B1.o HB5.o)
     | (go_at_call 77; refine (CY.o _ (Jaa HB4.o HB5.o)).mono ?_; rintro e w6 ⟨rfl, rfl⟩)
     | (go_at_call 76; refine (CQ.o _ (Jaa HB4.o HB5.o)).mono ?_; rintro e w7 ⟨rfl, hb7⟩; have HB7 := Qh (Jaa HB5.o hb7); clear hb7; have z0 := Jab C0.o HB7.o; have z1 := Jab B0.o HB7.o; have z2 := Jab B1.o HB7.o))
    have HBF := Qh (Jaa HBW.o HB7.o);have hca : cn + 0 ≤ 1000000 := by omega
    clear CN CY CQ C0 B0 B1 HB5 HB7 HB4 z0;by_cases hlt2 : cn < L
    ·have e1 := HST.o.1 hlt2
     have d2 : decide ((cn : Int) < (L : Int)) = true := by simpa using hlt2
     have d2' : decide (cn < L) = true := by simpa using hlt2
     have HE := Qh e1;clear e1;go_wp2_with fail;go_ret;exact ⟨by rw [HE.o, Int.natCast_add]; rfl, HBF.o⟩
    ·have HE := Qh (HST.o.2 hlt2)
     have d2 : decide ((cn : Int) < (L : Int)) = false := by simpa using hlt2
     have d2' : decide (cn < L) = false := by simpa using hlt2
     go_wp2_with fail;go_roundw
     case rel => exact ⟨i + 1, pn + cn, by omega, by go_num, by rw [Int.natCast_add], Qh ⟨HBF.o, HE.o, by omega⟩⟩
     case measure => simp [intOf]; omega
   ·have d1 : decide ((i : Int) < (M : Int)) = false := by simpa using hlt
    have d1' : decide (i < M) = false := by simpa using hlt
    have hfa : F = a := by
     have e : G.S.drop i = [] := List.drop_eq_nil_iff.2 (by have := HL.o.len; omega);rw [e] at hf;rw [HFF.o, ← hf];rfl
    have HB := Qh hb;clear hb hf HI;go_wp2_with fail;go_ret;exact ⟨by rw [hfa]; rfl, HB.o⟩
 ·have he : sureL D G = 0 := if_neg hs
  rw [he];clear h he hsr;generalize Hl.state D G = z at *;have dz : (z != 0) = true := by simpa using hs
  go_enter Tryz.func24, Tryz.ntmps24;go_wp2_with fail;with_reducible refine CS.o.mono ?_
  rintro e w1 ⟨rfl, hb⟩;have HB := Qh hb;clear hb CS;go_wp2_with fail;go_ret;exact ⟨rfl, HB.o⟩
end
end
section
open Go Go.RowKit Go.Maps
theorem Jp7 {fn : Func} {p : Tmp} {T : TypeId} {v : Value} (hr : fn.results = #[.cell p T]) (tmps : Array Value) (w : World) (g : Nat) (hp : tmps.getD p undef = .pointer (some ⟨g, 0, none⟩)) (hl : (loadVar T ⟨g, 0, none⟩).run Tryz.prog w = .ok v w) :
  (results fn tmps).run Tryz.prog w = .ok v w := by
 have hp' : tmps[p]?.getD undef = .pointer (some ⟨g, 0, none⟩) := by simpa using hp
 simp [results, hr, hp', asAddr, hl]
section
variable {X : Nat → Prop} {B d : Nat} {D : Dk.St} {w : World}
theorem Jos (h : DkX X B d D w) : Calls Tryz.prog 59 #[.pointer (some ⟨d, 0, none⟩)] w fun e w' => e = .returned (.agg #[.pointer (some ⟨d, 0, none⟩), .int .i64 (D.starts : Nat), .bool false]) ∧ Below w.heap.size w w' := by
 have CS := Qh (fun W (k : Below w.heap.size w W) => Jgj (h.below k));clear h;generalize D.starts = ds at *;go_enter Tryz.func59, Tryz.ntmps59;go_wp2_with fail;with_reducible refine (CS.o _ (Qa _)).mono ?_
 rintro e w1 ⟨rfl, rfl⟩;go_wp2_with fail;exact bodyPost_ret (Jp7 rfl _ _ w.heap.size rfl (run_loadVar_row _ w.heap.size _ _ #[.pointer (some ⟨d, 0, none⟩), .int .i64 (ds : Nat), .bool false] (0, 0) _ (Jae _ _ w) Tryz.underlying45 rfl (by kernel_rfl))) rfl ⟨rfl, Qa _⟩
end
end
section
open Go Go.RowKit Go.Shelf
attribute [local go_sem ↓] run_index_S
attribute [local go_sem] S_append S_extract
attribute [local go_sem] Oper.semAt_some
theorem Jm4 (l : List UInt8) (hl : l.length ≤ 1000000) (n : Nat) (hn : 1 ≤ n) (lp b n₀ B0 : Nat) (hbn : b < n₀) (J Jx : List (List UInt8 × Nat) → World → Prop) (hJ : AbidesFrom B0 J)
  (hY : ∀ pre x W, J pre W → pre.length < l.length + 1 → x ∈ M.runs l 0 → YieldAt Fence.wide (n - 1) Tryz.prog lp (encF x) W fun e W' =>
   (e = .returned (.bool true) ∧ J (pre ++ [x]) W' ∧ KpB b W W') ∨ (e = .returned (.bool false) ∧ Jx (pre ++ [x]) W'))
  (W : World) (hc : W.cell? ⟨b, 0, none⟩ = some (.string (S l))) (hn₀ : n₀ ≤ W.heap.size) (h0 : J [] W) :
  CallsIn Fence.wide n Tryz.prog 150 #[.func (.yield lp) #[] #[], .pointer (some ⟨b, 0, none⟩)] W fun e W' => (∃ v, e = .returned v) ∧
   ((∃ ys, ys = M.runs l 0 ∧ J ys W') ∨ (∃ pre : List (List UInt8 × Nat), pre <+: M.runs l 0 ∧ Jx pre W')) := by
 have cn := fun (z : Nat) W => Jn3 l (by omega) (z : Int) W
 have CN := Qh cn;clear cn;refine callsIn_of_wp Tryz.func150 rfl trivial ?_ rfl;simp only [Tryz.ntmps150, List.size_toArray, List.length_cons, List.length_nil, Nat.reduceAdd, Nat.reduceSub, Array.replicate_succ, Array.replicate_zero, List.push_toArray, List.append_toArray, List.nil_append, List.cons_append]
 have rel0 : ∀ (W' : World) (pre : List (List UInt8 × Nat)) (z : Nat), z ≤ l.length → J pre W' → 8 * pre.length ≤ z → pre ++ M.runs l z = M.runs l 0 → W'.cell? ⟨b, 0, none⟩ = some (.string (S l)) → n₀ ≤ W'.heap.size →
   StepE l J b n₀ (frV (M.next l z)).1 (frV (M.next l z)).2.1 (frV (M.next l z)).2.2 W' := fun W' pre z h1 h2 h3 h4 h5 h6 => ⟨pre, z, rfl, rfl, rfl, h1, h2, h3, h4, h5, h6⟩
 have R0 := Qh rel0;clear rel0;gi_wp2
 have c0 : ∀ W, Calls Tryz.prog 151 #[.string (S l), .int .i64 0] W fun e w' => e = .returned (.tuple #[(frV (M.next l 0)).1, (frV (M.next l 0)).2.1, (frV (M.next l 0)).2.2]) ∧ Below W.heap.size W w' := fun W => by
  have := CN.o 0 W;rw [M.nextI_nat, Jib] at this;exact this
 refine ⟨trivial, (callsIn_wide.2 (c0 _)).mono ?_⟩;rintro e W1 ⟨rfl, hb1⟩;have s1 := R0.o W1 [] 0 (by omega) (hJ _ _ _ none h0 (Jej hb1) (fun r e => by cases e)) (by simp) (by simp) ((hb1.cell (p := ⟨b, 0, none⟩) (by simp; omega)).trans hc) (Nat.le_trans hn₀ hb1.size);generalize (frV (M.next l 0)).1 = v3 at *;generalize (frV (M.next l 0)).2.1 = v4 at *;generalize (frV (M.next l 0)).2.2 = v5 at *;have S1 := Qh s1;clear s1 c0 hb1 h0 hc;gi_wp2
 gi_loopw [3, 4, 5] (fun p nx ok wr => StepE l J b n₀ p nx ok wr) (fun _ nx ok _ => Jfx l.length nx ok)
 case atStart => exact S1.o
 case round =>
  obtain ⟨pre, z, rfl, rfl, rfl, hz, hj, h8, hru, hc, hn₀'⟩ := hrel;cases hx : M.next l z with
  | none =>
   simp only [frV];gi_wp2
   refine ⟨fun _ h => (by cases h), ?_⟩;gi_wp2
   go_end0
   exact ⟨⟨_, rfl⟩, .inl ⟨pre, by rw [← hru, M.runs_none hx]; simp, hj⟩⟩
  | some r =>
   obtain ⟨p, z2⟩ := r;simp only [frV];have hbd := M.next_bounds hx;have q1 := hbd.2.1;have q2 := hbd.2.2.1;have hru2 : (pre ++ [(p, z2)]) ++ M.runs l z2 = M.runs l 0 := by rw [← hru, M.runs_some hx]; simp
   have HRU := Qh hru2;clear hbd hru hru2;obtain ⟨fn, tmps, assign, body, hy, hR⟩ := hY pre (p, z2) _ hj (by omega) (by rw [← HRU.o]; simp);dsimp only [encF] at hy
   have c1 : ∀ W, Calls Tryz.prog 151 #[.string (S l), .int .i64 z2] W fun e w' => e = .returned (.tuple #[(frV (M.next l z2)).1, (frV (M.next l z2)).2.1, (frV (M.next l z2)).2.2]) ∧ Below W.heap.size W w' := fun W => by
    have := CN.o z2 W;rw [M.nextI_nat, Jib] at this;exact this
   have C1 := Qh c1;clear c1 hx;gi_wp2
   refine hR.mono ?_;rintro e W3 (⟨rfl, hJ3, hk3⟩ | ⟨rfl, hJx3⟩)
   ·have hc3 : W3.cell? ⟨b, 0, none⟩ = some (.string (S l)) := hk3.1.trans hc
    have hs3 := Nat.le_trans hn₀' hk3.2;gi_wp2
    refine ⟨trivial, (callsIn_wide.2 (C1.o _)).mono ?_⟩;rintro e W4 ⟨rfl, hb4⟩;have s4 := R0.o W4 (pre ++ [(p, z2)]) z2 q2 (hJ _ _ _ none hJ3 (Jej hb4) (fun r e => by cases e)) (by simp; omega) HRU.o ((hb4.cell (p := ⟨b, 0, none⟩) (by simp; omega)).trans hc3) (Nat.le_trans hs3 hb4.size);have hm := Jn5 l z2 q2;generalize (frV (M.next l z2)).1 = y3 at *;generalize (frV (M.next l z2)).2.1 = y4 at *;generalize (frV (M.next l z2)).2.2 = y5 at *;have S4 := Qh s4;have HM := Qh hm;clear s4 hm hb4 C1;gi_wp2
    go_roundw
    case rel => exact S4.o
    case measure => simpa [Jfx, intOf] using HM.o
   ·gi_wp2
    go_end0
    exact ⟨⟨_, rfl⟩, .inr ⟨_, ⟨_, HRU.o⟩, hJx3⟩⟩
theorem Jf5 (l : List UInt8) (w : World) : Calls Tryz.prog 112 #[.string (S l)] w fun e w' => e = .returned (.func (.func 150) #[] #[.pointer (some ⟨w.heap.size, 0, none⟩)]) ∧ w' = w.alloc (.cells #[.string (S l)] 9) := by
 go_enter Tryz.func112, Tryz.ntmps112;go_wp2_with fail;go_ret;exact ⟨rfl, rfl⟩
abbrev RunX (l : List UInt8) := { x : List UInt8 × Nat // x ∈ M.runs l 0 }
def Jax {l : List UInt8} (ys : List (RunX l)) : List (List UInt8 × Nat) := ys.map (·.1)
theorem Jdc {l : List UInt8} (ys : List (RunX l)) (x : RunX l) : Jax (ys ++ [x]) = Jax ys ++ [x.1] := by simp [Jax]
theorem Je1 {l : List UInt8} (ys : List (RunX l)) : (Jax ys).length = ys.length := by simp [Jax]
theorem Jfk (l : List UInt8) (hl : l.length ≤ 1000000) (n : Nat) (hn : 1 ≤ n) (b n₀ : Nat) (w : World) (hbn : b < n₀) (hn₀ : n₀ ≤ w.heap.size) (hc : w.cell? ⟨b, 0, none⟩ = some (.string (S l))) :
  SeqStopsK Fence.wide n Tryz.prog 150 #[.pointer (some ⟨b, 0, none⟩)] (fun x : RunX l => encF x.1) (KpB b) (fun ys => Jax ys = M.runs l 0) (fun pre => Jax pre <+: M.runs l 0) (l.length + 1) w := fun lp J Jx W hW hJ hJx hY h0 => by
 have key := Jm4 l hl n hn lp b n₀ W.heap.size hbn (fun pre W => ∃ ys : List (RunX l), Jax ys = pre ∧ J ys W) (fun pre W => ∃ ys : List (RunX l), Jax ys = pre ∧ Jx ys W)
  (fun s A A' row hs hg hr => by
   obtain ⟨ys, e, hj⟩ := hs
   exact ⟨ys, e, hJ ys A A' row hj hg hr⟩)
  (fun pre x W' hs hlen hx => by
   obtain ⟨ys, rfl, hj⟩ := hs;refine (hY ys ⟨x, hx⟩ W' hj (by rw [Je1] at hlen; exact hlen)).mono ?_;rintro e W2 (⟨h1, h2, h3⟩ | ⟨h1, h2⟩)
   ·exact .inl ⟨h1, ⟨_, Jdc _ _, h2⟩, h3⟩
   ·exact .inr ⟨h1, ⟨_, Jdc _ _, h2⟩⟩)
  W ((hW.cell (p := ⟨b, 0, none⟩) (by simp; omega)).trans hc) (Nat.le_trans hn₀ hW.size) ⟨[], rfl, h0⟩
 refine key.mono ?_;rintro e W2 ⟨h1, (⟨ys, h2, zs, h3, h4⟩ | ⟨pre, h2, zs, h3, h4⟩)⟩
 ·exact ⟨h1, .inl ⟨zs, h3.trans h2, h4⟩⟩
 ·exact ⟨h1, .inr ⟨zs, by show Jax zs <+: _; rw [h3]; exact h2, h4⟩⟩
end
section
open Go Go.RowKit Go.Maps
def Fnum (kind : List UInt8) (least most : Int) (name : List UInt8) : Option Int :=
 if Lib.hasPrefix name kind = true then
  match Lib.atoiAll (Lib.trimPrefix name kind) with
  | .ok v => if v < least ∨ most < v ∨ Lib.itoa v ≠ Lib.trimPrefix name kind then none else some v
  | _ => none
 else none
theorem Jm5 (l : List UInt8) (hl : l.length ≤ 1000000) (w : World) (hv : Vr w) :
  Calls Tryz.prog 174 #[.string (S l)] w fun e w' => ∃ n ev, e = .returned (.tuple #[.int .i64 n, ev]) ∧ Below w.heap.size w w' ∧ ((Lib.atoiAll l = .ok n ∧ ev = .nilIface) ∨ ((∀ v, Lib.atoiAll l ≠ .ok v) ∧ ∃ t p, ev = .iface t p)) := by
 have hsz : (S l).size = l.length := by simp [ByteArray.size]
 cases ha : Lib.atoiAll l with
 | ok v =>
  refine (Tryz.strconv_Atoi_ok (S l) (by rw [hsz]; omega) v (by simpa using ha) w).mono ?_;rintro e w' ⟨rfl, h⟩;refine ⟨v, .nilIface, rfl, ?_, .inl ⟨rfl, rfl⟩⟩;rcases h with rfl | ⟨t, rfl⟩
  ·exact Below.refl _ _
  ·exact Lib.bytesWorld_below w _ t
 | range =>
  obtain ⟨t, p, hs⟩ := hv.rng;refine (Tryz.strconv_Atoi_range (S l) (by rw [hsz]; omega) (by simpa using ha) _ w hs (.inr ⟨t, p, rfl⟩)).mono ?_;rintro e w' ⟨N, rfl, _, _, hb⟩;exact ⟨_, _, rfl, hb, .inr ⟨fun v q => (by cases q), _, _, rfl⟩⟩
 | _ =>
  obtain ⟨t, p, hs⟩ := hv.syn;refine (Tryz.strconv_Atoi_syntax (S l) (by rw [hsz]; omega) (by simpa using ha) _ w hs (.inr ⟨t, p, rfl⟩)).mono ?_;rintro e w' ⟨N, rfl, _, _, hb⟩;exact ⟨0, _, rfl, hb, .inr ⟨fun v q => (by cases q), _, _, rfl⟩⟩
def numV (r : Option Int) : Value := .tuple #[.int .i64 (r.getD 0), .bool r.isSome]
theorem Jj7 (name kind : List UInt8) (least most : Int) (hl : name.length ≤ 1000) (h0 : 0 ≤ least) (h1 : most ≤ 1000000000) (w : World) (hv : Vr w) :
  Calls Tryz.prog 154 #[.string (S name), .string (S kind), .int .i64 least, .int .i64 most] w fun e w' => e = .returned (numV (Fnum kind least most name)) ∧ Below w.heap.size w w' := by
 have CC := Qh (Tryz.strings_CutPrefix (S name) (S kind) w);simp only [] at CC
 have htl : (Lib.trimPrefix name kind).length ≤ 1000 := by
  unfold Lib.trimPrefix;split
  ·rw [List.length_drop]; omega
  ·exact hl
 have CA := Qh (fun W (k : Vr W) => Jm5 (Lib.trimPrefix name kind) (by omega) W k);obtain ⟨r, hr⟩ : ∃ r, r = Fnum kind least most name := ⟨_, rfl⟩
 have HR := Qh hr;rw [← hr];unfold Fnum at HR;have HV := Qh hv;clear hv hr;generalize Lib.trimPrefix name kind = dg at *;generalize Lib.hasPrefix name kind = ok at *;go_enter Tryz.func154, Tryz.ntmps154;go_wp2_with fail;with_reducible refine CC.o.mono ?_
 rintro e w1 ⟨rfl, rfl⟩;go_wp2_with fail;with_reducible refine (CA.o _ HV.o).mono ?_
 rintro e w2 ⟨n, ev, rfl, hb, hcase⟩;have HB := Qh hb;have HV2 := Qh (HV.o.below hb);clear hb CA CC;cases ok with
 | false =>
  have hn : r = none := by rw [HR.o]; rfl
  have HN := Qh hn;clear hcase hn;go_wp2_with fail;go_ret2
  exact ⟨by rw [HN.o]; rfl, HB.o⟩
 | true =>
  rcases hcase with ⟨ha, rfl⟩ | ⟨hno, t, p, rfl⟩
  ·have h9 := HR.o
   rw [if_pos rfl, ha] at h9;simp only at h9;by_cases c1 : n < least
   ·have HN := Qh (show r = none from by rw [h9, if_pos (.inl c1)])
    have d1 : decide (n < least) = true := by simpa using c1
    clear h9 ha;go_wp2_with fail;go_ret2
    exact ⟨by rw [HN.o]; rfl, HB.o⟩
   ·have d1 : decide (n < least) = false := by simpa using c1
    by_cases c2 : most < n
    ·have HN := Qh (show r = none from by rw [h9, if_pos (.inr (.inl c2))])
     have d2 : decide (most < n) = true := by simpa using c2
     clear h9 ha;go_wp2_with fail;go_ret2
     exact ⟨by rw [HN.o]; rfl, HB.o⟩
    ·have d2 : decide (most < n) = false := by simpa using c2
     have CI := Qh (fun W (k : Vr W) => Tryz.strconv_Itoa n (by omega) (by omega) W k.tab);by_cases c3 : Lib.itoa n = dg
     ·have HN := Qh (show r = some n from by rw [h9, if_neg (fun q => by rcases q with q | q | q; exact c1 q; exact c2 q; exact q c3)])
      rw [c3] at CI;clear h9 ha c3;go_wp2_with fail;with_reducible refine (CI.o _ HV2.o).mono ?_
      rintro e w3 ⟨rfl, k, os, hw⟩;replace HB := Qh (Jaa HB.o (show Below w2.heap.size w2 w3 from by rw [hw]; exact Lib.below_grow _ w2 (Nat.le_refl _) k os));clear hw CI;go_wp2_with fail;go_ret2
      exact ⟨by rw [HN.o]; rfl, HB.o⟩
     ·have HN := Qh (show r = none from by rw [h9, if_pos (.inr (.inr c3))])
      have CI2 := Qh (show ∀ W, Vr W → Calls Tryz.prog 165 #[.int .i64 n] W fun e w' => e = .returned (.string (S (Lib.itoa n))) ∧ Below W.heap.size W w' from fun W k => (CI.o W k).mono fun e w' q => by
       obtain ⟨rfl, k, os, hw⟩ := q
       exact ⟨rfl, by rw [hw]; exact Lib.below_grow _ W (Nat.le_refl _) k os⟩)
      clear CI;have d3 : (Lib.itoa n != dg) = true := by simpa using c3
      have d4 : (Lib.itoa n == dg) = false := by simpa using c3
      generalize Lib.itoa n = it at *;clear h9 ha c3;go_wp2_with fail;with_reducible refine (CI2.o _ HV2.o).mono ?_
      rintro e w3 ⟨rfl, hw⟩;replace HB := Qh (Jaa HB.o hw);clear hw CI2;go_wp2_with fail;go_ret2
      exact ⟨by rw [HN.o]; rfl, HB.o⟩
  ·have HN := Qh (show r = none from by
    rw [HR.o, if_pos rfl];split
    ·rename_i v hv; exact absurd hv (hno v)
    ·rfl)
   clear hno;go_wp2_with fail;go_ret2
   exact ⟨by rw [HN.o]; rfl, HB.o⟩
end
end Go.Proofs.YtmammmjmipgmoaaGreatDoor
