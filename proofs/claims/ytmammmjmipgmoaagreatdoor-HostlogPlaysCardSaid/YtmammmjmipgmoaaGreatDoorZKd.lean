import Derived.Test.YtmammmjmipgmoaaGreatDoorZKc
import Derived.Test.YtmammmjmipgmoaaGreatDoorZQh
set_option linter.unusedVariables false
set_option maxRecDepth 100000
set_option maxHeartbeats 16000000
namespace Go.Proofs.YtmammmjmipgmoaaGreatDoor
section
open Go Go.RowKit Go.Maps
theorem Dk.lay_steps (dr nm s : List UInt8) (D : Dk.St) : Dk.lay dr nm s D = if (Dk.append dr s D).1 = 0 then (if (Dk.sync dr (Dk.append dr s D).2).1 = 0 then Dk.rename dr nm (Dk.sync dr (Dk.append dr s D).2).2 else Dk.sync dr (Dk.append dr s D).2) else Dk.append dr s D := by
 unfold Dk.lay;show Dk.next_ (Dk.append dr s D) (Dk.run [Dk.sync dr, Dk.rename dr nm]) = _
 by_cases h1 : (Dk.append dr s D).1 = 0
 ·rw [Dk.next_ok h1, if_pos h1]
  show Dk.next_ (Dk.sync dr (Dk.append dr s D).2) (Dk.run [Dk.rename dr nm]) = _
  by_cases h2 : (Dk.sync dr (Dk.append dr s D).2).1 = 0
  ·rw [Dk.next_ok h2, if_pos h2]
   show Dk.next_ (Dk.rename dr nm (Dk.sync dr (Dk.append dr s D).2).2) (Dk.run []) = _
   by_cases h3 : (Dk.rename dr nm (Dk.sync dr (Dk.append dr s D).2).2).1 = 0
   ·rw [Dk.next_ok h3]
    exact Prod.ext h3.symm rfl
   ·rw [Dk.next_no h3]
  ·rw [Dk.next_no h2, if_neg h2]
 ·rw [Dk.next_no h1, if_neg h1]
namespace Hl
def mendN (n : Nat) (D : Dk.St) : Int × Dk.St := if (M.wh (Dk.get (nm n) D.L).dat 0).2 = (Dk.get (nm n) D.L).dat.length then (0, D) else Dk.lay nD (nm n) ((Dk.get (nm n) D.L).dat.take (M.wh (Dk.get (nm n) D.L).dat 0).2) D
end Hl
section
open Hl
variable {B r q : Nat} {c c' : Rc} {vs vs' : Value} {D D' : Dk.St} {G G' : Hl.Lg} {w w' w1 : World} {v v' : Value} {e e' : Ending}
theorem OpJ.lift {c1 : Rc} (hf : ∀ k, DcF r q c1 vs k → DcF r q c vs k ∨ w.heap.size ≤ k) (hw : Wr (DcF r q c vs) w w1) (h : OpJ B r q c1 vs v D' G' w1 e w') : OpJ B r q c vs v D' G' w e w' := by
 obtain ⟨q0, c2, q1, q2, q3⟩ := h;refine ⟨q0, c2, q1, fun b hb => ?_, hw.step q3 (fun x hx => hf x hx)⟩;rcases q2 b hb with z | z
 ·exact hf b z
 ·exact .inr (Nat.le_trans hw.size z)
theorem OpJ.pre (hb : Below w.heap.size w w1) (h : OpJ B r q c vs v D' G' w1 e w') : OpJ B r q c vs v D' G' w e w' := by
 obtain ⟨h0, c1, h1, h2, h3⟩ := h;refine ⟨h0, c1, h1, fun b hb2 => ?_, (Jad hb).trans h3⟩;rcases h2 b hb2 with z | z
 ·exact .inl z
 ·exact .inr (Nat.le_trans hb.size z)
theorem Jo6 (h : DcIn B r q c vs D G w) (hb : Below w.heap.size w w') : OpJ B r q c vs v D G w (.returned v) w' := ⟨rfl, c, h.below hb, fun k hk => .inl hk, Jad hb⟩
theorem OpJ.opd (h : OpJ B r q c vs v D' G' w e w') : OpD B r q c vs v D' G' w e w' := by
 obtain ⟨h0, c1, h1, h2, h3⟩ := h;exact ⟨h0, c1, vs, h1, h2, h3⟩
theorem Jjf (h : DcIn B r q c vs D G w) (hO : Dk.Ok D) (hB : B ≤ w.heap.size) (n : Nat) (hn : n ≤ 1000) (hl : (Dk.get (nm n) D.L).dat.length ≤ 1000000) (hen : (M.wh (Dk.get (nm n) D.L).dat 0).2 ≤ (Dk.get (nm n) D.L).dat.length) :
  Calls Tryz.prog 93 #[.pointer (some ⟨q, 0, none⟩), .int .i64 (n : Nat)] w (OpJ B r q c vs (.int .i64 (mendN n D).1) (mendN n D).2 G w) := by
 have CD := Qh (Jdq h n (by omega));have CW := Qh (fun W => Jcn (Dk.get (nm n) D.L).dat hl W);have HS := Qh (fun (v : Value) W (k : Below w.heap.size w W) => Jo6 (v := v) h k);have HH := Qh (fun W (k : Below w.heap.size w W) => h.below k);have HX := Qh (fun c' vs' D' G' W (k : DcIn B r q c' vs' D' G' W) => (show W.cell? ⟨q, 0, none⟩ = some (.pointer (some ⟨r, 0, none⟩)) from k.box.cell 0));have hnl : (nm n).length ≤ 11 := Jd4 (by omega);unfold mendN;by_cases he : (M.wh (Dk.get (nm n) D.L).dat 0).2 = (Dk.get (nm n) D.L).dat.length
 ·rw [if_pos he]
  rw [he] at CW;generalize (Dk.get (nm n) D.L).dat = dt at *;generalize (M.wh dt 0).1 = rs at *;have t1 : (((dt.length : Nat) : Int) == ((dt.length : Nat) : Int)) = true := by simp
  clear h hO hB he hen hnl;go_enter Tryz.func93, Tryz.ntmps93;go_wp2_with fail;with_reducible refine CD.o.mono ?_
  rintro e w1 ⟨rfl, hb⟩;have HB := Qh hb;clear hb CD;go_wp2_with fail;with_reducible refine (CW.o _).mono ?_
  rintro e w2 ⟨v, rfl, hr, hb⟩;obtain ⟨ao, cp, rfl⟩ := Jac hr;replace HB := Qh (Jaa HB.o hb);clear hb hr CW;go_wp2_with fail;go_ret;exact HS.o _ _ HB.o
 ·rw [if_neg he, Dk.lay_steps]
  have CN := Qh (fun W => Jca n (by omega) W);have RPH := Qh (Jat (P := Tryz.prog) 9 Tryz.underlying9 (Dk.get (nm n) D.L).dat (((M.wh (Dk.get (nm n) D.L).dat 0).2 : Nat) : Int) (M.wh (Dk.get (nm n) D.L).dat 0).2 rfl hen)
  have CA := Qh (show ∀ W, Below w.heap.size w W → Calls Tryz.prog 102 #[.pointer (some ⟨r, 0, none⟩), .string { data := #[108, 110, 101, 119] }, .string (S ((Dk.get (nm n) D.L).dat.take (M.wh (Dk.get (nm n) D.L).dat 0).2))] W (OpJ B r q c vs (.int .i64 (Dk.append nD ((Dk.get (nm n) D.L).dat.take (M.wh (Dk.get (nm n) D.L).dat 0).2) D).1) (Dk.append nD ((Dk.get (nm n) D.L).dat.take (M.wh (Dk.get (nm n) D.L).dat 0).2) D).2 G W) from fun W k =>
   (Jfp (h.below k).disk (Nat.le_trans hB k.size) nD _ (by decide) (by rw [List.length_take]; omega) hO.most hO.n hO.k).mono fun e w' ho => OpI.dj (h.below k) ho)
  have hO1 := Dk.append_okd hO nD ((Dk.get (nm n) D.L).dat.take (M.wh (Dk.get (nm n) D.L).dat 0).2);generalize (Dk.get (nm n) D.L).dat = dt at *;generalize (M.wh dt 0).1 = rs at *;generalize (M.wh dt 0).2 = en at *;obtain ⟨a1, ha1⟩ : ∃ a, a = Dk.append nD (dt.take en) D := ⟨_, rfl⟩
  rw [← ha1] at CA hO1 ⊢
  have CB := Qh (show ∀ c' W, DcIn B r q c' vs a1.2 G W → Calls Tryz.prog 96 #[.pointer (some ⟨r, 0, none⟩), .string { data := #[108, 110, 101, 119] }] W (OpJ B r q c' vs (.int .i64 (Dk.sync nD a1.2).1) (Dk.sync nD a1.2).2 G W) from fun c' W k =>
   (Ji1 k.disk nD hO1.n hO1.k).mono fun e w' ho => OpI.dj k ho)
  have hO2 := Dk.sync_okd hO1 nD;obtain ⟨a2, ha2⟩ : ∃ a, a = Dk.sync nD a1.2 := ⟨_, rfl⟩
  rw [← ha2] at CB hO2 ⊢
  have CC := Qh (show ∀ c' W, DcIn B r q c' vs a2.2 G W → B ≤ W.heap.size → Calls Tryz.prog 142 #[.pointer (some ⟨r, 0, none⟩), .string { data := #[108, 110, 101, 119] }, .string (S (nm n))] W (OpJ B r q c' vs (.int .i64 (Dk.rename nD (nm n) a2.2).1) (Dk.rename nD (nm n) a2.2).2 G W) from fun c' W k hb =>
   (Jon k.disk hb nD (nm n) (by omega) hO2.n hO2.k).mono fun e w' ho => OpI.dj k ho)
  obtain ⟨a3, ha3⟩ : ∃ a, a = Dk.rename nD (nm n) a2.2 := ⟨_, rfl⟩
  rw [← ha3] at CC ⊢;obtain ⟨RT, hRT⟩ : ∃ RT, RT = (if a1.1 = 0 then (if a2.1 = 0 then a3 else a2) else a1) := ⟨_, rfl⟩
  rw [← hRT];have HR1 := Qh (show a1.1 ≠ 0 → RT = a1 from fun z => by rw [hRT, if_neg z]);have HR2 := Qh (show a1.1 = 0 → a2.1 ≠ 0 → RT = a2 from fun z z2 => by rw [hRT, if_pos z, if_neg z2]);have HR3 := Qh (show a1.1 = 0 → a2.1 = 0 → RT = a3 from fun z z2 => by rw [hRT, if_pos z, if_pos z2]);clear hRT;generalize nm n = N at *;have t1 : (((en : Nat) : Int) == ((dt.length : Nat) : Int)) = false := by simp; omega
  have HB0 := Qh hB;have x0 := HX.o _ _ _ _ _ h;clear h hO hB he hnl ha1 ha2 ha3 hO1 hO2 HS;go_enter Tryz.func93, Tryz.ntmps93;go_wp2_with fail;with_reducible refine CD.o.mono ?_
  rintro e w1 ⟨rfl, hb⟩;have HB := Qh hb;clear hb CD;go_wp2_with fail;with_reducible refine (CW.o _).mono ?_
  rintro e w2 ⟨v, rfl, hr, hb⟩;obtain ⟨ao, cp, rfl⟩ := Jac hr;replace HB := Qh (Jaa HB.o hb);clear hb hr CW x0;have x0 := HX.o _ _ _ _ _ (HH.o _ HB.o);go_wp2_with fail;have RP := RPH.o
  go_region_held3 (fun W => W.cell? ⟨q, 0, none⟩ = some (.pointer (some ⟨r, 0, none⟩))) (go_keep) (first
   | (go_at_call 102; refine (CA.o _ (Jaa HB.o ((Below.refl w2.heap.size w2).drew))).mono ?_; rintro e w4 ho; have HO := Qh (OpJ.pre (Jaa HB.o ((Below.refl w2.heap.size w2).drew)) ho); obtain ⟨rfl, c4, hd4, hf4, -⟩ := ho; have HD4 := Qh hd4; have HF4 := Qh (show ∀ k, DcF r q c4 vs k → DcF r q c vs k ∨ w.heap.size ≤ k from fun k hk => (hf4 k hk).imp id (Nat.le_trans (Jaa HB.o ((Below.refl w2.heap.size w2).drew)).size)); have HW4 := Qh (HO.o.2.choose_spec.2.2); clear hd4 hf4; have y0 := HX.o _ _ _ _ _ HD4.o))
  clear x0 RP CA;by_cases z1 : a1.1 = 0
  ·have e1 : (a1.1 == 0) = true := by simp [z1]
   go_wp2_with fail;with_reducible refine (CB.o _ _ HD4.o).mono ?_
   rintro e w5 ho;have HO5 := Qh (OpJ.lift HF4.o HW4.o ho);obtain ⟨rfl, c5, hd5, hf5, -⟩ := ho;have HD5 := Qh hd5;have HF5 := Qh (show ∀ k, DcF r q c5 vs k → DcF r q c vs k ∨ w.heap.size ≤ k from fun k hk => (hf5 k hk).elim (HF4.o k) (fun z => .inr (Nat.le_trans HW4.o.size z)));have HW5 := Qh (HO5.o.2.choose_spec.2.2);clear hf5;have hw5 : B ≤ w5.heap.size := by obtain ⟨-, _, -, -, k⟩ := HO5.o; exact Nat.le_trans HB0.o k.size
   clear hd5 CB HO;by_cases z2 : a2.1 = 0
   ·have e2 : (a2.1 == 0) = true := by simp [z2]
    have hRT := HR3.o z1 z2;subst hRT;have x5 := HX.o _ _ _ _ _ HD5.o;go_wp2_with fail
    go_region_held3 (fun W => W.cell? ⟨q, 0, none⟩ = some (.pointer (some ⟨r, 0, none⟩))) (go_keep) (first
     | (go_at_call 97; refine (CN.o _).mono ?_; rintro e w6 ⟨rfl, hb6⟩; have HB6 := Qh (Jaa ((Below.refl w5.heap.size w5).drew) hb6); clear hb6; have y1 := HX.o _ _ _ _ _ (HD5.o.below HB6.o))
     | (go_at_call 142; refine (CC.o _ _ (HD5.o.below HB6.o) (Nat.le_trans hw5 HB6.o.size)).mono ?_; rintro e w7 ho; have HO7 := Qh ho; obtain ⟨rfl, c7, hd7, -, -⟩ := ho; have y2 := HX.o _ _ _ _ _ hd7; clear hd7))
    have HFIN := Qh (show OpJ B r q c vs (.int .i64 RT.1) RT.2 G w (.returned (.int .i64 RT.1)) w7 from OpJ.lift HF5.o HW5.o (OpJ.pre HB6.o HO7.o));go_wp2_with fail;go_ret;exact HFIN.o
   ·have e2 : (a2.1 == 0) = false := by simp [z2]
    have hRT := HR2.o z1 z2;subst hRT;go_wp2_with fail;go_ret;exact HO5.o
  ·have e1 : (a1.1 == 0) = false := by simp [z1]
   have hRT := HR1.o z1;subst hRT;go_wp2_with fail;go_ret;exact HO.o
end
end
section
open Go Go.RowKit Go.Maps
namespace Hl
def SgOk (D : Dk.St) (Z : List Sg) : Prop := ∀ i (hi : i < Z.length), (M.wh (Dk.get (nm Z[i].n) D.L).dat 0).1 = Z[i].L.map M.enc ∧ (M.wh (Dk.get (nm Z[i].n) D.L).dat 0).2 ≤ (Dk.get (nm Z[i].n) D.L).dat.length ∧ (Dk.get (nm Z[i].n) D.L).dat.length ≤ 1000000 ∧ Mays Z[i].L ∧ Z[i].n + Z[i].L.length ≤ 900 ∧ (∀ h : i + 1 < Z.length, (M.wh (Dk.get (nm Z[i].n) D.L).dat 0).2 = (Dk.get (nm Z[i].n) D.L).dat.length ∧ 0 < Z[i].L.length ∧ Z[i + 1].n = Z[i].n + Z[i].L.length)
def opnD (Z : List Sg) (D : Dk.St) : Int × Dk.St := Dk.next_ (Dk.clear nD D) fun D1 => match Z.getLast? with
 | none => (0, D1)
 | some z => mendN z.n D1
end Hl
section
open Hl
variable {B r q : Nat} {c c' : Rc} {vs vs' : Value} {D D' : Dk.St} {G G' : Hl.Lg} {w w' w1 : World} {v v' : Value} {e e' : Ending}
def Jdx (B r : Nat) (c : Rc) (res : Int × Dk.St) (G : Hl.Lg) (w : World) (e : Ending) (w' : World) : Prop :=
 (res.1 ≠ 0 ∧ OpI B r c (.tuple #[.pointer none, .int .i64 res.1]) res.2 w e w') ∨
 (res.1 = 0 ∧ ∃ q c' vs', e = .returned (.tuple #[.pointer (some ⟨q, 0, none⟩), .int .i64 0]) ∧ w.heap.size ≤ q ∧ DcIn B r q c' vs' res.2 G w' ∧ (∀ k, DcF r q c' vs' k → Fr r c k ∨ w.heap.size ≤ k) ∧ Wr (Fr r c) w w')
theorem Jo7 (h : RfIn B r c D w) (hB : B ≤ w.heap.size) (hr : B ≤ r) {Z : List Sg} (hfew : Z.length ≤ 1000) (hb : Below w.heap.size w w1) {ao : Option Addr} {cap : Nat} (ho : w1.ownsRow w.heap.size 3 1 (.slice ao Z.length cap) Z.length (nats (Z.map (·.n)))) :
  DcIn B r w1.heap.size c (.slice ao Z.length cap) D ⟨D.starts, false, Z.map smOf⟩ (w1.alloc (.cells #[.pointer (some ⟨r, 0, none⟩), .slice ao Z.length cap, .int .i64 (D.starts : Nat), .bool false] 121)) := by
 have hd := h.below (Jaa hb ((Below.refl w1.heap.size w1).alloc (Nat.le_refl _) (.cells #[.pointer (some ⟨r, 0, none⟩), .slice ao Z.length cap, .int .i64 (D.starts : Nat), .bool false] 121)));have hl := h.fr;refine ⟨hd, Jae _ _ _, ?_, ?_, Nat.le_trans hB hb.size, hr, ?_⟩
 ·have h1 := Jaq (ho.alloc (.cells #[.pointer (some ⟨r, 0, none⟩), .slice ao Z.length cap, .int .i64 (D.starts : Nat), .bool false] 121)) hB
  have := Jak h1;simp only [List.length_map, List.map_map];exact this
 ·rintro k (rfl | hk) hf
  ·have := (hl _ hf).2
   have := hb.size;omega
  ·have h1 := (ho.lt k hk).1
   have := (hl _ hf).2;omega
 ·simpa using hfew
theorem Je9 (hb : Below w.heap.size w w1) (hq : w.heap.size ≤ q) (hv : ∀ k, vs.ownBlock = some k → w.heap.size ≤ k) (ho : OpD B r q c vs v D' G w1 e w') : ∃ c' vs', DcIn B r q c' vs' D' G w' ∧ (∀ k, DcF r q c' vs' k → Fr r c k ∨ w.heap.size ≤ k) ∧ Wr (Fr r c) w w' := by
 obtain ⟨-, c', vs', h1, h2, h3⟩ := ho
 have hd : ∀ k, DcF r q c vs k → Fr r c k ∨ w.heap.size ≤ k := fun k hk => by
  rcases hk with z | z | z
  ·exact .inl z
  ·exact .inr (by rw [z]; exact hq)
  ·exact .inr (hv k z)
 refine ⟨c', vs', h1, fun k hk => ?_, (Jad hb).step h3 hd⟩;rcases h2 k hk with z | z
 ·exact hd k z
 ·exact .inr (Nat.le_trans hb.size z)
theorem Jo8 (h : RfIn B r c D w) (hO : Dk.Ok D) (hB : B ≤ w.heap.size) (hr : B ≤ r) (Z : List Sg) (hfew : Z.length ≤ 1000) (hN : NmsOk (Dk.names D.L)) (hnum : numsN (Dk.names D.L) = Z.map (·.n)) (hS : SgOk D Z) (hM : ∀ z, Z.getLast? = some z → (Dk.clear nD D).1 = 0 → z.n ≤ 1000 ∧ (Dk.get (nm z.n) (Dk.clear nD D).2.L).dat.length ≤ 1000000 ∧ (M.wh (Dk.get (nm z.n) (Dk.clear nD D).2.L).dat 0).2 ≤ (Dk.get (nm z.n) (Dk.clear nD D).2.L).dat.length) :
  Calls Tryz.prog 41 #[.pointer (some ⟨r, 0, none⟩)] w (Jdx B r c (if D.up = false then (51, D) else opnD Z D) ⟨D.starts, false, Z.map smOf⟩ w) := by
 have HR := Qh (fun W (k : Below w.heap.size w W) => h.below k);obtain ⟨y0, y1, y2, -, -, -, -⟩ := h.s;by_cases hu : D.up = false
 ·rw [if_pos hu]
  have HS := Qh (fun W (k : Below w.heap.size w W) => (show OpI B r c (.tuple #[.pointer none, .int .i64 51]) D w (.returned (.tuple #[.pointer none, .int .i64 51])) W from ⟨rfl, c, h.below k, fun k hk => .inl hk, Jad k⟩));rw [hu] at y2;clear h hO hB hN hnum hS y0 y1;go_enter Tryz.func41, Tryz.ntmps41;go_wp2_with fail;go_ret2
  exact .inl ⟨by simp, HS.o _ (Below.refl _ _)⟩
 ·rw [if_neg hu]
  have hup : D.up = true := by simpa using hu
  rw [hup] at y2;have CN := Qh (show ∀ W, Below w.heap.size w W → Calls Tryz.prog 87 #[.pointer (some ⟨r, 0, none⟩)] W (Jls (Z.map (·.n)) W) from fun W k => by rw [← hnum]; exact Jj9 (h.below k) hN);have HBX := Qh (fun W (k : Below w.heap.size w W) => (show W.cell? ⟨r, 1, none⟩ = some (.int .i64 (D.starts : Nat)) from (h.below k).s.2.1));have HNW := Qh (fun W (ao : Option Addr) (cap : Nat) (hb : Below w.heap.size w W) (ho : W.ownsRow w.heap.size 3 1 (.slice ao Z.length cap) Z.length (nats (Z.map (·.n)))) => Jo7 h hB hr hfew hb ho);have HSG := Qh hS;have HH0 := Qh h;clear h hN hnum hS hu y0;go_enter Tryz.func41, Tryz.ntmps41;go_wp2_with fail
  go_region_held3 (fun W => W.cell? ⟨r, 1, none⟩ = some (.int .i64 (D.starts : Nat))) (go_keep) (first
   | (go_at_call 87; refine (CN.o _ ((Below.refl w.heap.size w).drew)).mono ?_; rintro e w4 ⟨ao, cap, rfl, ho4, hb4⟩; have HB4 := Qh (Jaa ((Below.refl w.heap.size w).drew) hb4); have HO4 := Qh ho4; clear ho4 hb4; have y3 := HBX.o _ HB4.o))
  have HD0 := Qh (HNW.o w4 ao cap HB4.o (by have := HO4.o; rw [List.length_map] at this; exact this));obtain ⟨W5, hW5⟩ : ∃ x, x = w4.alloc (.cells #[.pointer (some ⟨r, 0, none⟩), .slice ao Z.length cap, .int .i64 (D.starts : Nat), .bool false] 121) := ⟨_, rfl⟩
  have HB5 := Qh (show Below w.heap.size w W5 from by rw [hW5]; exact Jaa HB4.o ((Below.refl w4.heap.size w4).alloc (Nat.le_refl _) _));have HV0 := Qh (show ∀ k, (Value.slice ao Z.length cap).ownBlock = some k → w.heap.size ≤ k from fun k hk => (HO4.o.lt k (by rw [List.length_map]; exact hk)).1);have HQ := Qh (show w.heap.size ≤ w4.heap.size from HB4.o.size);have HQN := Qh (show ∀ k, Fr r c k → k < w.heap.size from fun k hk => (HH0.o.fr k hk).2);rw [← hW5] at HD0 ⊢;clear hW5 HO4 HB4 HNW HBX CN y3 y1 y2;generalize w4.heap.size = q at *;have HH := Qh (fun W (k : Below W5.heap.size W5 W) => HD0.o.below k)
  have HSC := Qh (fun W (k : Below W5.heap.size W5 W) => show W.cell? ⟨q, 0, none⟩ = some (.pointer (some ⟨r, 0, none⟩)) ∧ W.cell? ⟨q, 1, none⟩ = some (.slice ao Z.length cap) ∧ ∀ j (hj : j < Z.length), ∃ g o, ao = some ⟨g, o, none⟩ ∧ ∀ j2 (hj2 : j2 < Z.length), W.cell? ⟨g, o + j2, none⟩ = some (.int .i64 ((Z[j2]).n : Nat)) from by
   refine ⟨(HH.o W k).box.cell 0, (HH.o W k).box.cell 1, fun j hj => ?_⟩;obtain ⟨g', o', cap', hv, -, -, h3, -⟩ := (HH.o W k).row.shape (by simp only [List.length_map]; omega);simp only [Value.slice.injEq] at hv;obtain ⟨rfl, -, -⟩ := hv;refine ⟨g', o', rfl, fun j2 hj2 => ?_⟩;rw [h3 j2 (by simp only [List.length_map]; omega)];unfold nats;simp only [List.map_map];rw [List.getElem?_map, List.getElem?_eq_getElem hj2]
   rfl)
  go_wp2_with fail;go_loopw [5] (fun v wr => ∃ i : Nat, i ≤ Z.length ∧ v = .int .i64 i ∧ Hid (Below W5.heap.size W5 wr)) (fun v _ => Z.length - (intOf v).toNat)
  case atStart => exact ⟨0, Nat.zero_le _, rfl, Qh (Below.refl _ _)⟩
  case round =>
   obtain ⟨w3, rfl⟩ : ∃ x, x = wr := ⟨_, rfl⟩
   obtain ⟨i, hi, rfl, HB⟩ := hrel;obtain ⟨x0, x1, x2⟩ := HSC.o _ HB.o;by_cases hle : Z.length ≤ i
   ·obtain rfl : i = Z.length := by omega
    have dl : decide ((Z.length : Int) < (Z.length : Int)) = false := by simp
    have HVS := Qh (show ∀ k, (Value.slice ao Z.length cap).ownBlock = some k → w.heap.size ≤ k from HV0.o);have HO0 := Qh hO;have CAt := Qh (show Calls Tryz.prog 91 #[.pointer (some ⟨r, 0, none⟩), .string { data := #[108, 110, 101, 119] }] w3 (AtR5 nD D.L w3) from rAt5 (HH.o w3 HB.o).disk nD);have CRm := Qh (show Calls Tryz.prog 92 #[.pointer (some ⟨r, 0, none⟩), .string { data := #[108, 110, 101, 119] }] w3 (OpI B r c (.int .i64 (Dk.remove nD D).1) (Dk.remove nD D).2 w3) from Ji2 (HH.o w3 HB.o).disk (Nat.le_trans hB (Nat.le_trans HB5.o.size HB.o.size)) nD hO.n hO.k);by_cases hhas : Dk.has nD D.L = true
    ·have hcl : Dk.clear nD D = Dk.remove nD D := by unfold Dk.clear; rw [if_pos hhas]
     obtain ⟨rm, hrm⟩ : ∃ x, x = Dk.remove nD D := ⟨_, rfl⟩
     rw [← hrm] at CRm hcl;have HO1 := Qh (show Dk.Ok rm.2 from by rw [hrm]; exact Dk.remove_okd hO nD);clear hrm;clear x2;go_wp2_with fail;with_reducible refine CAt.o.mono ?_
     rintro e w4 ⟨ha, rfl⟩;rcases ha with ⟨hn0, -⟩ | ⟨k, hk, -, rfl⟩
     ·rw [hhas] at hn0; cases hn0
     ·go_wp2_with fail
      with_reducible refine CRm.o.mono ?_
      rintro e w9 ho;have HI := Qh ho;obtain ⟨rfl, -⟩ := ho;by_cases hr0 : rm.1 = 0
      ·have e1 : (rm.1 != 0) = false := by simp [hr0]
       have HOP := Qh (OpD.pre HB.o (OpI.dc (HH.o w3 HB.o) HI.o));have HCL := Qh (show opnD Z D = (match Z.getLast? with | none => (0, rm.2) | some z => mendN z.n rm.2) from by unfold opnD; rw [hcl, Dk.next_ok hr0]);have HML := Qh (show ∀ z, Z.getLast? = some z → z.n ≤ 1000 ∧ (Dk.get (nm z.n) rm.2.L).dat.length ≤ 1000000 ∧ (M.wh (Dk.get (nm z.n) rm.2.L).dat 0).2 ≤ (Dk.get (nm z.n) rm.2.L).dat.length from fun z hz => by have := hM z hz; rw [hcl] at this; exact this hr0);have HB9 := Qh (show B ≤ w9.heap.size from Nat.le_trans hB (Nat.le_trans HB5.o.size (HOP.o.2.choose_spec.choose_spec.2.2.size)));obtain ⟨D1, hD1⟩ : ∃ x, x = rm.2 := ⟨_, rfl⟩
       rw [← hD1] at HOP HCL HML HO1;clear hD1;obtain ⟨-, c1, vs1, hd1, hf1, hw1⟩ := HOP.o;have HD1 := Qh hd1;by_cases hz0 : Z.length = 0
       ·obtain ⟨ao1, cap1, rfl, -, -⟩ := hd1.row.val
        have x9 : w9.cell? ⟨q, 1, none⟩ = some (.slice ao1 (Z.map smOf).length cap1) := HD1.o.box.cell 1;rw [List.length_map, hz0] at x9
        have HFIN := Qh (show Jdx B r c (opnD Z D) ⟨D.starts, false, Z.map smOf⟩ w (.returned (.tuple #[.pointer (some ⟨q, 0, none⟩), .int .i64 0])) w9 from by
         have hz := List.length_eq_zero_iff.1 hz0;obtain ⟨c2, vs2, k1, k2, k3⟩ := Je9 HB5.o HQ.o HVS.o HOP.o;rw [HCL.o];have hg : Z.getLast? = none := by rw [hz]; rfl
         rw [hg]
         exact .inr ⟨rfl, q, c2, vs2, rfl, HQ.o, k1, k2, k3⟩)
        clear hd1 hf1 hw1 HD1 HOP;go_wp2_with fail;go_ret2
        exact HFIN.o
       ·obtain ⟨m, hm⟩ : ∃ m, Z.length = m + 1 := ⟨Z.length - 1, by omega⟩
        have hmm : (⟨D.starts, false, Z.map smOf⟩ : Hl.Lg).S.length = m + 1 := by show (Z.map smOf).length = _; rw [List.length_map, hm]
        obtain ⟨g1, o1, cap1, rfl, hc1, hc2, -⟩ := hd1.lastc hmm;have hne : Z ≠ [] := fun e => by rw [e] at hm; cases hm
        obtain ⟨z, hzl⟩ : ∃ z, Z.getLast? = some z := ⟨Z.getLast hne, List.getLast?_eq_some_getLast hne⟩
        have hln : (lastS ⟨D.starts, false, Z.map smOf⟩).n = z.n := by
         unfold lastS;rw [List.getLast?_map, hzl];rfl
        have HX9 := Qh (fun W (k : Below w9.heap.size w9 W) => show W.cell? ⟨q, 1, none⟩ = some (.slice (some ⟨g1, o1, none⟩) (m + 1) cap1) ∧ W.cell? ⟨g1, o1 + m, none⟩ = some (.int .i64 (z.n : Nat)) from by
         have := (HD1.o.below k).s3 hmm;rw [hln] at this
         exact this.2)
        obtain ⟨k1, k2, k3⟩ := HML.o z hzl;have CM := Qh (fun W (k : Below w9.heap.size w9 W) => Jjf (HD1.o.below k) HO1.o (Nat.le_trans HB9.o k.size) z.n k1 k2 k3);have HCL2 := Qh (show opnD Z D = mendN z.n D1 from by rw [HCL.o, hzl]);obtain ⟨ma, hma⟩ : ∃ x, x = mendN z.n D1 := ⟨_, rfl⟩
        rw [← hma] at CM HCL2;have HNX := Qh (fun e w' (ho : OpJ B r q c1 (.slice (some ⟨g1, o1, none⟩) (m + 1) cap1) (.int .i64 ma.1) ma.2 ⟨D.starts, false, Z.map smOf⟩ w9 e w') => Je9 HB5.o HQ.o HVS.o (OpD.lift hf1 hw1 ho.opd))
        have HXJ := Qh (fun c' D' W (k : DcIn B r q c' (.slice (some ⟨g1, o1, none⟩) (m + 1) cap1) D' ⟨D.starts, false, Z.map smOf⟩ W) => show W.cell? ⟨q, 1, none⟩ = some (.slice (some ⟨g1, o1, none⟩) (m + 1) cap1) ∧ W.cell? ⟨g1, o1 + m, none⟩ = some (.int .i64 (z.n : Nat)) from by
         have := k.s3 hmm;rw [hln] at this
         exact this.2)
        have hmi : IntKind.i64.wrap (((m + 1 : Nat) : Int) - 1) = (m : Int) := by rw [IntWalk.i64_in _ (by omega)]; omega
        have hm63 : m + 1 ≤ 1000 := by omega
        have hi1 : (0 : Int) ≤ (m : Int) := by omega
        have hi2 : (m : Int) < ((m + 1 : Nat) : Int) := by omega
        have t1 : decide (0 < (((m + 1 : Nat) : Int))) = true := decide_eq_true (by omega);have t2 : decide (0 < m + 1) = true := decide_eq_true (by omega);obtain ⟨x8, x9⟩ := HX9.o _ (Below.refl _ _);have HMZ := Qh hma;have HQ2 := HQ;clear hd1 hf1 hw1 hmm hne hzl hln hz0 k1 k2 k3 hm hma;generalize m + 1 = m1 at *;generalize z.n = zn at *;go_wp2_with fail
        go_region_held3 (fun W => W.cell? ⟨q, 1, none⟩ = some (.slice (some ⟨g1, o1, none⟩) m1 cap1) ∧ W.cell? ⟨g1, o1 + m, none⟩ = some (.int .i64 (zn : Nat))) (go_keep) (first
         | (go_at_call 93; refine (CM.o _ ((Below.refl w9.heap.size w9).drew)).mono ?_; rintro e w10 ho; have HN := Qh (HNX.o _ _ (OpJ.pre ((Below.refl w9.heap.size w9).drew) ho)); obtain ⟨rfl, c5, hd5, -, -⟩ := ho; obtain ⟨z8, z9⟩ := HXJ.o _ _ _ hd5; clear hd5))
        clear x8 x9 z8 z9 CM HX9 HXJ;by_cases hm0 : ma.1 = 0
        ·have e2 : (ma.1 != 0) = false := by simp [hm0]
         have HFIN := Qh (show Jdx B r c (opnD Z D) ⟨D.starts, false, Z.map smOf⟩ w (.returned (.tuple #[.pointer (some ⟨q, 0, none⟩), .int .i64 0])) w10 from by
          obtain ⟨c2, vs2, k1, k2, k3⟩ := HN.o;rw [HCL2.o]
          exact .inr ⟨hm0, q, c2, vs2, rfl, HQ.o, k1, k2, k3⟩)
         go_wp2_with fail;go_ret2
         exact HFIN.o
        ·have e2 : (ma.1 != 0) = true := by simp [hm0]
         have HFIN := Qh (show Jdx B r c (opnD Z D) ⟨D.starts, false, Z.map smOf⟩ w (.returned (.tuple #[.pointer none, .int .i64 ma.1])) w10 from by
          obtain ⟨c2, vs2, k1, k2, k3⟩ := HN.o;rw [HCL2.o]
          exact .inl ⟨hm0, rfl, c2, k1.disk, fun k hk => k2 k (.inl hk), k3⟩)
         go_wp2_with fail;go_ret2
         exact HFIN.o
      ·have e1 : (rm.1 != 0) = true := by simp [hr0]
       have HFIN := Qh (show Jdx B r c (opnD Z D) ⟨D.starts, false, Z.map smOf⟩ w (.returned (.tuple #[.pointer none, .int .i64 rm.1])) w9 from by
        have : opnD Z D = rm := by unfold opnD; rw [hcl, Dk.next_no hr0]
        rw [this];obtain ⟨-, c1, h1, h2, h3⟩ := HI.o
        exact .inl ⟨hr0, rfl, c1, h1, fun k hk => (h2 k hk).imp id (Nat.le_trans (Nat.le_trans HB5.o.size HB.o.size)), (Jad (Jaa HB5.o HB.o)).trans h3⟩)
       go_wp2_with fail;go_ret2
       exact HFIN.o
    ·have hcl : Dk.clear nD D = (0, D) := by unfold Dk.clear; rw [if_neg hhas]
     clear x2;have HOP9 := Qh (fun W (k : Below W5.heap.size W5 W) => Jbl (v := .int .i64 0) HD0.o k);go_wp2_with fail;with_reducible refine CAt.o.mono ?_
     rintro e w4 ⟨ha, rfl⟩;rcases ha with ⟨-, rfl⟩ | ⟨k, hk, hkn, -⟩
     ·obtain ⟨w9, rfl⟩ : ∃ x, x = w3 := ⟨_, rfl⟩
      have HOP := Qh (HOP9.o w9 HB.o);have HCL := Qh (show opnD Z D = (match Z.getLast? with | none => (0, D) | some z => mendN z.n D) from by unfold opnD; rw [hcl, Dk.next_ok rfl]);have HML := Qh (show ∀ z, Z.getLast? = some z → z.n ≤ 1000 ∧ (Dk.get (nm z.n) D.L).dat.length ≤ 1000000 ∧ (M.wh (Dk.get (nm z.n) D.L).dat 0).2 ≤ (Dk.get (nm z.n) D.L).dat.length from fun z hz => by have := hM z hz; rw [hcl] at this; exact this rfl);have HB9 := Qh (show B ≤ w9.heap.size from Nat.le_trans hB (Nat.le_trans HB5.o.size HB.o.size));have HO1 := HO0;clear hhas hcl hM CRm CAt x0 x1;obtain ⟨-, c1, vs1, hd1, hf1, hw1⟩ := HOP.o;have HD1 := Qh hd1;by_cases hz0 : Z.length = 0
      ·obtain ⟨ao1, cap1, rfl, -, -⟩ := hd1.row.val
       have x9 : w9.cell? ⟨q, 1, none⟩ = some (.slice ao1 (Z.map smOf).length cap1) := HD1.o.box.cell 1;rw [List.length_map, hz0] at x9
       have HFIN := Qh (show Jdx B r c (opnD Z D) ⟨D.starts, false, Z.map smOf⟩ w (.returned (.tuple #[.pointer (some ⟨q, 0, none⟩), .int .i64 0])) w9 from by
        have hz := List.length_eq_zero_iff.1 hz0;obtain ⟨c2, vs2, k1, k2, k3⟩ := Je9 HB5.o HQ.o HVS.o HOP.o;rw [HCL.o];have hg : Z.getLast? = none := by rw [hz]; rfl
        rw [hg]
        exact .inr ⟨rfl, q, c2, vs2, rfl, HQ.o, k1, k2, k3⟩)
       clear hd1 hf1 hw1 HD1 HOP;go_wp2_with fail;go_ret2
       exact HFIN.o
      ·obtain ⟨m, hm⟩ : ∃ m, Z.length = m + 1 := ⟨Z.length - 1, by omega⟩
       have hmm : (⟨D.starts, false, Z.map smOf⟩ : Hl.Lg).S.length = m + 1 := by show (Z.map smOf).length = _; rw [List.length_map, hm]
       obtain ⟨g1, o1, cap1, rfl, hc1, hc2, -⟩ := hd1.lastc hmm;have hne : Z ≠ [] := fun e => by rw [e] at hm; cases hm
       obtain ⟨z, hzl⟩ : ∃ z, Z.getLast? = some z := ⟨Z.getLast hne, List.getLast?_eq_some_getLast hne⟩
       have hln : (lastS ⟨D.starts, false, Z.map smOf⟩).n = z.n := by
        unfold lastS;rw [List.getLast?_map, hzl];rfl
       have HX9 := Qh (fun W (k : Below w9.heap.size w9 W) => show W.cell? ⟨q, 1, none⟩ = some (.slice (some ⟨g1, o1, none⟩) (m + 1) cap1) ∧ W.cell? ⟨g1, o1 + m, none⟩ = some (.int .i64 (z.n : Nat)) from by
        have := (HD1.o.below k).s3 hmm;rw [hln] at this
        exact this.2)
       obtain ⟨k1, k2, k3⟩ := HML.o z hzl;have CM := Qh (fun W (k : Below w9.heap.size w9 W) => Jjf (HD1.o.below k) HO1.o (Nat.le_trans HB9.o k.size) z.n k1 k2 k3);have HCL2 := Qh (show opnD Z D = mendN z.n D from by rw [HCL.o, hzl]);obtain ⟨ma, hma⟩ : ∃ x, x = mendN z.n D := ⟨_, rfl⟩
       rw [← hma] at CM HCL2;have HNX := Qh (fun e w' (ho : OpJ B r q c1 (.slice (some ⟨g1, o1, none⟩) (m + 1) cap1) (.int .i64 ma.1) ma.2 ⟨D.starts, false, Z.map smOf⟩ w9 e w') => Je9 HB5.o HQ.o HVS.o (OpD.lift hf1 hw1 ho.opd))
       have HXJ := Qh (fun c' D' W (k : DcIn B r q c' (.slice (some ⟨g1, o1, none⟩) (m + 1) cap1) D' ⟨D.starts, false, Z.map smOf⟩ W) => show W.cell? ⟨q, 1, none⟩ = some (.slice (some ⟨g1, o1, none⟩) (m + 1) cap1) ∧ W.cell? ⟨g1, o1 + m, none⟩ = some (.int .i64 (z.n : Nat)) from by
        have := k.s3 hmm;rw [hln] at this
        exact this.2)
       have hmi : IntKind.i64.wrap (((m + 1 : Nat) : Int) - 1) = (m : Int) := by rw [IntWalk.i64_in _ (by omega)]; omega
       have hm63 : m + 1 ≤ 1000 := by omega
       have hi1 : (0 : Int) ≤ (m : Int) := by omega
       have hi2 : (m : Int) < ((m + 1 : Nat) : Int) := by omega
       have t1 : decide (0 < (((m + 1 : Nat) : Int))) = true := decide_eq_true (by omega);have t2 : decide (0 < m + 1) = true := decide_eq_true (by omega);obtain ⟨x8, x9⟩ := HX9.o _ (Below.refl _ _);have HMZ := Qh hma;have HQ2 := HQ;clear hd1 hf1 hw1 hmm hne hzl hln hz0 k1 k2 k3 hm hma;generalize m + 1 = m1 at *;generalize z.n = zn at *;go_wp2_with fail
       go_region_held3 (fun W => W.cell? ⟨q, 1, none⟩ = some (.slice (some ⟨g1, o1, none⟩) m1 cap1) ∧ W.cell? ⟨g1, o1 + m, none⟩ = some (.int .i64 (zn : Nat))) (go_keep) (first
        | (go_at_call 93; refine (CM.o _ ((Below.refl w9.heap.size w9).drew)).mono ?_; rintro e w10 ho; have HN := Qh (HNX.o _ _ (OpJ.pre ((Below.refl w9.heap.size w9).drew) ho)); obtain ⟨rfl, c5, hd5, -, -⟩ := ho; obtain ⟨z8, z9⟩ := HXJ.o _ _ _ hd5; clear hd5))
       clear x8 x9 z8 z9 CM HX9 HXJ;by_cases hm0 : ma.1 = 0
       ·have e2 : (ma.1 != 0) = false := by simp [hm0]
        have HFIN := Qh (show Jdx B r c (opnD Z D) ⟨D.starts, false, Z.map smOf⟩ w (.returned (.tuple #[.pointer (some ⟨q, 0, none⟩), .int .i64 0])) w10 from by
         obtain ⟨c2, vs2, k1, k2, k3⟩ := HN.o;rw [HCL2.o]
         exact .inr ⟨hm0, q, c2, vs2, rfl, HQ.o, k1, k2, k3⟩)
        go_wp2_with fail;go_ret2
        exact HFIN.o
       ·have e2 : (ma.1 != 0) = true := by simp [hm0]
        have HFIN := Qh (show Jdx B r c (opnD Z D) ⟨D.starts, false, Z.map smOf⟩ w (.returned (.tuple #[.pointer none, .int .i64 ma.1])) w10 from by
         obtain ⟨c2, vs2, k1, k2, k3⟩ := HN.o;rw [HCL2.o]
         exact .inl ⟨hm0, rfl, c2, k1.disk, fun k hk => k2 k (.inl hk), k3⟩)
        go_wp2_with fail;go_ret2
        exact HFIN.o
     ·exact absurd (Dk.has_iff.2 ⟨_, List.getElem_mem hk, hkn⟩) hhas
   ·have dl : decide ((i : Int) < (Z.length : Int)) = true := by simp; omega
    have dl' : decide (i < Z.length) = true := by simp; omega
    have hil : i < Z.length := by omega
    obtain ⟨g, o, rfl, x3⟩ := x2 i hil;have x4 := x3 i hil;obtain ⟨s, hsd⟩ : ∃ s, s = Z[i] := ⟨_, rfl⟩
    rw [← hsd] at x4;obtain ⟨q1, q2, q3, q4, q5, q6⟩ := HSG.o i hil;rw [← hsd] at q1 q2 q3 q4 q5 q6;have CD := Qh (fun W (k : Below W5.heap.size W5 W) => Jdq (HH.o W k) s.n (by omega));have CW := Qh (fun W => Jcn (Dk.get (nm s.n) D.L).dat q3 W);rw [q1] at CW;generalize (Dk.get (nm s.n) D.L).dat = dt at *;generalize (M.wh dt 0).2 = en at *;have HQ6 := Qh q6;have HQ4 := Qh q4;obtain ⟨nL, hnL⟩ : ∃ n, n = s.L.length := ⟨_, rfl⟩
    have HNL := Qh hnL;have hnm : (s.L.map M.enc).length = nL := by rw [List.length_map, hnL]
    rw [hnm] at CW;rw [← hnL] at q5;have hi4 : (i : Int) < (Z.length : Int) := by omega
    have hi5 : (0 : Int) ≤ (i : Int) := by omega
    obtain ⟨sn, hsn2⟩ : ∃ n, n = s.n := ⟨_, rfl⟩
    rw [← hsn2] at x4 CD q5;have HZN := Qh (show s.n = sn from hsn2.symm);have HSD := Qh hsd;have HIL := Qh hil;clear hsd q1 q3 q4 q6 hsn2 hle hnL hnm x2 x3;go_wp2_with fail;with_reducible refine (CD.o _ HB.o).mono ?_
    rintro e w6 ⟨rfl, hb6⟩;have HB6 := Qh (Jaa HB.o hb6);clear hb6;go_wp2_with fail;with_reducible refine (CW.o _).mono ?_
    rintro e w7 ⟨v, rfl, hrw, hb7⟩;obtain ⟨aop, cpp, rfl⟩ := Jac hrw;have HB7 := Qh (Jaa HB6.o hb7);have HP7 := Qh hrw;clear hb7 CW hrw HB6 HB x0 x1 x4;go_wp2_with fail;go_loopw [8] (fun v wr => ∃ k : Nat, k ≤ nL ∧ v = .int .i64 k ∧ Hid (Below w7.heap.size w7 wr)) (fun v _ => nL - (intOf v).toNat)
    case atStart => exact ⟨0, Nat.zero_le _, rfl, Qh (Below.refl _ _)⟩
    case round =>
     obtain ⟨w8, rfl⟩ : ∃ x, x = wr := ⟨_, rfl⟩
     obtain ⟨k, hk, rfl, HK⟩ := hrel;have HB8 := Qh (Jaa HB7.o HK.o);by_cases hke : nL ≤ k
     ·obtain rfl : k = nL := by omega
      have dk : decide ((k : Int) < (k : Int)) = false := by simp
      obtain ⟨lm, hlm⟩ : ∃ m, m = Z.length - 1 := ⟨_, rfl⟩
      have wl : IntKind.i64.wrap ((Z.length : Int) - 1) = (lm : Int) := by rw [IntWalk.i64_in _ (by omega)]; omega
      by_cases hi1 : i + 1 < Z.length
      ·obtain ⟨p1, p2, p3⟩ := HQ6.o hi1
       obtain ⟨i1, hi1e⟩ : ∃ j, j = i + 1 := ⟨_, rfl⟩
       obtain ⟨n1, hn1⟩ : ∃ n, n = sn + k := ⟨_, rfl⟩
       have wi : IntKind.i64.wrap ((i : Int) + 1) = (i1 : Int) := by rw [IntWalk.i64_in _ (by omega)]; omega
       have wn : IntKind.i64.wrap ((sn : Int) + (k : Int)) = (n1 : Int) := by rw [IntWalk.i64_in _ (by omega)]; omega
       have d8 : decide ((i : Int) < (lm : Int)) = true := by simp; omega
       have d8' : decide (i < lm) = true := by simp; omega
       have d9 : decide ((en : Int) < (dt.length : Int)) = false := by simp; omega
       have d9' : decide (en < dt.length) = false := by simp; omega
       have d10 : ((k : Int) == 0) = false := by simp; have := HNL.o; omega
       have hj1 : (0 : Int) ≤ (i1 : Int) := by omega
       have hj2 : (i1 : Int) < (Z.length : Int) := by omega
       have HX3 := Qh (fun W (z : Below W5.heap.size W5 W) => show W.cell? ⟨q, 1, none⟩ = some (.slice (some ⟨g, o, none⟩) Z.length cap) ∧ W.cell? ⟨g, o + i, none⟩ = some (.int .i64 (sn : Nat)) ∧ W.cell? ⟨g, o + i1, none⟩ = some (.int .i64 (n1 : Nat)) from by
        obtain ⟨x0, x1, x2⟩ := HSC.o _ z;obtain ⟨g2, o2, he2, x3⟩ := x2 i hil;simp only [Option.some.injEq, Addr.mk.injEq, and_true] at he2;obtain ⟨rfl, rfl⟩ := he2;have y1 := x3 i hil;have y2 := x3 (i + 1) hi1;rw [← HSD.o, HZN.o] at y1;rw [p3, HZN.o, ← HNL.o, ← hn1] at y2;rw [← hi1e] at y2
        exact ⟨x1, y1, y2⟩)
       obtain ⟨x0, x1, x2⟩ := HX3.o _ HB8.o;have HI1 := Qh hi1e;clear p1 p2 p3 hi1e hn1 hlm hi1 hke;go_wp2_with fail
       go_region_held3 (fun W => W.cell? ⟨q, 1, none⟩ = some (.slice (some ⟨g, o, none⟩) Z.length cap) ∧ W.cell? ⟨g, o + i, none⟩ = some (.int .i64 (sn : Nat)) ∧ W.cell? ⟨g, o + i1, none⟩ = some (.int .i64 (n1 : Nat))) (go_keep) (first
        | (go_at_call 89; refine (CD.o _ (Jaa HB8.o ((Below.refl w8.heap.size w8).drew))).mono ?_; rintro e w11 ⟨rfl, hb11⟩; have HB11 := Qh (Jaa HB8.o (Jaa ((Below.refl w8.heap.size w8).drew) hb11)); clear hb11; obtain ⟨z0, z1, z2⟩ := HX3.o _ HB11.o))
       go_wp2_with fail;go_roundw
       case rel => exact ⟨i1, by have := HIL.o; have := HI1.o; omega, rfl, HB11⟩
       case measure => have := HIL.o; have := HI1.o; simp [intOf]; omega
      ·have d8 : decide ((i : Int) < (lm : Int)) = false := by simp; omega
       have d8' : decide (i < lm) = false := by simp; omega
       obtain ⟨x0, x1, x2⟩ := HSC.o _ HB8.o;clear x2 hlm hke;go_wp2_with fail;go_region
       go_wp2_with fail;go_roundw
       case rel => exact ⟨i + 1, by have := HIL.o; omega, by go_num, Qh HB8.o.drew⟩
       case measure => have := HIL.o; simp [intOf]; omega
     ·have dk : decide ((k : Int) < (nL : Int)) = true := by simp; omega
      have dk' : decide (k < nL) = true := by simp; omega
      obtain ⟨gp, cp2, hvp, y4⟩ := Jgw (Jbg HP7.o HK.o) (show k < nL from by omega) (by rw [List.length_map]; exact HNL.o.symm);simp only [Value.slice.injEq, true_and] at hvp;obtain ⟨rfl, rfl⟩ := hvp;obtain ⟨xk, hxk⟩ : ∃ z, z = s.L[k]'(by have := HNL.o; omega) := ⟨_, rfl⟩
      have hmx : M.mayB xk = true ∧ xk.fits := HQ4.o xk (by rw [hxk]; exact List.getElem_mem _);rw [List.getElem_map, ← hxk] at y4;have CDc := Qh (fun W => by have := Jei (M.enc xk) (by have := M.enc_len hmx.1; omega) W; rw [M.dec_enc hmx.2 hmx.1] at this; simp only [decX, decE] at this; exact this);have hk4 : (k : Int) < (nL : Int) := by omega
      have hk5 : (0 : Int) ≤ (k : Int) := by omega
      clear hxk hmx hke;generalize M.enc xk = ek at *;go_wp2_with fail;with_reducible refine (CDc.o _).mono ?_
      rintro e w9 ⟨rfl, hb9⟩;have HK9 := Qh (Jaa HK.o hb9);clear hb9 y4 CDc HK HB8;go_wp2_with (first | (refine Jdk rfl 39 _ _ rfl w9.heap.size _ rfl rfl 39 (spC M.sp0) (Jb4 w9) ?_ rfl (Jba xk) ?_; kernel_rfl; intro w10 hr10 hbel10 hoth10 hsz10; have hb10 := hbel10 w9.heap.size w9 (Nat.le_refl _) (Qa _); have HK10 := Qh (Jaa HK9.o hb10); clear hr10 hbel10 hoth10 hsz10 hb10))
      go_roundw
      case rel => exact ⟨k + 1, by omega, by go_num, HK10⟩
      case measure => simp [intOf]; omega
end
end
end Go.Proofs.YtmammmjmipgmoaaGreatDoor
