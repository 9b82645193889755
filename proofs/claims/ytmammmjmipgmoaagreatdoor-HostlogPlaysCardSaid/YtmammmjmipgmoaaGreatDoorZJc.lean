import Derived.Test.YtmammmjmipgmoaaGreatDoorZJb
import Derived.Test.YtmammmjmipgmoaaGreatDoorZQh
set_option linter.unusedVariables false
set_option maxRecDepth 100000
set_option maxHeartbeats 16000000
namespace Go.Proofs.YtmammmjmipgmoaaGreatDoor
section
open Go Go.RowKit Go.Maps
namespace Dk
theorem del_del5 (nm : List UInt8) (L : List Fl) : del nm (del nm L) = del nm L := by unfold del; rw [List.filter_filter]; simp
theorem ren_eq5 {a b : List UInt8} {L : List Fl} (h : OkL L) (ha : has a L = true) : ren a b L = put ⟨b, (get a L).dat, (get a L).safe⟩ (del a L) := by
 unfold ren;split
 ·rename_i e
  subst e;obtain ⟨m1, m2⟩ := get_mem ha;obtain ⟨k, hk, e1⟩ := List.mem_iff_getElem.1 m1;have e2 : (⟨a, (get a L).dat, (get a L).safe⟩ : Fl) = get a L := (show ∀ G : Fl, G.name = a → (⟨a, G.dat, G.safe⟩ : Fl) = G from fun G h => by cases G; simp only at h; subst h; rfl) _ m2;rw [e2]
  have e3 : put (get a L) (del a L) = put (get a L) L := by
   unfold put;rw [m2, del_del5]
  rw [e3, put_at h.up hk (by rw [e1])];rw [← e1, List.set_getElem_self]
 ·rfl
end Dk
section
variable {B r : Nat} {c : Rc} {D : Dk.St} {w w' : World}
theorem Ji2 (h : RfIn B r c D w) (hB : B ≤ w.heap.size) (nm : List UInt8) (hn : ∀ p, D.set = some p → (p.1 : Int) ≤ 9223372036854775807) (hks : ∀ p, D.set = some p → Dk.KsOk p.2) :
  Calls Tryz.prog 92 #[.pointer (some ⟨r, 0, none⟩), .string (S nm)] w (OpI B r c (.int .i64 (Dk.remove nm D).1) (Dk.remove nm D).2 w) := by
 have CA := Qh (Jf3 h nm);have CC := Qh (fun hu => Jew h hu hn hks);have HI := Qh h;clear h hn hks;go_enter Tryz.func92, Tryz.ntmps92;go_wp2_with fail;with_reducible refine CA.o.mono ?_
 rintro e w1 ⟨⟨hu, rfl⟩ | ⟨hu, hh, rfl⟩ | ⟨k, hk, hu, he, rfl⟩, rfl⟩
 ·have HQ := Qh (show OpI B r c (.int .i64 (Dk.remove nm D).1) (Dk.remove nm D).2 w (.returned (.int .i64 51)) w from by
   rw [show Dk.remove nm D = (51, D) from by unfold Dk.remove; rw [if_pos hu]]; exact OpI.same HI.o)
  go_wp2_with fail;go_ret;exact HQ.o
 ·have HQ := Qh (show OpI B r c (.int .i64 (Dk.remove nm D).1) (Dk.remove nm D).2 w (.returned (.int .i64 4)) w from by
   rw [show Dk.remove nm D = (4, D) from by unfold Dk.remove; rw [if_neg (by rw [hu]; decide), if_pos hh]]; exact OpI.same HI.o)
  go_wp2_with fail;go_ret;exact HQ.o
 ·obtain ⟨q1, q2⟩ := Jb2 HI.o.ok hk he
  have HD := Qh (show Dk.remove nm D = if (Dk.struck D).1 = true then (51, (Dk.struck D).2) else (0, { (Dk.struck D).2 with L := Dk.del nm D.L }) from by
   have e0 : Dk.remove nm D = if (Dk.struck D).1 = true then (51, (Dk.struck D).2) else (0, { (Dk.struck D).2 with L := Dk.del nm D.L }) := by
    unfold Dk.remove; rw [if_neg (by rw [hu]; decide), if_neg (by rw [q2]; decide)]
   exact e0)
  replace CC := Qh (CC.o hu);have HHE := Qh he;clear he q1 q2;go_wp2_with fail;with_reducible refine CC.o.mono ?_
  rintro e w2 ho;have HO := Qh ho;obtain ⟨rfl, c2, hI2, hF2, hW2⟩ := ho;cases hst : (Dk.struck D).1 with
  | true =>
   have hch : Dk.chg D = 51 := by unfold Dk.chg; rw [hst]; rfl
   rw [hch]
   have HQ := Qh (show OpI B r c (.int .i64 (Dk.remove nm D).1) (Dk.remove nm D).2 w (.returned (.int .i64 51)) w2 from by
    rw [HD.o, if_pos hst]; have := HO.o; exact ⟨rfl, this.2⟩)
   clear hI2 hF2 hW2 hch;go_wp2_with fail;go_ret;exact HQ.o
  | false =>
   have hch : Dk.chg D = 0 := by unfold Dk.chg; rw [hst]; rfl
   rw [hch];have hL := Jex hst;have hk1 : k < (Dk.struck D).2.L.length := by rw [hL]; exact hk
   have CT := Qh (Jle hI2 (Nat.le_trans hB hW2.size) hk1)
   have HQ := Qh (show ∀ w3, OpI B r c2 (.tuple #[]) { (Dk.struck D).2 with L := Dk.del ((Dk.struck D).2.L[k]).name (Dk.struck D).2.L } w2 (.returned (.tuple #[])) w3 → OpI B r c (.int .i64 (Dk.remove nm D).1) (Dk.remove nm D).2 w (.returned (.int .i64 0)) w3 from fun w3 h3 => by
    rw [HD.o, if_neg (by rw [hst]; decide)];have e1 : ((Dk.struck D).2.L[k]).name = nm := by simp only [hL]; exact HHE.o
    rw [e1, hL] at h3;obtain ⟨_, c3, p1, p2, p3⟩ := h3;refine ⟨rfl, c3, p1, fun b hb => ?_, hW2.step p3 (fun x hx => hF2 x hx)⟩;rcases p2 b hb with h | h
    ·exact hF2 b h
    ·exact .inr (Nat.le_trans hW2.size h))
   clear hI2 hF2 hW2 hch hL;go_wp2_with fail;with_reducible refine CT.o.mono ?_
   rintro e w3 ho3;obtain rfl := ho3.1;have HQ3 := Qh (HQ.o _ ho3);clear ho3;go_wp2_with fail;go_ret;exact HQ3.o
def rc0 : Rc := ⟨none, 0, 0, none, 0, []⟩
theorem rNew5 (n : Nat) (w : World) (h1 : 1 ≤ n) (h2 : n ≤ 1048576) : Calls Tryz.prog 12 #[.int .i64 n] w fun e w' => e = .returned (.tuple #[.pointer (some ⟨w.heap.size, 0, none⟩), .int .i64 0]) ∧ RfIn w.heap.size w.heap.size rc0 (Dk.new n) w' ∧ Below w.heap.size w w' := by
 have d1 : decide ((n : Int) < (1 : Int)) = false := decide_eq_false (by omega);have d2 : decide ((1048576 : Int) < (n : Int)) = false := decide_eq_false (by omega);have HB := Qh ((Below.refl w.heap.size w).alloc (Nat.le_refl _) (.cells #[.int .i64 n, .int .i64 0, .bool false, .bool false, .slice none 0 0, .int .i64 0, .slice none 0 0] 83));have HK := Qh (Jae #[.int .i64 n, .int .i64 0, .bool false, .bool false, .slice none 0 0, .int .i64 0, .slice none 0 0] 83 w);go_enter Tryz.func12, Tryz.ntmps12;go_wp2_with fail;go_ret2
 exact ⟨rfl, ⟨HK.o, World.ownsRow_nil _ _ _ _, World.ownsRow_nil _ _ _ _, fun p hp => (by cases hp), ⟨List.Pairwise.nil, fun f hf => (by cases hf), fun f hf => (by cases hf)⟩, by show 0 ≤ 1024; decide, by show 0 ≤ 1048576; decide⟩, HB.o⟩
end
end
section
open Go Go.RowKit Go.Maps
section
variable {B r : Nat} {c : Rc} {D : Dk.St} {w w' : World}
def St5 (r : Nat) (c : Rc) (w : World) (c' : Rc) (w' : World) : Prop := (∀ b, Fr r c' b → Fr r c b ∨ w.heap.size ≤ b) ∧ Wr (Fr r c) w w'
theorem St5.refl (r : Nat) (c : Rc) (w : World) : St5 r c w c w := ⟨fun b hb => .inl hb, Wr.refl _ _⟩
theorem St5.trans {r : Nat} {c c1 c2 : Rc} {w w1 w2 : World} (h : St5 r c w c1 w1) (k : St5 r c1 w1 c2 w2) : St5 r c w c2 w2 :=
 ⟨fun b hb => by
  rcases k.1 b hb with q | q
  ·exact h.1 b q
  ·exact .inr (Nat.le_trans h.2.size q), h.2.step k.2 (fun x hx => h.1 x hx)⟩
theorem St5.below {r : Nat} {c c1 : Rc} {w w1 w2 : World} (h : St5 r c w c1 w1) (hb : Below w1.heap.size w1 w2) : St5 r c w c1 w2 := ⟨h.1, h.2.trans (Jad hb)⟩
theorem Jon (h : RfIn B r c D w) (hB : B ≤ w.heap.size) (a b : List UInt8) (hlb : b.length ≤ 140737488351232) (hn : ∀ p, D.set = some p → (p.1 : Int) ≤ 9223372036854775807) (hks : ∀ p, D.set = some p → Dk.KsOk p.2) :
  Calls Tryz.prog 142 #[.pointer (some ⟨r, 0, none⟩), .string (S a), .string (S b)] w (OpI B r c (.int .i64 (Dk.rename a b D).1) (Dk.rename a b D).2 w) := by
 have CA := Qh (Jf3 h a);have CC := Qh (fun hu => Jew h hu hn hks);have CB := Qh (rBad5 b hlb w);have HI := Qh h;have hfew := h.few;clear h hn hks;go_enter Tryz.func142, Tryz.ntmps142;go_wp2_with fail;with_reducible refine CA.o.mono ?_
 rintro e w1 ⟨⟨hu, rfl⟩ | ⟨hu, hh, rfl⟩ | ⟨k, hk, hu, he, rfl⟩, rfl⟩
 ·have HQ := Qh (show OpI B r c (.int .i64 (Dk.rename a b D).1) (Dk.rename a b D).2 w (.returned (.int .i64 51)) w from by
   rw [show Dk.rename a b D = (51, D) from by unfold Dk.rename; rw [if_pos hu]]; exact OpI.same HI.o)
  go_wp2_with fail;go_ret;exact HQ.o
 ·have HQ := Qh (show OpI B r c (.int .i64 (Dk.rename a b D).1) (Dk.rename a b D).2 w (.returned (.int .i64 4)) w from by
   rw [show Dk.rename a b D = (4, D) from by unfold Dk.rename; rw [if_neg (by rw [hu]; decide), if_pos hh]]; exact OpI.same HI.o)
  go_wp2_with fail;go_ret;exact HQ.o
 ·obtain ⟨q1, q2⟩ := Jb2 HI.o.ok hk he
  have HHE := Qh he;have HG := Qh (show Dk.get a D.L = D.L[k] ∧ Dk.has a D.L = true from ⟨q1, q2⟩);clear he q1 q2;cases hnb : Dk.named b with
  | false =>
   have HQ := Qh (show OpI B r c (.int .i64 (Dk.rename a b D).1) (Dk.rename a b D).2 w (.returned (.int .i64 2)) w from by
    rw [show Dk.rename a b D = (2, D) from by unfold Dk.rename; rw [if_neg (by rw [hu]; decide), if_neg (by rw [HG.o.2]; decide), if_pos hnb]]; exact OpI.same HI.o)
   rw [hnb] at CB;replace CB := Qh (show Calls Tryz.prog 147 #[.string (S b)] w fun e w' => e = .returned (.bool true) ∧ w = w' from CB.o);go_wp2_with fail;with_reducible refine CB.o.mono ?_
   rintro e w2 ⟨rfl, rfl⟩;go_wp2_with fail;go_ret;exact HQ.o
  | true =>
   rw [hnb] at CB;replace CB := Qh (show Calls Tryz.prog 147 #[.string (S b)] w fun e w' => e = .returned (.bool false) ∧ w = w' from CB.o)
   have HD := Qh (show Dk.rename a b D = if (Dk.struck D).1 = true then (51, (Dk.struck D).2) else (0, { (Dk.struck D).2 with L := Dk.ren a b D.L }) from by
    unfold Dk.rename; rw [if_neg (by rw [hu]; decide), if_neg (by rw [HG.o.2]; decide), if_neg (by rw [hnb]; decide)] <;> rfl)
   replace CC := Qh (CC.o hu);go_wp2_with fail;with_reducible refine CB.o.mono ?_
   rintro e w2 ⟨rfl, rfl⟩;go_wp2_with fail;with_reducible refine CC.o.mono ?_
   rintro e w2 ho;have HO := Qh ho;obtain ⟨rfl, c2, hI2, hF2, hW2⟩ := ho;cases hst : (Dk.struck D).1 with
   | true =>
    have hch : Dk.chg D = 51 := by unfold Dk.chg; rw [hst]; rfl
    rw [hch]
    have HQ := Qh (show OpI B r c (.int .i64 (Dk.rename a b D).1) (Dk.rename a b D).2 w (.returned (.int .i64 51)) w2 from by
     rw [HD.o, if_pos hst]; have := HO.o; exact ⟨rfl, this.2⟩)
    clear hI2 hF2 hW2 hch;go_wp2_with fail;go_ret;exact HQ.o
   | false =>
    have hch : Dk.chg D = 0 := by unfold Dk.chg; rw [hst]; rfl
    rw [hch];have hL := Jex hst;obtain ⟨D1, hD1⟩ : ∃ x, x = (Dk.struck D).2 := ⟨_, rfl⟩
    rw [← hD1] at hI2 hL HD;have HF2 := Qh hF2;have HW2 := Qh hW2;have HI2 := Qh hI2;have HL := Qh hL;have hk1 : k < D1.L.length := by rw [hL]; exact hk
    have hget : D1.L[k] = D.L[k] := by simp only [hL]
    obtain ⟨g, hg, y0, y1, y2⟩ := Ja4 hI2.row rfl hk1;rw [hget] at y0 y1 y2;have HGE := Qh hget;have x4 : w2.cell? ⟨r, 4, none⟩ = some (.slice c2.a D1.L.length c2.c) := hI2.box.cell 4;rw [hg] at x4;have hfew1 : D1.L.length ≤ 1024 := hI2.few;have hi1 : (0 : Int) ≤ (k : Int) := by omega
    have hi2 : (k : Int) < (D1.L.length : Int) := by omega
    have HFL := Qh (show (D.L[k]).safe ≤ (D.L[k]).dat.length ∧ (D.L[k]).dat.length ≤ Dk.size D.L from ⟨HI.o.ok.safe _ (List.getElem_mem hk), Dk.mem_size HI.o.ok (List.getElem_mem hk)⟩);have HREN := Qh (show Dk.ren a b D.L = Dk.put ⟨b, (D.L[k]).dat, (D.L[k]).safe⟩ (Dk.del a D.L) from by rw [Dk.ren_eq5 HI.o.ok HG.o.2, HG.o.1]);have HNK := Qh (show (D1.L[k]).name = a from by rw [HGE.o]; exact HHE.o);clear hI2 hF2 hW2 hL hget hg hD1 hch;obtain ⟨fl, hfl⟩ : ∃ x, x = D.L[k] := ⟨_, rfl⟩
    rw [← hfl] at y0 y1 y2 HFL HREN;have HFE0 := Qh hfl;clear hfl;obtain ⟨fnm, dt, sf⟩ := fl;simp only at y0 y1 y2 HFL HREN;have HFE := Qh (show (⟨fnm, dt, sf⟩ : Dk.Fl) = D.L[k] from HFE0.o);have HS2 := Qh (show St5 r c w c2 w2 from ⟨HF2.o, HW2.o⟩);obtain ⟨fb, hfb⟩ : ∃ x, x = w2.heap.size := ⟨_, rfl⟩
    obtain ⟨w3, hw3⟩ : ∃ x, x = w2.alloc (.cells #[.string (S b), .string (S dt), .int .i64 sf] 130) := ⟨_, rfl⟩
    have HB3 := Qh (show Below w2.heap.size w2 w3 from by rw [hw3]; exact (Below.refl w2.heap.size w2).alloc (Nat.le_refl _) _);have HX3 := Qh (show Bk #[.string (S b), .string (S dt), .int .i64 sf] 130 w3 fb from by rw [hw3, hfb]; exact Jae _ _ _);have HI3 := Qh (HI2.o.below HB3.o);have HS3 := Qh (HS2.o.below HB3.o);have HNF := Qh (show ¬ Fr r c2 fb from fun q => by have := (HI2.o.fr fb q).2; omega);have HFW := Qh (show fb < w3.heap.size from HX3.o.lt);have CT := Jle HI3.o (Nat.le_trans hB HS3.o.2.size) hk1;rw [HNK.o, HL.o] at CT;have CT := Qh CT;obtain ⟨K, hK⟩ : ∃ x, x = Dk.del a D.L := ⟨_, rfl⟩
    have HKl := Qh (show K.length + 1 = D.L.length ∧ Dk.size K + dt.length = Dk.size D.L from by
     have h1 := Dk.len_del (nm := a) HI.o.ok.ne;have h2 := Dk.size_del (nm := a) HI.o.ok.ne;rw [HG.o.2] at h1;rw [HG.o.1, ← HFE.o] at h2;rw [hK]
     exact ⟨by simpa using h1, h2⟩)
    have HSM := Qh HI.o.small;rw [← hK] at CT HREN
    have hres : ∀ c6 w6 L6, L6 = Dk.put ⟨b, dt, sf⟩ K → RfIn B r c6 { D1 with L := L6 } w6 → St5 r c w c6 w6 → OpI B r c (.int .i64 (Dk.rename a b D).1) (Dk.rename a b D).2 w (.returned (.int .i64 0)) w6 := fun c6 w6 L6 e hI6 hs6 => by
     rw [HD.o, if_neg (by rw [hst]; decide), HREN.o, ← e];exact ⟨rfl, c6, hI6, hs6.1, hs6.2⟩
    have HRES := Qh hres;go_upto_region 11 with fail
    rw [← hw3, ← hfb];clear hw3 hfb x4 y0 y1 y2 hres hK;go_wp2_with fail;with_reducible refine CT.o.mono ?_
    rintro e w4 ⟨rfl, c4, hI4, hf4, hw4⟩;have HI4 := Qh (show RfIn B r c4 { D1 with L := K } w4 from hI4);have HS4 := Qh (HS3.o.trans ⟨hf4, hw4⟩);have HX4 := Qh (HX3.o.wr hw4 HNF.o)
    have HNF4 := Qh (show ¬ Fr r c4 fb from fun q => by
     rcases hf4 fb q with h | h
     ·exact HNF.o h
     ·have := HFW.o; omega)
    have CT4 := Qh (rAt5 hI4 b);clear hI4 hf4 hw4 CT HX3 HNF HI3 HS3 HS2;go_wp2_with fail;with_reducible refine CT4.o.mono ?_
    rintro e w5 ⟨⟨hh, rfl⟩ | ⟨j, hj, he, rfl⟩, rfl⟩
    ·obtain ⟨z0, z1, z2⟩ : w4.cell? ⟨fb, 0, none⟩ = some (.string (S b)) ∧ w4.cell? ⟨fb, 1, none⟩ = some (.string (S dt)) ∧ w4.cell? ⟨fb, 2, none⟩ = some (.int .i64 sf) := ⟨HX4.o.cell 0, HX4.o.cell 1, HX4.o.cell 2⟩
     have CLY := Qh (Jlf HI4.o (Nat.le_trans hB HS4.o.2.size) ⟨b, dt, sf⟩ (by exact hh) hnb HFL.o.1 (by have := HKl.o.1; show K.length < 1024; omega) (by have := HKl.o.2; have := HSM.o; show Dk.size K + dt.length ≤ _; omega));have HQ := Qh (fun c6 w6 hI6 hs6 => HRES.o c6 w6 (Dk.ins ⟨b, dt, sf⟩ K) (by unfold Dk.put; rw [Dk.del_none (by exact hh)]) hI6 hs6);clear hh;go_wp2_with fail;with_reducible refine CLY.o.mono ?_
     rintro e w6 ⟨rfl, c6, hI6, hf6, hw6⟩;have HQ6 := Qh (HQ.o c6 w6 hI6 (HS4.o.trans ⟨hf6, hw6⟩));clear hI6 hf6 hw6 CLY z0 z1 z2;go_wp2_with fail;go_ret;exact HQ6.o
    ·have d5 : decide ((0 : Int) ≤ (j : Int)) = true := decide_eq_true (by omega)
     have CT5 := Jle HI4.o (Nat.le_trans hB HS4.o.2.size) (k := j) hj;rw [show ((({ D1 with L := K } : Dk.St)).L[j]).name = b from he] at CT5;have HK5 := Qh (show Dk.has b (Dk.del b K) = false from by rw [Dk.has_del]; simp)
     have HKd := Qh (show (Dk.del b K).length ≤ K.length ∧ Dk.size (Dk.del b K) ≤ Dk.size K from by
      have h1 := Dk.len_del (nm := b) HI4.o.ok.ne;have h2 := Dk.size_del (nm := b) HI4.o.ok.ne;simp only at h1 h2
      exact ⟨by omega, by omega⟩)
     have CT5 := Qh CT5;have HJ := Qh (show AtR5 b K w4 (.returned (.int .i64 j)) w4 from ⟨.inr ⟨j, hj, he, rfl⟩, rfl⟩);clear he;go_wp2_with fail;with_reducible refine CT4.o.mono ?_
     rintro e w5 ⟨⟨hh2, rfl⟩ | ⟨j2, hj2, he2, rfl⟩, rfl⟩
     ·exfalso
      obtain ⟨h9 | ⟨j3, hj3, he3, _⟩, _⟩ := HJ.o
      ·cases h9.2
      ·have h8 := (Jb2 HI4.o.ok hj3 he3).2
       rw [hh2] at h8;cases h8
     have HJ2 := Qh (show j2 = j from by
      obtain ⟨h9 | ⟨j3, hj3, he3, e3⟩, _⟩ := HJ.o
      ·cases h9.2
      ·injection e3 with e3
       injection e3 with _ e3
       have : j = j3 := by omega
       subst this
       exact (List.pairwise_iff_getElem.1 HI4.o.ok.ne |> fun hp => by
        rcases Nat.lt_trichotomy j2 j with q | q | q
        ·exact absurd (he2.trans he3.symm) (hp j2 j hj2 hj3 q)
        ·exact q
        ·exact absurd (he3.trans he2.symm) (hp j j2 hj3 hj2 q)))
     obtain rfl := HJ2.o;clear he2 HJ HJ2;go_wp2_with fail;with_reducible refine CT5.o.mono ?_
     rintro e w5 ⟨rfl, c5, hI5, hf5, hw5⟩;have HI5 := Qh (show RfIn B r c5 { D1 with L := Dk.del b K } w5 from hI5);have HS5 := Qh (HS4.o.trans ⟨hf5, hw5⟩);have HX5 := Qh (HX4.o.wr hw5 HNF4.o);clear hI5 hf5 hw5 CT5 HX4 HNF4 HI4 HS4;obtain ⟨z0, z1, z2⟩ : w5.cell? ⟨fb, 0, none⟩ = some (.string (S b)) ∧ w5.cell? ⟨fb, 1, none⟩ = some (.string (S dt)) ∧ w5.cell? ⟨fb, 2, none⟩ = some (.int .i64 sf) := ⟨HX5.o.cell 0, HX5.o.cell 1, HX5.o.cell 2⟩
     have CLY := Qh (Jlf HI5.o (Nat.le_trans hB HS5.o.2.size) ⟨b, dt, sf⟩ HK5.o hnb HFL.o.1 (by have := HKl.o.1; have := HKd.o.1; show (Dk.del b K).length < 1024; omega) (by have := HKl.o.2; have := HSM.o; have := HKd.o.2; show Dk.size (Dk.del b K) + dt.length ≤ _; omega));have HQ := Qh (fun c6 w6 hI6 hs6 => HRES.o c6 w6 (Dk.ins ⟨b, dt, sf⟩ (Dk.del b K)) rfl hI6 hs6);go_wp2_with fail;with_reducible refine CLY.o.mono ?_
     rintro e w6 ⟨rfl, c6, hI6, hf6, hw6⟩;have HQ6 := Qh (HQ.o c6 w6 hI6 (HS5.o.trans ⟨hf6, hw6⟩));clear hI6 hf6 hw6 CLY z0 z1 z2;go_wp2_with fail;go_ret;exact HQ6.o
end
end
section
open Go Go.RowKit Go.Maps
attribute [local go_sem] S_append
namespace Dk
theorem del_ins5 (f : Fl) : ∀ L : List Fl, del f.name (ins f L) = del f.name L
 | [] => by unfold ins del; rw [List.filter_cons_of_neg (by simp)]
 | g :: r => by
  unfold ins;split
  ·unfold del; rw [List.filter_cons_of_neg (by simp)]
  ·have := del_ins5 f r
   unfold del at *;rw [List.filter_cons, List.filter_cons, this]
structure AppAt (nm s : List UInt8) (L L1 : List Fl) (k : Nat) (nmk dt : List UInt8) (sf : Nat) : Prop where
 lt : k < L1.length
 at_ : L1.getD k fl0 = ⟨nm, dt, sf⟩
 put : put ⟨nm, (get nm L).dat ++ s, (get nm L).safe⟩ L = L1.set k ⟨nm, dt ++ s, sf⟩
 ok : OkL (L1.set k ⟨nm, dt ++ s, sf⟩)
 size : size (L1.set k ⟨nm, dt ++ s, sf⟩) = size L + s.length
theorem appAt_has {nm s : List UInt8} {L : List Fl} (h : OkL L) (hnm : named nm = true) {k : Nat} (hk : k < L.length) (he : L[k].name = nm) : AppAt nm s L L k nm L[k].dat L[k].safe := by
 obtain ⟨q1, q2⟩ := Jb2 h hk he;have e1 : put ⟨nm, (get nm L).dat ++ s, (get nm L).safe⟩ L = L.set k ⟨nm, L[k].dat ++ s, L[k].safe⟩ := by rw [q1]; exact put_at h.up hk (by exact he.symm)
 refine ⟨hk, ?_, e1, ?_, ?_⟩
 ·rw [show L.getD k fl0 = L[k] from by simp [List.getD, hk]]
  obtain ⟨x, y, z⟩ : True ∧ True ∧ True := ⟨trivial, trivial, trivial⟩
  exact (show ∀ G : Fl, G.name = nm → G = ⟨nm, G.dat, G.safe⟩ from fun G h => by cases G; simp only at h; subst h; rfl) _ he
 ·rw [← e1, q1]
  refine h.put (by exact hnm) ?_;have := h.safe _ (List.getElem_mem hk);simp only [List.length_append]; omega
 ·rw [← e1]
  have h1 := size_put h ⟨nm, (get nm L).dat ++ s, (get nm L).safe⟩;simp only [List.length_append] at h1;omega
theorem appAt_new {nm s : List UInt8} {L : List Fl} (h : OkL L) (hnm : named nm = true) (hno : has nm L = false) {k : Nat} (hk : k < (ins ⟨nm, [], 0⟩ L).length) (he : (ins ⟨nm, [], 0⟩ L)[k].name = nm) : AppAt nm s L (ins ⟨nm, [], 0⟩ L) k nm (ins ⟨nm, [], 0⟩ L)[k].dat (ins ⟨nm, [], 0⟩ L)[k].safe ∧ OkL (ins ⟨nm, [], 0⟩ L) := by
 have hok : OkL (ins ⟨nm, [], 0⟩ L) := by
  have := h.put (f := ⟨nm, [], 0⟩) (by exact hnm) (Nat.le_refl _);unfold put at this;rw [del_none (by exact hno)] at this;exact this
 have hA := appAt_has (s := s) hok hnm hk he;obtain ⟨q1, q2⟩ := Jb2 hok hk he;have hmem : (⟨nm, [], 0⟩ : Fl) ∈ ins ⟨nm, [], 0⟩ L := mem_ins.2 (.inl rfl);have hg : get nm (ins ⟨nm, [], 0⟩ L) = ⟨nm, [], 0⟩ := get_of (f := ⟨nm, [], 0⟩) hok.ne hmem;have hg0 : get nm L = fl0 := get_none hno
 have e2 : put ⟨nm, (get nm L).dat ++ s, (get nm L).safe⟩ L = put ⟨nm, (get nm (ins ⟨nm, [], 0⟩ L)).dat ++ s, (get nm (ins ⟨nm, [], 0⟩ L)).safe⟩ (ins ⟨nm, [], 0⟩ L) := by
  rw [hg, hg0];unfold put;simp only;have := del_ins5 ⟨nm, [], 0⟩ L;simp only at this;rw [this];rfl
 refine ⟨⟨hA.lt, hA.at_, by rw [e2]; exact hA.put, hA.ok, ?_⟩, hok⟩;rw [hA.size, size_ins];simp
end Dk
section
variable {B r : Nat} {c : Rc} {D : Dk.St} {w w' : World}
theorem OpI.below {v : Value} {D' : Dk.St} {e : Ending} {w'' : World} (h : OpI B r c v D' w e w') (hb : Below w'.heap.size w' w'') : OpI B r c v D' w e w'' := by
 obtain ⟨h1, c1, h2, h3, h4⟩ := h;exact ⟨h1, c1, h2.below hb, h3, h4.trans (Jad hb)⟩
theorem Jfp (h : RfIn B r c D w) (hB : B ≤ w.heap.size) (nm s : List UInt8) (hln : nm.length ≤ 140737488351232) (hls : s.length ≤ 140737488351232) (hroom : D.room ≤ 1048576) (hn : ∀ p, D.set = some p → (p.1 : Int) ≤ 9223372036854775807) (hks : ∀ p, D.set = some p → Dk.KsOk p.2) :
  Calls Tryz.prog 102 #[.pointer (some ⟨r, 0, none⟩), .string (S nm), .string (S s)] w (OpI B r c (.int .i64 (Dk.append nm s D).1) (Dk.append nm s D).2 w) := by
 have CA := Qh (rAt5 h nm);have CB := Qh (rBad5 nm hln w);have HI := Qh h;have HN := Qh hn;have HK := Qh hks;have CZ := Qh (show ∀ q, Calls Tryz.prog 105 #[.pointer (some ⟨r, 0, none⟩)] (w.drewN q) fun e w' => e = .returned (.int .i64 (Dk.size D.L)) ∧ ∃ j, w' = w.drewN j from fun q => (Jmx (h.below (below_drewN (Below.refl _ _) q))).mono fun e w' h => ⟨h.1, q, h.2.symm⟩);obtain ⟨x0, x1, x2, x3, x4, x5, x6⟩ := h.s;have hfew := h.few;have hsm := h.small;clear h hn hks x1 x3 x5 x6;cases hu : D.up with
 | false =>
  have HQ := Qh (show OpI B r c (.int .i64 (Dk.append nm s D).1) (Dk.append nm s D).2 w (.returned (.int .i64 51)) w from by
   rw [show Dk.append nm s D = (51, D) from by unfold Dk.append; rw [if_pos hu]]; exact OpI.same HI.o)
  rw [hu] at x2;go_enter Tryz.func102, Tryz.ntmps102;go_wp2_with fail;go_ret;exact HQ.o
 | true =>
 rw [hu] at x2;cases hnb : Dk.named nm with
 | false =>
  have HQ := Qh (show OpI B r c (.int .i64 (Dk.append nm s D).1) (Dk.append nm s D).2 w (.returned (.int .i64 2)) w from by
   rw [show Dk.append nm s D = (2, D) from by unfold Dk.append; rw [if_neg (by rw [hu]; decide), if_pos hnb]]; exact OpI.same HI.o)
  rw [hnb] at CB;replace CB := Qh (show Calls Tryz.prog 147 #[.string (S nm)] w fun e w' => e = .returned (.bool true) ∧ w = w' from CB.o);go_enter Tryz.func102, Tryz.ntmps102;go_wp2_with fail;with_reducible refine CB.o.mono ?_
  rintro e w2 ⟨rfl, rfl⟩;go_wp2_with fail;go_ret;exact HQ.o
 | true =>
 rw [hnb] at CB;replace CB := Qh (show Calls Tryz.prog 147 #[.string (S nm)] w fun e w' => e = .returned (.bool false) ∧ w = w' from CB.o)
 have HFULL := Qh (show (Dk.has nm D.L = false ∧ D.L.length = 1024) ∨ D.room < Dk.size D.L + s.length → OpI B r c (.int .i64 (Dk.append nm s D).1) (Dk.append nm s D).2 w (.returned (.int .i64 50)) w from fun hf => by
  rw [show Dk.append nm s D = (50, D) from by unfold Dk.append; rw [if_neg (by rw [hu]; decide), if_neg (by rw [hnb]; decide), if_pos hf]]; exact OpI.same HI.o)
 have HD := Qh (show ¬ ((Dk.has nm D.L = false ∧ D.L.length = 1024) ∨ D.room < Dk.size D.L + s.length) → Dk.append nm s D = (Dk.chg { D with L := Dk.put ⟨nm, (Dk.get nm D.L).dat ++ s, (Dk.get nm D.L).safe⟩ D.L }, (Dk.struck { D with L := Dk.put ⟨nm, (Dk.get nm D.L).dat ++ s, (Dk.get nm D.L).safe⟩ D.L }).2) from fun hf => by
  unfold Dk.append; rw [if_neg (by rw [hu]; decide), if_neg (by rw [hnb]; decide), if_neg hf]; rfl)
 obtain ⟨tt, htt⟩ : ∃ x, x = Dk.size D.L + s.length := ⟨_, rfl⟩
 have e1 : IntKind.i64.wrap ((Dk.size D.L : Int) + (s.length : Int)) = (tt : Int) := by rw [IntWalk.i64_in _ (by omega)]; omega
 have HTT := Qh htt;clear htt;go_enter Tryz.func102, Tryz.ntmps102;go_wp2_with fail;with_reducible refine CB.o.mono ?_
 rintro e w2 ⟨rfl, rfl⟩;go_wp2_with fail;with_reducible refine CA.o.mono ?_
 rintro e w2 ⟨⟨hh, rfl⟩ | ⟨k, hk, he, rfl⟩, rfl⟩
 ·by_cases h24 : D.L.length = 1024
  ·have HQ := Qh (HFULL.o (.inl ⟨hh, h24⟩))
   have d4 : ((D.L.length : Int) == 1024) = true := by simp; omega
   have d4' : (D.L.length == 1024) = true := by simp [h24]
   go_wp2_with fail;go_quiet (fail)
   replace HQ := Qh (HQ.o.below (below_drewN (Below.refl _ _) nq));go_wp2_with fail;go_ret;exact HQ.o
  have d4 : ((D.L.length : Int) == 1024) = false := by simp; omega
  have d4' : (D.L.length == 1024) = false := by simp [h24]
  by_cases hrm : D.room < tt
  ·have d5 : decide (D.room < tt) = true := decide_eq_true hrm
   have HQ := Qh (HFULL.o (.inr (by have := HTT.o; omega)));go_wp2_with fail;go_quiet ((go_at_call 105; exact CZ.o _))
   replace HQ := Qh (HQ.o.below (below_drewN (Below.refl _ _) nq));go_wp2_with fail;go_ret;exact HQ.o
  ·have d5 : decide (D.room < tt) = false := decide_eq_false hrm
   replace HD := Qh (HD.o (by rintro (⟨-, h1⟩ | h1); exact h24 h1; (have := HTT.o; omega)));go_wp2_with fail;go_quiet ((go_at_call 105; exact CZ.o _))
   obtain ⟨w1, hw1⟩ : ∃ x, x = w.drewN nq := ⟨_, rfl⟩
   have hb1 : Below w.heap.size w w1 := by rw [hw1]; exact below_drewN (Below.refl _ _) nq
   have HI1 := Qh (HI.o.below hb1);have HS1 := Qh ((St5.refl r c w).below hb1);rw [← hw1];clear hw1 hb1 x0 x2 x4;have CLY := Qh (show Calls Tryz.prog 148 #[.pointer (some ⟨r, 0, none⟩), .agg #[.string (S nm), .string ⟨#[]⟩, .int .i64 0]] w1 (OpI B r c (.tuple #[]) { D with L := Dk.ins ⟨nm, [], 0⟩ D.L } w1) from Jlf HI1.o (Nat.le_trans hB HS1.o.2.size) ⟨nm, [], 0⟩ (by exact hh) hnb (Nat.le_refl _) (by have := hfew; omega) (by exact hsm));have HH := Qh hh;clear hh;go_wp2_with fail;with_reducible refine CLY.o.mono ?_
   rintro e w2 ⟨rfl, c2, hI2, hf2, hw2⟩;have HI2 := Qh hI2;have HS2 := Qh (HS1.o.trans ⟨hf2, hw2⟩);have CA2 := Qh (rAt5 hI2 nm);clear hI2 hf2 hw2 CLY;go_wp2_with fail;with_reducible refine CA2.o.mono ?_
   rintro e w3 ⟨⟨hh2, rfl⟩ | ⟨k, hk, he, rfl⟩, rfl⟩
   ·exfalso
    have h8 : Dk.has nm (Dk.ins ⟨nm, [], 0⟩ D.L) = true := Dk.has_iff.2 ⟨⟨nm, [], 0⟩, Dk.mem_ins.2 (.inl rfl), rfl⟩;rw [show Dk.has nm (Dk.ins ⟨nm, [], 0⟩ D.L) = false from hh2] at h8;cases h8
   have HA0 := Qh (Dk.appAt_new (s := s) HI.o.ok hnb HH.o hk he).1;obtain ⟨dt, hdt⟩ : ∃ x, x = ((Dk.ins ⟨nm, [], 0⟩ D.L)[k]'hk).dat := ⟨_, rfl⟩
   obtain ⟨sf, hsf⟩ : ∃ x, x = ((Dk.ins ⟨nm, [], 0⟩ D.L)[k]'hk).safe := ⟨_, rfl⟩
   have HA := Qh (show Dk.AppAt nm s D.L (Dk.ins ⟨nm, [], 0⟩ D.L) k nm dt sf from by rw [hdt, hsf]; exact HA0.o);clear he hdt hsf HA0;have x4 := HI2.o.box.cell 4;have hlt2 : k < ((Dk.ins ⟨nm, [], 0⟩ D.L)).length := HA.o.lt;have hat : ((Dk.ins ⟨nm, [], 0⟩ D.L))[k] = ⟨nm, dt, sf⟩ := by have := HA.o.at_; rw [show ((Dk.ins ⟨nm, [], 0⟩ D.L)).getD k Dk.fl0 = ((Dk.ins ⟨nm, [], 0⟩ D.L))[k] from by simp [List.getD, hlt2]] at this; exact this
   obtain ⟨g, hg, -, y1, -⟩ := Ja4 HI2.o.row rfl (by exact hlt2);have y1' : w2.cell? ⟨g, k * 3 + 1, none⟩ = some (.string (S dt)) := by rw [show S dt = S (((Dk.ins ⟨nm, [], 0⟩ D.L))[k]).dat from by rw [hat]]; exact y1
   obtain ⟨n1, hn1⟩ : ∃ x, x = ((Dk.ins ⟨nm, [], 0⟩ D.L)).length := ⟨_, rfl⟩
   have x4n : w2.cell? ⟨r, 4, none⟩ = some (.slice (some ⟨g, 0, none⟩) n1 c2.c) := by have : w2.cell? ⟨r, 4, none⟩ = some (.slice c2.a ((Dk.ins ⟨nm, [], 0⟩ D.L)).length c2.c) := HI2.o.box.cell 4; rw [hg, ← hn1] at this; exact this
   have HSH := Qh (fun wx (hb : Below w2.heap.size w2 wx) => (show wx.cell? ⟨r, 4, none⟩ = some (.slice (some ⟨g, 0, none⟩) n1 c2.c) ∧ wx.cell? ⟨g, k * 3 + 1, none⟩ = some (.string (S dt)) from ⟨(hb.cell (p := ⟨r, 4, none⟩) (Jaz x4n)).trans x4n, (hb.cell (p := ⟨g, k * 3 + 1, none⟩) (Jaz y1')).trans y1'⟩));have hsz1 : Dk.size (((Dk.ins ⟨nm, [], 0⟩ D.L)).set k ⟨nm, dt ++ s, sf⟩) ≤ 1048576 := by rw [HA.o.size]; have := HTT.o; omega
   have HST := Qh (fun wx (hb : Below w2.heap.size w2 wx) => (HI2.o.below hb).setFile (v := .int .i64 0) (by exact hlt2) hg 1 (by decide) (.string (S (dt ++ s))) ⟨nm, dt ++ s, sf⟩ (by show (fl3 ((Dk.ins ⟨nm, [], 0⟩ D.L))[k]).set 1 _ = _; rw [hat]; rfl) (by exact HA.o.ok) (by exact hsz1));have hi1 : (0 : Int) ≤ (k : Int) := by omega
   have hi2 : (k : Int) < (n1 : Int) := by omega
   have hdl : (dt ++ s).length ≤ 1048576 := Nat.le_trans (by have := Dk.mem_size HA.o.ok (List.mem_iff_getElem.2 ⟨k, by rw [List.length_set]; exact hlt2, by rw [List.getElem_set_self]⟩); exact this) hsz1;have hdl2 : dt.length + s.length ≤ 1048576 := by rw [List.length_append] at hdl; exact hdl
   clear x4 y1 hat hn1 hg hlt2 hsz1 y1';go_upto_region 11 with fail
   have HB := Qh (Below.refl w2.heap.size w2).drew;refine Jaj (S := fun V => V.cell? ⟨r, 4, none⟩ = some (.slice (some ⟨g, 0, none⟩) n1 c2.c) ∧ V.cell? ⟨g, k * 3 + 1, none⟩ = some (.string (S dt))) 17 (by kernel_rfl) ?_ (fun hQ => ?_)
   ·exact HSH.o _ HB.o
   obtain ⟨wd, hwd⟩ : ∃ x, x = World.drew w2 := ⟨_, rfl⟩
   rw [← hwd] at HB hQ ⊢;clear hwd x4n;refine tkY 0 ?_;refine tkY 1 ?_;refine tkY 2 ?_;refine tkZ 3 [15, 16, 17] ?_;refine tkY 4 ?_;refine tkY 5 ?_;refine tkY 6 ?_;refine tkY 7 ?_;refine tkZ 8 [10, 11, 12, 14, 15, 16, 17] ?_;refine tkY 9 ?_;refine tkY 10 ?_;refine tkY 11 ?_;refine tkZ 12 [14, 15, 16, 17] ?_;refine tkY 13 ?_;refine Jdj (i := 14) (oi := { dst := some 62, op := Op.binOp BinOp.add 9 (Operand.tmp 60) (Operand.tmp 61) 9, type := 9, pos := "ref.go:90", after := #[{ on := 12, ground := Ground.data }, { on := 13, ground := Ground.data }], guard := none }) (v := ?_) rfl (by kernel_rfl) (by kernel_rfl) (by kernel_rfl) (by rfl) (fun _ _ _ h => h) (Or.inl ⟨by rfl, ?_⟩) (by assumption) ?_;rotate_left
   ·(intro w; go_simp; rw [if_neg (by omega)])
   try simp only [Act.put, List.setIfInBounds_toArray, List.set_cons_zero, List.set_cons_succ]
   refine tkY 15 ?_;refine tkY 16 ?_;refine tqL 17 fun K hK => ?_
   have f0 := (HST.o _ HB.o).2;have m0 := (HSH.o _ HB.o).2;go_simp;refine hK.out _ _ ?_;clear hK K;refine wpAny_done (by kernel_rfl) ?_ _;obtain ⟨_, c3, hI3, hf3, hw3⟩ := (HST.o _ HB.o).1;obtain ⟨D2, hD2⟩ : ∃ x, x = ({ D with L := Dk.put ⟨nm, (Dk.get nm D.L).dat ++ s, (Dk.get nm D.L).safe⟩ D.L } : Dk.St) := ⟨_, rfl⟩
   have hI3' : RfIn B r c3 D2 (wd.setCell ⟨g, k * 3 + 1, none⟩ (.string (S (dt ++ s)))) := by rw [hD2, HA.o.put]; exact hI3
   have HS3 := Qh ((HS2.o.below HB.o).trans ⟨hf3, hw3⟩);rw [← hD2] at HD;have hsd : D2.set = D.set := by rw [hD2]
   have hud : D2.up = true := by rw [hD2]; exact hu
   have HI3 := Qh hI3';clear hI3 hf3 hw3 hD2 hI3' f0 m0 hQ HST HSH;generalize wd.setCell ⟨g, k * 3 + 1, none⟩ (.string (S (dt ++ s))) = w3 at *;have CLA := Qh (Ji0 HI3.o (by rw [hsd]; exact HN.o));go_wp2_with fail;with_reducible refine CLA.o.mono ?_
   rintro e w4 (⟨hs, rfl, rfl⟩ | ⟨n, ks, hs, rfl, ho⟩ | ⟨ks, hs, rfl, hck, hW, hwr⟩)
   ·have HQ := Qh (show OpI B r c (.int .i64 (Dk.append nm s D).1) (Dk.append nm s D).2 w (.returned (.int .i64 0)) w3 from by
     rw [HD.o]; unfold Dk.chg; rw [Dk.struck_no hs]; exact ⟨rfl, c3, HI3.o, HS3.o.1, HS3.o.2⟩)
    go_wp2_with fail;go_ret;exact HQ.o
   ·have HQ := Qh (show OpI B r c (.int .i64 (Dk.append nm s D).1) (Dk.append nm s D).2 w (.returned (.int .i64 0)) w4 from by
     rw [HD.o];have e1 : Dk.struck D2 = (false, { D2 with set := some (n, ks) }) := by unfold Dk.struck; rw [hs]
     unfold Dk.chg; rw [e1];obtain ⟨_, c5, p1, p2, p3⟩ := ho;have hS := HS3.o.trans ⟨p2, p3⟩
     exact ⟨rfl, c5, p1, hS.1, hS.2⟩)
    clear ho;go_wp2_with fail;go_ret;exact HQ.o
   ·obtain ⟨hk1, hk2⟩ := hW.keepAt
    simp only at hk1 hk2;rw [hck] at hk1 hk2;have x6 : w4.cell? ⟨r, 6, none⟩ = some (.slice c3.ka c3.ks.length c3.kc) := hW.box.cell 6;rw [hck] at x6;have CC := Qh (Jec hW hud ks c3.ka c3.kc (HK.o _ (by rw [← hsd]; exact hs)) hk1 hk2)
    have HQ := Qh (show ∀ e w5, OpI B r { c3 with n := -1 } (.int .i64 0) (Dk.fall ks D2) w4 e w5 → OpI B r c (.int .i64 (Dk.append nm s D).1) (Dk.append nm s D).2 w (.returned (.int .i64 51)) w5 from fun e w5 ⟨_, c5, p1, p2, p3⟩ => by
     rw [HD.o];have e1 : Dk.struck D2 = (true, Dk.fall ks D2) := by unfold Dk.struck; rw [hs]
     unfold Dk.chg; rw [e1]
     have hS := HS3.o.trans (show St5 r c3 w3 c5 w5 from ⟨fun b hb => by
      rcases p2 b hb with h | h
      ·exact .inl h
      ·exact .inr (Nat.le_trans hwr.size h), hwr.step p3 (fun x hx => .inl hx)⟩)
     exact ⟨rfl, c5, p1, hS.1, hS.2⟩)
    clear hW hwr hk1 hk2;go_wp2_with fail;with_reducible refine CC.o.mono ?_
    rintro e w5 ho;have HQ2 := Qh (HQ.o _ _ ho);obtain ⟨rfl, -⟩ := ho;go_wp2_with fail;go_ret;exact HQ2.o
 ·have d3 : decide ((k : Int) < (0 : Int)) = false := decide_eq_false (by omega)
  by_cases hrm : D.room < tt
  ·have d5 : decide (D.room < tt) = true := decide_eq_true hrm
   have HQ := Qh (HFULL.o (.inr (by have := HTT.o; omega)));go_wp2_with fail;go_quiet ((go_at_call 105; exact CZ.o _))
   replace HQ := Qh (HQ.o.below (below_drewN (Below.refl _ _) nq));go_wp2_with fail;go_ret;exact HQ.o
  ·have d5 : decide (D.room < tt) = false := decide_eq_false hrm
   replace HD := Qh (HD.o (by rintro (⟨h1, -⟩ | h1); (rw [(Jb2 HI.o.ok hk he).2] at h1; cases h1); (have := HTT.o; omega)));have HA0 := Qh (Dk.appAt_has (s := s) HI.o.ok hnb hk he);obtain ⟨dt, hdt⟩ : ∃ x, x = (D.L[k]).dat := ⟨_, rfl⟩
   obtain ⟨sf, hsf⟩ : ∃ x, x = (D.L[k]).safe := ⟨_, rfl⟩
   have HA := Qh (show Dk.AppAt nm s D.L D.L k nm dt sf from by rw [hdt, hsf]; exact HA0.o);clear he hdt hsf HA0;go_wp2_with fail;go_quiet ((go_at_call 105; exact CZ.o _))
   obtain ⟨w2, hw2⟩ : ∃ x, x = w.drewN nq := ⟨_, rfl⟩
   have hb2 : Below w.heap.size w w2 := by rw [hw2]; exact below_drewN (Below.refl _ _) nq
   obtain ⟨c2, hc2⟩ : ∃ x, x = c := ⟨_, rfl⟩
   have HI2 := Qh (show RfIn B r c2 { D with L := D.L } w2 from by rw [hc2]; exact HI.o.below hb2);have HS2 := Qh (show St5 r c w c2 w2 from by rw [hc2]; exact (St5.refl r c w).below hb2);rw [← hw2];clear hw2 hb2 hc2 x0 x2;have hlt2 : k < (D.L).length := HA.o.lt;have hat : (D.L)[k] = ⟨nm, dt, sf⟩ := by have := HA.o.at_; rw [show (D.L).getD k Dk.fl0 = (D.L)[k] from by simp [List.getD, hlt2]] at this; exact this
   obtain ⟨g, hg, -, y1, -⟩ := Ja4 HI2.o.row rfl (by exact hlt2);have y1' : w2.cell? ⟨g, k * 3 + 1, none⟩ = some (.string (S dt)) := by rw [show S dt = S ((D.L)[k]).dat from by rw [hat]]; exact y1
   obtain ⟨n1, hn1⟩ : ∃ x, x = (D.L).length := ⟨_, rfl⟩
   have x4n : w2.cell? ⟨r, 4, none⟩ = some (.slice (some ⟨g, 0, none⟩) n1 c2.c) := by have : w2.cell? ⟨r, 4, none⟩ = some (.slice c2.a (D.L).length c2.c) := HI2.o.box.cell 4; rw [hg, ← hn1] at this; exact this
   have HSH := Qh (fun wx (hb : Below w2.heap.size w2 wx) => (show wx.cell? ⟨r, 4, none⟩ = some (.slice (some ⟨g, 0, none⟩) n1 c2.c) ∧ wx.cell? ⟨g, k * 3 + 1, none⟩ = some (.string (S dt)) from ⟨(hb.cell (p := ⟨r, 4, none⟩) (Jaz x4n)).trans x4n, (hb.cell (p := ⟨g, k * 3 + 1, none⟩) (Jaz y1')).trans y1'⟩));have hsz1 : Dk.size ((D.L).set k ⟨nm, dt ++ s, sf⟩) ≤ 1048576 := by rw [HA.o.size]; have := HTT.o; omega
   have HST := Qh (fun wx (hb : Below w2.heap.size w2 wx) => (HI2.o.below hb).setFile (v := .int .i64 0) (by exact hlt2) hg 1 (by decide) (.string (S (dt ++ s))) ⟨nm, dt ++ s, sf⟩ (by show (fl3 (D.L)[k]).set 1 _ = _; rw [hat]; rfl) (by exact HA.o.ok) (by exact hsz1));have hi1 : (0 : Int) ≤ (k : Int) := by omega
   have hi2 : (k : Int) < (n1 : Int) := by omega
   have hdl : (dt ++ s).length ≤ 1048576 := Nat.le_trans (by have := Dk.mem_size HA.o.ok (List.mem_iff_getElem.2 ⟨k, by rw [List.length_set]; exact hlt2, by rw [List.getElem_set_self]⟩); exact this) hsz1;have hdl2 : dt.length + s.length ≤ 1048576 := by rw [List.length_append] at hdl; exact hdl
   clear x4 y1 hat hn1 hg hlt2 hsz1 y1';go_upto_region 11 with fail
   have HB := Qh (Below.refl w2.heap.size w2).drew;refine Jaj (S := fun V => V.cell? ⟨r, 4, none⟩ = some (.slice (some ⟨g, 0, none⟩) n1 c2.c) ∧ V.cell? ⟨g, k * 3 + 1, none⟩ = some (.string (S dt))) 17 (by kernel_rfl) ?_ (fun hQ => ?_)
   ·exact HSH.o _ HB.o
   obtain ⟨wd, hwd⟩ : ∃ x, x = World.drew w2 := ⟨_, rfl⟩
   rw [← hwd] at HB hQ ⊢;clear hwd x4n;refine tkY 0 ?_;refine tkY 1 ?_;refine tkY 2 ?_;refine tkZ 3 [15, 16, 17] ?_;refine tkY 4 ?_;refine tkY 5 ?_;refine tkY 6 ?_;refine tkY 7 ?_;refine tkZ 8 [10, 11, 12, 14, 15, 16, 17] ?_;refine tkY 9 ?_;refine tkY 10 ?_;refine tkY 11 ?_;refine tkZ 12 [14, 15, 16, 17] ?_;refine tkY 13 ?_;refine Jdj (i := 14) (oi := { dst := some 62, op := Op.binOp BinOp.add 9 (Operand.tmp 60) (Operand.tmp 61) 9, type := 9, pos := "ref.go:90", after := #[{ on := 12, ground := Ground.data }, { on := 13, ground := Ground.data }], guard := none }) (v := ?_) rfl (by kernel_rfl) (by kernel_rfl) (by kernel_rfl) (by rfl) (fun _ _ _ h => h) (Or.inl ⟨by rfl, ?_⟩) (by assumption) ?_;rotate_left
   ·(intro w; go_simp; rw [if_neg (by omega)])
   try simp only [Act.put, List.setIfInBounds_toArray, List.set_cons_zero, List.set_cons_succ]
   refine tkY 15 ?_;refine tkY 16 ?_;refine tqL 17 fun K hK => ?_
   have f0 := (HST.o _ HB.o).2;have m0 := (HSH.o _ HB.o).2;go_simp;refine hK.out _ _ ?_;clear hK K;refine wpAny_done (by kernel_rfl) ?_ _;obtain ⟨_, c3, hI3, hf3, hw3⟩ := (HST.o _ HB.o).1;obtain ⟨D2, hD2⟩ : ∃ x, x = ({ D with L := Dk.put ⟨nm, (Dk.get nm D.L).dat ++ s, (Dk.get nm D.L).safe⟩ D.L } : Dk.St) := ⟨_, rfl⟩
   have hI3' : RfIn B r c3 D2 (wd.setCell ⟨g, k * 3 + 1, none⟩ (.string (S (dt ++ s)))) := by rw [hD2, HA.o.put]; exact hI3
   have HS3 := Qh ((HS2.o.below HB.o).trans ⟨hf3, hw3⟩);rw [← hD2] at HD;have hsd : D2.set = D.set := by rw [hD2]
   have hud : D2.up = true := by rw [hD2]; exact hu
   have HI3 := Qh hI3';clear hI3 hf3 hw3 hD2 hI3' f0 m0 hQ HST HSH;generalize wd.setCell ⟨g, k * 3 + 1, none⟩ (.string (S (dt ++ s))) = w3 at *;have CLA := Qh (Ji0 HI3.o (by rw [hsd]; exact HN.o));go_wp2_with fail;with_reducible refine CLA.o.mono ?_
   rintro e w4 (⟨hs, rfl, rfl⟩ | ⟨n, ks, hs, rfl, ho⟩ | ⟨ks, hs, rfl, hck, hW, hwr⟩)
   ·have HQ := Qh (show OpI B r c (.int .i64 (Dk.append nm s D).1) (Dk.append nm s D).2 w (.returned (.int .i64 0)) w3 from by
     rw [HD.o]; unfold Dk.chg; rw [Dk.struck_no hs]; exact ⟨rfl, c3, HI3.o, HS3.o.1, HS3.o.2⟩)
    go_wp2_with fail;go_ret;exact HQ.o
   ·have HQ := Qh (show OpI B r c (.int .i64 (Dk.append nm s D).1) (Dk.append nm s D).2 w (.returned (.int .i64 0)) w4 from by
     rw [HD.o];have e1 : Dk.struck D2 = (false, { D2 with set := some (n, ks) }) := by unfold Dk.struck; rw [hs]
     unfold Dk.chg; rw [e1];obtain ⟨_, c5, p1, p2, p3⟩ := ho;have hS := HS3.o.trans ⟨p2, p3⟩
     exact ⟨rfl, c5, p1, hS.1, hS.2⟩)
    clear ho;go_wp2_with fail;go_ret;exact HQ.o
   ·obtain ⟨hk1, hk2⟩ := hW.keepAt
    simp only at hk1 hk2;rw [hck] at hk1 hk2;have x6 : w4.cell? ⟨r, 6, none⟩ = some (.slice c3.ka c3.ks.length c3.kc) := hW.box.cell 6;rw [hck] at x6;have CC := Qh (Jec hW hud ks c3.ka c3.kc (HK.o _ (by rw [← hsd]; exact hs)) hk1 hk2)
    have HQ := Qh (show ∀ e w5, OpI B r { c3 with n := -1 } (.int .i64 0) (Dk.fall ks D2) w4 e w5 → OpI B r c (.int .i64 (Dk.append nm s D).1) (Dk.append nm s D).2 w (.returned (.int .i64 51)) w5 from fun e w5 ⟨_, c5, p1, p2, p3⟩ => by
     rw [HD.o];have e1 : Dk.struck D2 = (true, Dk.fall ks D2) := by unfold Dk.struck; rw [hs]
     unfold Dk.chg; rw [e1]
     have hS := HS3.o.trans (show St5 r c3 w3 c5 w5 from ⟨fun b hb => by
      rcases p2 b hb with h | h
      ·exact .inl h
      ·exact .inr (Nat.le_trans hwr.size h), hwr.step p3 (fun x hx => .inl hx)⟩)
     exact ⟨rfl, c5, p1, hS.1, hS.2⟩)
    clear hW hwr hk1 hk2;go_wp2_with fail;with_reducible refine CC.o.mono ?_
    rintro e w5 ho;have HQ2 := Qh (HQ.o _ _ ho);obtain ⟨rfl, -⟩ := ho;go_wp2_with fail;go_ret;exact HQ2.o
end
end
section
open Go Go.RowKit Go.Maps
section
variable {B r : Nat} {c : Rc} {D : Dk.St} {w w' : World}
end
def Pl5 (P : Nat → Prop) (B a r : Nat) (D Dr : Dk.St) (w : World) : Prop := ∃ F c, DkAt B F a D w ∧ RfIn B r c Dr w ∧ B ≤ r ∧ (∀ k, Fr r c k → ¬ F k ∧ ¬ P k) ∧ (∀ k, P k → ¬ F k) ∧ (∀ k, P k → k < w.heap.size) ∧ B ≤ w.heap.size
section
variable {P P' : Nat → Prop} {B a r : Nat} {D Dr : Dk.St} {w w' : World}
theorem Pl5.ok (h : Pl5 P B a r D Dr w) : Dk.Ok D := by obtain ⟨F, c, h1, _⟩ := h; exact h1.ok
theorem Pl5.below (h : Pl5 P B a r D Dr w) (hb : Below w.heap.size w w') : Pl5 P B a r D Dr w' := by
 obtain ⟨F, c, h1, h2, h3, h4, h5, h6, h7⟩ := h;exact ⟨F, c, h1.below hb, h2.below hb, h3, h4, h5, fun k hk => Nat.lt_of_lt_of_le (h6 k hk) hb.size, Nat.le_trans h7 hb.size⟩
theorem Pl5.tell (h : Pl5 P B a r D Dr w) : ∃ X, DkX X B a D w := by
 obtain ⟨F, c, h1, h2, h3, h4, h5, h6, h7⟩ := h;exact ⟨fun _ => False, F, h1, fun _ _ q => q⟩
theorem Pl5.ref (h : Pl5 P B a r D Dr w) : ∃ c, RfIn B r c Dr w := by
 obtain ⟨F, c, h1, h2, _⟩ := h;exact ⟨c, h2⟩
end
end
end Go.Proofs.YtmammmjmipgmoaaGreatDoor
