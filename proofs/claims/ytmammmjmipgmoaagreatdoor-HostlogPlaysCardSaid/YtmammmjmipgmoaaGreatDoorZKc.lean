import Derived.Test.YtmammmjmipgmoaaGreatDoorZKb
import Derived.Test.YtmammmjmipgmoaaGreatDoorZQh
set_option linter.unusedVariables false
set_option maxRecDepth 100000
set_option maxHeartbeats 16000000
namespace Go.Proofs.YtmammmjmipgmoaaGreatDoor
open Go Go.RowKit Go.Maps
namespace Hl
def insN (n : Nat) (l : List Nat) : List Nat := l.takeWhile (fun m => decide (m < n)) ++ n :: l.dropWhile (fun m => decide (m < n))
def insF (l : List Nat) (x : List UInt8) : List Nat := match fnum x with
 | some v => insN v.toNat l
 | none => l
def numsN (names : List (List UInt8)) : List Nat := names.foldl insF []
theorem insN_at (n : Nat) : ∀ (l : List Nat) (k : Nat), k ≤ l.length → (∀ j (hj : j < k) (hj2 : j < l.length), l[j] < n) → (∀ hk : k < l.length, ¬ l[k] < n) → insN n l = l.take k ++ n :: l.drop k
 | [], k, h, _, _ => by simp [insN]
 | a :: l, 0, _, _, h2 => by
  have := h2 (by simp);simp only [List.getElem_cons_zero] at this;unfold insN;rw [List.takeWhile_cons_of_neg (by simpa using this), List.dropWhile_cons_of_neg (by simpa using this)];rfl
 | a :: l, k + 1, h, h1, h2 => by
  have h0 := h1 0 (by omega) (by simp);simp only [List.getElem_cons_zero] at h0;have ih := insN_at n l k (by simpa using h) (fun j hj hj2 => by have := h1 (j + 1) (by omega) (by simpa using hj2); simpa using this) (fun hk => by have := h2 (by simpa using hk); simpa using this);unfold insN at ih ⊢;rw [List.takeWhile_cons_of_pos (by simpa using h0), List.dropWhile_cons_of_pos (by simpa using h0), List.take_succ_cons, List.drop_succ_cons, List.cons_append, List.cons_append, ih]
theorem insN_len (n : Nat) (l : List Nat) : (insN n l).length = l.length + 1 := by
 unfold insN;have := congrArg List.length (List.takeWhile_append_dropWhile (p := fun m => decide (m < n)) (l := l));rw [List.length_append] at this;rw [List.length_append, List.length_cons];omega
theorem insF_len (l : List Nat) (x : List UInt8) : (insF l x).length ≤ l.length + 1 := by
 unfold insF;split
 ·rw [insN_len]; exact Nat.le_refl _
 ·omega
theorem foldF_len : ∀ (names : List (List UInt8)) (l : List Nat), (names.foldl insF l).length ≤ l.length + names.length
 | [], l => Nat.le_refl _
 | x :: r, l => by
  have h1 := foldF_len r (insF l x);have h2 := insF_len l x;rw [List.foldl_cons, List.length_cons];omega
def NmsOk (names : List (List UInt8)) : Prop := ∀ x ∈ names, x = nD ∨ ∃ n, n < 1000 ∧ x = nm n
end Hl
section
open Hl
theorem Jci (l : List Nat) : (nats l).length = l.length := by unfold nats; rw [List.length_map]
theorem nats_app (a b : List Nat) : nats (a ++ b) = nats a ++ nats b := by unfold nats; rw [List.map_append]
theorem Jcj (l : List Nat) : ∀ u ∈ nats l, u.oneCell' = true := fun u hu => by
 obtain ⟨n, -, rfl⟩ := List.mem_map.1 hu;rfl
theorem Jc1 (l : List Nat) (k j : Nat) (u : Value) (h : (nats (l.take k))[j]? = some u) : (nats l)[j]? = some u := by
 unfold nats at h ⊢;rw [List.map_take, List.getElem?_take] at h;split at h
 ·exact h
 ·cases h
theorem Jo5 (l : List Nat) (k j : Nat) (u : Value) (h : (nats (l.drop k))[j]? = some u) : (nats l)[k + j]? = some u := by
 unfold nats at h ⊢;rw [List.map_drop, List.getElem?_drop] at h;exact h
theorem Jqk (l : List Nat) (k : Nat) (h : k < l.length) : (nats l)[k]? = some (.int .i64 (l[k] : Nat)) := by
 unfold nats;rw [List.getElem?_map, List.getElem?_eq_getElem h];rfl
theorem Jlr {x : List UInt8} (h : x = nD ∨ ∃ n, n < 1000 ∧ x = nm n) (w : World) : Calls Tryz.prog 135 #[.string (S x)] w fun e w' => e = .returned (.int .i64 (match fnum x with | some v => (v.toNat : Int) | none => -1)) ∧ w = w' := by
 rcases h with rfl | ⟨n, hn, rfl⟩
 ·have := Jja w
  rw [fnum_nD];exact this
 ·rw [fnum_nm ⟨n, hn⟩]
  have h1 := dec_dig ⟨n, hn⟩;obtain ⟨q1, q2, q3, q4⟩ := h1
  have h2 := Jhx (Lib.decDigits n) q2 q3 (fun j hj => by
   have := List.all_eq_true.1 q1 _ (List.getElem_mem hj)
   simpa using this) q4 w
  rw [dgv_dec ⟨n, hn⟩] at h2;exact h2
theorem Jql {x : List UInt8} (h : x = nD ∨ ∃ n, n < 1000 ∧ x = nm n) : fnum x = none ∨ ∃ n : Nat, n < 1000 ∧ fnum x = some (n : Int) := by
 rcases h with rfl | ⟨n, hn, rfl⟩
 ·exact .inl fnum_nD
 ·exact .inr ⟨n, hn, fnum_nm ⟨n, hn⟩⟩
variable {B r : Nat} {c : Rc} {D : Dk.St} {w : World}
def Jls (N : List Nat) (w : World) (e : Ending) (w' : World) : Prop :=
 ∃ ao cap, e = .returned (.slice ao N.length cap) ∧ w'.ownsRow w.heap.size 3 1 (.slice ao N.length cap) N.length (nats N) ∧ Below w.heap.size w w'
theorem Jj9 (h : RfIn B r c D w) (hN : NmsOk (Dk.names D.L)) : Calls Tryz.prog 87 #[.pointer (some ⟨r, 0, none⟩)] w (Jls (numsN (Dk.names D.L)) w) := by
 obtain ⟨i0, hi0, hz0, hz1, hz2⟩ := info_parts Jjc;have CN := Qh (Jkp h);have hfew := h.few;have hnl : (Dk.names D.L).length ≤ 1024 := by simp [Dk.names]; omega
 clear h hfew;generalize Dk.names D.L = ns at *;have HNM := Qh hN;clear hN;go_enter Tryz.func87, Tryz.ntmps87;go_wp2_with fail;with_reducible refine CN.o.mono ?_
 rintro e w1 ⟨an, cn, rfl, hr1, hb1⟩;have HR1 := Qh hr1;have HB1 := Qh hb1;clear CN hr1 hb1;go_wp2_with fail;go_loopw [3, 5] (fun v j wr => ∃ (i : Nat) (ao : Option Addr) (cap : Nat), i ≤ ns.length ∧ j = .int .i64 i ∧ (v = .slice ao ((ns.take i).foldl insF []).length cap ∧ Hid (wr.ownsRow w1.heap.size 3 1 (.slice ao ((ns.take i).foldl insF []).length cap) ((ns.take i).foldl insF []).length (nats ((ns.take i).foldl insF [])) ∧ Below w1.heap.size w1 wr))) (fun _ j _ => ns.length - (intOf j).toNat)
 case atStart => exact ⟨0, none, 0, Nat.zero_le _, rfl, rfl, Qh ⟨World.ownsRow_nil _ _ _ _, Below.refl _ _⟩⟩
 case round =>
  obtain ⟨w3, rfl⟩ : ∃ x, x = wr := ⟨_, rfl⟩
  obtain ⟨i, ao, cap, hi, rfl, rfl, HH⟩ := hrel;by_cases hle : ns.length ≤ i
  ·obtain rfl : i = ns.length := by omega
   have dl : decide ((ns.length : Int) < (ns.length : Int)) = false := by simp
   rw [List.take_length] at HH ⊢;have HK := Qh (show Jls (numsN ns) w (.returned (.slice ao (ns.foldl insF []).length cap)) w3 from ⟨ao, cap, rfl, Jaq HH.o.1 HB1.o.size, Jaa HB1.o HH.o.2⟩);clear HH;generalize ns.foldl insF [] = Ln at *;go_wp2_with fail;go_ret;exact HK.o
  ·have hlt : i < ns.length := by omega
   have dl : decide ((i : Int) < (ns.length : Int)) = true := by simp; omega
   have dl' : decide (i < ns.length) = true := by simp; omega
   obtain ⟨gn, cn2, hvn, y1⟩ := Jgw (Jbg HR1.o HH.o.2) hlt rfl;simp only [Value.slice.injEq, true_and] at hvn;obtain ⟨rfl, rfl⟩ := hvn;have hlen := foldF_len (ns.take i) [];rw [List.length_take, List.length_nil] at hlen;obtain ⟨x, hx⟩ : ∃ x, x = ns[i] := ⟨_, rfl⟩
   have hxm := HNM.o x (by rw [hx]; exact List.getElem_mem _)
   have hstep : (ns.take (i + 1)).foldl insF [] = insF ((ns.take i).foldl insF []) x := by
    rw [List.take_add_one, List.getElem?_eq_getElem hlt, ← hx, Option.toList_some, List.foldl_append];rfl
   rw [← hx] at y1;have CX := Qh (fun W => Jlr hxm W);obtain ⟨Ln, hLn⟩ : ∃ l, l = (ns.take i).foldl insF [] := ⟨_, rfl⟩
   rw [← hLn] at HH hlen hstep ⊢;have HST := Qh hstep;have hi4 : (i : Int) < (ns.length : Int) := by omega
   have hi5 : (0 : Int) ≤ (i : Int) := by omega
   clear hx hLn hstep hle;rcases Jql hxm with hfn | ⟨n, hn, hfn⟩
   ·have HJ := Qh (show (ns.take (i + 1)).foldl insF [] = Ln from by rw [HST.o]; unfold insF; rw [hfn])
    rw [hfn] at CX;clear hxm hfn HST;go_wp2_with fail;with_reducible refine (CX.o _).mono ?_
    rintro e w4 ⟨rfl, rfl⟩;clear CX;go_wp2_with fail;go_roundw
    case rel => exact ⟨i + 1, ao, cap, by omega, by go_num, by rw [HJ.o], by rw [HJ.o]; exact HH⟩
    case measure => simp [intOf]; omega
   ·have HJ := Qh (show (ns.take (i + 1)).foldl insF [] = insN n Ln from by rw [HST.o]; unfold insF; rw [hfn]; rfl)
    rw [hfn] at CX;simp only [Int.toNat_natCast] at CX;clear hxm hfn HST;have dn : decide ((n : Int) < 0) = false := by simp
    go_wp2_with fail;with_reducible refine (CX.o _).mono ?_
    rintro e w4 ⟨rfl, rfl⟩;clear CX y1;go_wp2_with fail;obtain ⟨wy, rfl⟩ : ∃ x, x = w3 := ⟨_, rfl⟩
    go_loopw [7] (fun v wr => ∃ k : Nat, k ≤ Ln.length ∧ v = .int .i64 k ∧ Hid ((∀ j (hj : j < k) (hj2 : j < Ln.length), Ln[j] < n) ∧ Below wy.heap.size wy wr)) (fun v _ => Ln.length - (intOf v).toNat)
    case atStart => exact ⟨0, Nat.zero_le _, rfl, Qh ⟨fun j hj => by omega, Below.refl _ _⟩⟩
    case round =>
     obtain ⟨w5, rfl⟩ : ∃ x, x = wr := ⟨_, rfl⟩
     obtain ⟨k, hk, rfl, HK⟩ := hrel;have HH5 := Qh (show w5.ownsRow w1.heap.size 3 1 (.slice ao Ln.length cap) Ln.length (nats Ln) ∧ Below w1.heap.size w1 w5 from ⟨Jbg HH.o.1 HK.o.2, Jaa HH.o.2 HK.o.2⟩);obtain ⟨wz, rfl⟩ : ∃ x, x = w5 := ⟨_, rfl⟩
     have HCA := Qh (show (ao = none ∧ cap = 0 ∧ Ln.length = 0) ∨ ∃ g, ao = some ⟨g, 0, none⟩ ∧ Ln.length ≤ cap ∧ cap ≤ maxLen from by
      rcases HH5.o.1.2 with ⟨e1, e2⟩ | ⟨g, cap', cur, e1, _, _, e3, e4, _⟩
      ·injection e1 with q1 q2 q3; exact .inl ⟨q1, q3, q2⟩
      ·injection e1 with q1 q2 q3; exact .inr ⟨g, q1, by omega, by omega⟩)
     have HROWG := Qh (fun g (hg : ao = some ⟨g, 0, none⟩) W' (hW : Below wz.heap.size wz W') j u (hu : (nats Ln)[j]? = some u) => (show W'.cell? ⟨g, j, none⟩ = some u from by
      have h1 := Jbg HH5.o.1 hW;rw [hg] at h1;have := h1.cells (g := g) rfl j u hu;rw [Addr.add_lit, Nat.zero_add] at this
      exact this))
     have b1 : (0 : Int) ≤ (k : Int) := by omega
     have b4 : (k : Int) ≤ (Ln.length : Int) := by omega
     have HE0 := Qh (show (Ln.take k).length = k from by rw [List.length_take]; omega)
     have HFIN0 := Qh (fun (h2 : ∀ hk : k < Ln.length, ¬ Ln[k] < n) w2 a11 c11 nL (hnL : nL = Ln.length + 1) (hb : Below wz.heap.size wz w2) (ho : w2.ownsRow wz.heap.size 3 1 (.slice a11 nL c11) nL (nats (Ln.take k ++ n :: Ln.drop k))) =>
      (show (Value.slice a11 nL c11 = .slice a11 ((ns.take (i + 1)).foldl insF []).length c11) ∧ Hid (w2.ownsRow w1.heap.size 3 1 (.slice a11 ((ns.take (i + 1)).foldl insF []).length c11) ((ns.take (i + 1)).foldl insF []).length (nats ((ns.take (i + 1)).foldl insF [])) ∧ Below w1.heap.size w1 w2) from by
       have e1 := insN_at n Ln k hk HK.o.1 h2;rw [HJ.o, insN_len, ← hnL, e1]
       exact ⟨rfl, Qh ⟨Jaq ho HH5.o.2.size, Jaa HH5.o.2 hb⟩⟩))
     obtain ⟨nL, hnL⟩ : ∃ x, x = Ln.length + 1 := ⟨_, rfl⟩
     have HNL := Qh hnL;by_cases hlt2 : k < Ln.length
     focus
      have d1 : decide ((k : Int) < (Ln.length : Int)) = true := by simp; omega
      have d1' : decide (k < Ln.length) = true := by simp; omega
      rcases HCA.o with ⟨-, -, hl0⟩ | ⟨g, hg, hc1, hc2⟩
      ·omega
      have z1 := HROWG.o g hg wz (Below.refl _ _) k _ (Jqk Ln k hlt2);subst hg;have b3 : (k : Int) < (Ln.length : Int) := by omega
      by_cases hl : Ln[k] < n
      ·have HN2 := Qh (show (∀ j (hj : j < k + 1) (hj2 : j < Ln.length), Ln[j] < n) ∧ Below wy.heap.size wy wz from ⟨fun j hj hj2 => by
        by_cases e : j = k
        ·subst e; exact hl
        ·exact HK.o.1 j (by omega) hj2, HK.o.2⟩)
       have d3 : decide (((Ln[k] : Nat) : Int) < (n : Int)) = true := by simp; omega
       have d3' : decide (Ln[k] < n) = true := by simp; omega
       generalize Ln[k] = u at z1 d3 d3';clear HROWG HCA HFIN0 HNL hnL hl;go_wp2_with fail;go_roundw
       case rel => exact ⟨k + 1, by omega, by go_num, HN2⟩
       case measure => simp [intOf]; omega
      have HFIN := Qh (fun w2 a11 c11 hb ho => HFIN0.o (fun _ => hl) w2 a11 c11 nL hnL hb ho);have HROW := Qh (fun W' hW j u hu => HROWG.o g rfl W' hW j u hu);have d3 : decide (((Ln[k] : Nat) : Int) < (n : Int)) = false := by simp; omega
      have d3' : decide (Ln[k] < n) = false := by simp; omega
      generalize Ln[k] = u at z1 d3 d3';have hc : ¬ cap = k := by omega
      have b2 : (k : Int) ≤ (cap : Int) := by omega
      clear HROWG HCA HFIN0 hnL hl HK HH5;unfold maxLen at hc2
     rotate_left
     focus
      have d1 : decide ((k : Int) < (Ln.length : Int)) = false := by simp; omega
      have d1' : decide (k < Ln.length) = false := by simp; omega
      have HFIN := Qh (fun w2 a11 c11 hb ho => HFIN0.o (fun hk2 => absurd hk2 hlt2) w2 a11 c11 nL hnL hb ho);have HDR := Qh (show Ln.drop k = [] from List.drop_eq_nil_of_le (by omega));clear HFIN0 hnL HK HH5;rcases HCA.o with ⟨ha, hc0, hl0⟩ | ⟨g, hg, hc1, hc2⟩
      focus
       have hk0 : k = 0 := by omega
       subst ha;subst hc0;have b2 : (k : Int) ≤ (0 : Int) := by omega
       clear HCA HROWG
      rotate_left
      focus
       have HROW := Qh (fun W' hW j u hu => HROWG.o g hg W' hW j u hu);subst hg;have b2 : (k : Int) ≤ (cap : Int) := by omega
       clear HCA HROWG;unfold maxLen at hc2;have hcase : ¬ cap = k ∨ cap = k := by omega
       rcases hcase with hc | hc
       rotate_left
       focus
        have hc9 := hc.symm;subst hc9;have hfull : Ln.length = k := by omega
        have b5 : (k : Int) ≤ (k : Int) := by omega
     all_goals
      go_upto_region 11 with fail
      refine wp_region_held_drew (S := fun V => True) (by kernel_rfl) trivial (fun hQ => ?_);have HB := Qh (Below.refl wz.heap.size wz).drew;obtain ⟨wd, hwd⟩ : ∃ x, x = World.drew wz := ⟨_, rfl⟩
      rw [← hwd] at HB ⊢;clear hwd;refine tkH 1 ?_;refine tkH 2 ?_;refine tkH 3 ?_;refine tkH 5 ?_;refine tkH 8 ?_;refine tkH 9 ?_;refine tkH 10 ?_;refine wpAnyH_ready (rs := [0, 6]) (by kernel_rfl) (by simp) ?_;refine AllReadyH.cons (o := ⟨_, _, _, _, _, _⟩) rfl (fun K hK => ?_) (AllReadyH.cons (o := ⟨_, _, _, _, _, _⟩) rfl (fun K hK => ?_) (AllReadyH.nil))
      focus
       go_simp;have HOo := Qh (World.ownsRow_made (base := wz.heap.size) (e := 3) (size := 1) wd #[] 0 HB.o.size (by unfold maxLen; omega) rfl);replace HB := Qh (HB.o.alloc HB.o.size (.cells #[] 3));generalize hq0 : wd.heap.size = q0 at *;generalize hw0 : wd.alloc (.cells #[] 3) = w0 at *;clear hq0 hw0;refine hK.out _ _ ?_ (fun hQ => ?_)
       ·trivial
       clear hK K;refine wpAnyH_ready (rs := [4, 6]) (by kernel_rfl) (by simp) ?_;refine AllReadyH.cons (o := ⟨_, _, _, _, _, _⟩) rfl (fun K hK => ?_) (AllReadyH.cons (o := ⟨_, _, _, _, _, _⟩) rfl (fun K hK => ?_) (AllReadyH.nil))
       focus
        first
         | (refine Jag (by rfl) _ _ 40 (by rfl) wz.heap.size 3 i0 (.int .i64 0) 1 8 Tryz.underlying40 hi0 hz0 hz1 hz2 rfl (by decide) (.slice (some ⟨q0, 0, none⟩) 0 0) 0 [] (by rfl) HOo.o ⟨g, 0, none⟩ k cap (nats (Ln.take k)) (by rfl) (by rw [Jci, HE0.o, Nat.mul_one]) (fun j u hu => by rw [Addr.add_lit, Nat.zero_add]; exact HROW.o _ HB.o j u (Jc1 Ln k j u hu)) (Jcj _) (by unfold maxLen; omega) (by omega) HB.o.size ?_); (intro v4 w4 ho4 hg4 hat4); (rw [Nat.zero_add, List.nil_append] at ho4); (obtain ⟨a4, c4, rfl⟩ := Jac ho4); (have HO4 := Qh ho4); (replace HB := Qh (HB.o.grown hg4 HB.o.size (fun q hq => (HOo.o.lt q hq).1))); (clear ho4 hg4 hat4 HOo)
         | (refine Jag (by rfl) _ _ 40 (by rfl) wz.heap.size 3 i0 (.int .i64 0) 1 8 Tryz.underlying40 hi0 hz0 hz1 hz2 rfl (by decide) (.slice (some ⟨q0, 0, none⟩) 0 0) 0 [] (by rfl) HOo.o ⟨g, 0, none⟩ k k (nats (Ln.take k)) (by rfl) (by rw [Jci, HE0.o, Nat.mul_one]) (fun j u hu => by rw [Addr.add_lit, Nat.zero_add]; exact HROW.o _ HB.o j u (Jc1 Ln k j u hu)) (Jcj _) (by unfold maxLen; omega) (by omega) HB.o.size ?_); (intro v4 w4 ho4 hg4 hat4); (rw [Nat.zero_add, List.nil_append] at ho4); (obtain ⟨a4, c4, rfl⟩ := Jac ho4); (have HO4 := Qh ho4); (replace HB := Qh (HB.o.grown hg4 HB.o.size (fun q hq => (HOo.o.lt q hq).1))); (clear ho4 hg4 hat4 HOo)
         | (refine Jau (by rfl) _ _ 40 (by rfl) wz.heap.size 3 i0 1 Tryz.underlying40 hi0 (.slice (some ⟨q0, 0, none⟩) 0 0) 0 [] (by rfl) HOo.o 0 (by rfl) ?_); (obtain ⟨w4, hw4⟩ : ∃ x, x = w0 := ⟨_, rfl⟩); (rw [← hw4] at HOo HB ⊢); (clear hw4); (have HO4 := Qh (show w4.ownsRow wz.heap.size 3 1 (.slice (some ⟨q0, 0, none⟩) 0 0) 0 (nats (Ln.take k)) from by rw [hk0]; exact HOo.o)); (clear HOo)
        refine hK.out _ _ ?_ (fun hQ => ?_)
        ·trivial
        clear hK K;refine tqH 6 fun K hK => ?_
        first
         | (go_simp); (have HNE := Qh (show ∀ q, (Value.slice a4 k c4).ownBlock = some q → q ≠ w4.heap.size from fun q hq e => by have := (HO4.o.lt q hq).2; omega)); (replace HO4 := Qh (HO4.o.alloc (.cells #[.int .i64 (n : Nat)] 3))); (have HY := Qh (show Bk #[.int .i64 (n : Nat)] 3 (w4.alloc (.cells #[.int .i64 (n : Nat)] 3)) w4.heap.size from Jae _ _ _)); (replace HB := Qh (HB.o.alloc HB.o.size (.cells #[.int .i64 (n : Nat)] 3))); (generalize hq6 : w4.heap.size = q6 at *); (generalize hw6 : w4.alloc (.cells #[.int .i64 (n : Nat)] 3) = w6 at *); (clear hq6 hw6)
         | (go_simp); (have HNE := Qh (show ∀ q, (Value.slice (some ⟨q0, 0, none⟩) 0 0).ownBlock = some q → q ≠ w4.heap.size from fun q hq e => by have := (HO4.o.lt q hq).2; omega)); (replace HO4 := Qh (HO4.o.alloc (.cells #[.int .i64 (n : Nat)] 3))); (have HY := Qh (show Bk #[.int .i64 (n : Nat)] 3 (w4.alloc (.cells #[.int .i64 (n : Nat)] 3)) w4.heap.size from Jae _ _ _)); (replace HB := Qh (HB.o.alloc HB.o.size (.cells #[.int .i64 (n : Nat)] 3))); (generalize hq6 : w4.heap.size = q6 at *); (generalize hw6 : w4.alloc (.cells #[.int .i64 (n : Nat)] 3) = w6 at *); (clear hq6 hw6)
        refine hK.out _ _ ?_ (fun hQ => ?_)
        ·trivial
        clear hK K;generalize w6 = wv at *
       rotate_left
       focus
        go_simp;have HNE := Qh (show q0 ≠ w0.heap.size from fun e => by have := (HOo.o.lt q0 rfl).2; omega);replace HOo := Qh (HOo.o.alloc (.cells #[.int .i64 (n : Nat)] 3));have HY := Qh (show Bk #[.int .i64 (n : Nat)] 3 (w0.alloc (.cells #[.int .i64 (n : Nat)] 3)) w0.heap.size from Jae _ _ _);replace HB := Qh (HB.o.alloc HB.o.size (.cells #[.int .i64 (n : Nat)] 3));generalize hq6 : w0.heap.size = q6 at *;generalize hw6 : w0.alloc (.cells #[.int .i64 (n : Nat)] 3) = w6 at *;clear hq6 hw6;refine hK.out _ _ ?_ (fun hQ => ?_)
        ·trivial
        clear hK K;refine tqH 4 fun K hK => ?_
        first
         | (refine Jag (by rfl) _ _ 40 (by rfl) wz.heap.size 3 i0 (.int .i64 0) 1 8 Tryz.underlying40 hi0 hz0 hz1 hz2 rfl (by decide) (.slice (some ⟨q0, 0, none⟩) 0 0) 0 [] (by rfl) HOo.o ⟨g, 0, none⟩ k cap (nats (Ln.take k)) (by rfl) (by rw [Jci, HE0.o, Nat.mul_one]) (fun j u hu => by rw [Addr.add_lit, Nat.zero_add]; exact HROW.o _ HB.o j u (Jc1 Ln k j u hu)) (Jcj _) (by unfold maxLen; omega) (by omega) HB.o.size ?_); (intro v4 w4 ho4 hg4 hat4); (rw [Nat.zero_add, List.nil_append] at ho4); (obtain ⟨a4, c4, rfl⟩ := Jac ho4); (have HO4 := Qh ho4); (replace HB := Qh (HB.o.grown hg4 HB.o.size (fun q hq => (HOo.o.lt q hq).1))); (have HYL := Qh (show q6 < w6.heap.size from HY.o.lt)); (replace HY := Qh (HY.o.grown hg4 (fun e => HNE.o (by cases e; rfl)))); (replace HNE := Qh (show ∀ q, (Value.slice a4 k c4).ownBlock = some q → q ≠ q6 from fun q hq e => by rcases hat4 with h | h; exact HNE.o (by rw [hq] at h; cases h; exact e); rw [hq] at h; cases h; have := HYL.o; omega)); (clear HYL); (clear ho4 hg4 hat4 HOo)
         | (refine Jag (by rfl) _ _ 40 (by rfl) wz.heap.size 3 i0 (.int .i64 0) 1 8 Tryz.underlying40 hi0 hz0 hz1 hz2 rfl (by decide) (.slice (some ⟨q0, 0, none⟩) 0 0) 0 [] (by rfl) HOo.o ⟨g, 0, none⟩ k k (nats (Ln.take k)) (by rfl) (by rw [Jci, HE0.o, Nat.mul_one]) (fun j u hu => by rw [Addr.add_lit, Nat.zero_add]; exact HROW.o _ HB.o j u (Jc1 Ln k j u hu)) (Jcj _) (by unfold maxLen; omega) (by omega) HB.o.size ?_); (intro v4 w4 ho4 hg4 hat4); (rw [Nat.zero_add, List.nil_append] at ho4); (obtain ⟨a4, c4, rfl⟩ := Jac ho4); (have HO4 := Qh ho4); (replace HB := Qh (HB.o.grown hg4 HB.o.size (fun q hq => (HOo.o.lt q hq).1))); (have HYL := Qh (show q6 < w6.heap.size from HY.o.lt)); (replace HY := Qh (HY.o.grown hg4 (fun e => HNE.o (by cases e; rfl)))); (replace HNE := Qh (show ∀ q, (Value.slice a4 k c4).ownBlock = some q → q ≠ q6 from fun q hq e => by rcases hat4 with h | h; exact HNE.o (by rw [hq] at h; cases h; exact e); rw [hq] at h; cases h; have := HYL.o; omega)); (clear HYL); (clear ho4 hg4 hat4 HOo)
         | (refine Jau (by rfl) _ _ 40 (by rfl) wz.heap.size 3 i0 1 Tryz.underlying40 hi0 (.slice (some ⟨q0, 0, none⟩) 0 0) 0 [] (by rfl) HOo.o 0 (by rfl) ?_); (obtain ⟨w4, hw4⟩ : ∃ x, x = w6 := ⟨_, rfl⟩); (rw [← hw4] at HOo HB HY ⊢); (clear hw4); (have HO4 := Qh (show w4.ownsRow wz.heap.size 3 1 (.slice (some ⟨q0, 0, none⟩) 0 0) 0 (nats (Ln.take k)) from by rw [hk0]; exact HOo.o)); (replace HNE := Qh (show ∀ q, (Value.slice (some ⟨q0, 0, none⟩) 0 0).ownBlock = some q → q ≠ q6 from fun q hq e => by cases hq; exact HNE.o e)); (clear HOo)
        refine hK.out _ _ ?_ (fun hQ => ?_)
        ·trivial
        clear hK K;generalize w4 = wv at *
       rotate_left
      rotate_left 2
      focus
       go_simp;have HY := Qh (show Bk #[.int .i64 (n : Nat)] 3 (wd.alloc (.cells #[.int .i64 (n : Nat)] 3)) wd.heap.size from Jae _ _ _);replace HB := Qh (HB.o.alloc HB.o.size (.cells #[.int .i64 (n : Nat)] 3));generalize hq6 : wd.heap.size = q6 at *;generalize hw6 : wd.alloc (.cells #[.int .i64 (n : Nat)] 3) = w6 at *;clear hq6 hw6;refine hK.out _ _ ?_ (fun hQ => ?_)
       ·trivial
       clear hK K;refine tqH 0 fun K hK => ?_
       go_simp;have HOo := Qh (World.ownsRow_made (base := wz.heap.size) (e := 3) (size := 1) w6 #[] 0 HB.o.size (by unfold maxLen; omega) rfl);replace HB := Qh (HB.o.alloc HB.o.size (.cells #[] 3));have HNE := Qh (show w6.heap.size ≠ q6 from fun e => by have := HY.o.lt; omega);replace HY := Qh (HY.o.more (.cells #[] 3));generalize hq0 : w6.heap.size = q0 at *;generalize hw0 : w6.alloc (.cells #[] 3) = w0 at *;clear hq0 hw0;refine hK.out _ _ ?_ (fun hQ => ?_)
       ·trivial
       clear hK K;refine tqH 4 fun K hK => ?_
       first
        | (refine Jag (by rfl) _ _ 40 (by rfl) wz.heap.size 3 i0 (.int .i64 0) 1 8 Tryz.underlying40 hi0 hz0 hz1 hz2 rfl (by decide) (.slice (some ⟨q0, 0, none⟩) 0 0) 0 [] (by rfl) HOo.o ⟨g, 0, none⟩ k cap (nats (Ln.take k)) (by rfl) (by rw [Jci, HE0.o, Nat.mul_one]) (fun j u hu => by rw [Addr.add_lit, Nat.zero_add]; exact HROW.o _ HB.o j u (Jc1 Ln k j u hu)) (Jcj _) (by unfold maxLen; omega) (by omega) HB.o.size ?_); (intro v4 w4 ho4 hg4 hat4); (rw [Nat.zero_add, List.nil_append] at ho4); (obtain ⟨a4, c4, rfl⟩ := Jac ho4); (have HO4 := Qh ho4); (replace HB := Qh (HB.o.grown hg4 HB.o.size (fun q hq => (HOo.o.lt q hq).1))); (have HYL := Qh (show q6 < w0.heap.size from HY.o.lt)); (replace HY := Qh (HY.o.grown hg4 (fun e => HNE.o (by cases e; rfl)))); (replace HNE := Qh (show ∀ q, (Value.slice a4 k c4).ownBlock = some q → q ≠ q6 from fun q hq e => by rcases hat4 with h | h; exact HNE.o (by rw [hq] at h; cases h; exact e); rw [hq] at h; cases h; have := HYL.o; omega)); (clear HYL); (clear ho4 hg4 hat4 HOo)
        | (refine Jag (by rfl) _ _ 40 (by rfl) wz.heap.size 3 i0 (.int .i64 0) 1 8 Tryz.underlying40 hi0 hz0 hz1 hz2 rfl (by decide) (.slice (some ⟨q0, 0, none⟩) 0 0) 0 [] (by rfl) HOo.o ⟨g, 0, none⟩ k k (nats (Ln.take k)) (by rfl) (by rw [Jci, HE0.o, Nat.mul_one]) (fun j u hu => by rw [Addr.add_lit, Nat.zero_add]; exact HROW.o _ HB.o j u (Jc1 Ln k j u hu)) (Jcj _) (by unfold maxLen; omega) (by omega) HB.o.size ?_); (intro v4 w4 ho4 hg4 hat4); (rw [Nat.zero_add, List.nil_append] at ho4); (obtain ⟨a4, c4, rfl⟩ := Jac ho4); (have HO4 := Qh ho4); (replace HB := Qh (HB.o.grown hg4 HB.o.size (fun q hq => (HOo.o.lt q hq).1))); (have HYL := Qh (show q6 < w0.heap.size from HY.o.lt)); (replace HY := Qh (HY.o.grown hg4 (fun e => HNE.o (by cases e; rfl)))); (replace HNE := Qh (show ∀ q, (Value.slice a4 k c4).ownBlock = some q → q ≠ q6 from fun q hq e => by rcases hat4 with h | h; exact HNE.o (by rw [hq] at h; cases h; exact e); rw [hq] at h; cases h; have := HYL.o; omega)); (clear HYL); (clear ho4 hg4 hat4 HOo)
        | (refine Jau (by rfl) _ _ 40 (by rfl) wz.heap.size 3 i0 1 Tryz.underlying40 hi0 (.slice (some ⟨q0, 0, none⟩) 0 0) 0 [] (by rfl) HOo.o 0 (by rfl) ?_); (obtain ⟨w4, hw4⟩ : ∃ x, x = w0 := ⟨_, rfl⟩); (rw [← hw4] at HOo HB HY ⊢); (clear hw4); (have HO4 := Qh (show w4.ownsRow wz.heap.size 3 1 (.slice (some ⟨q0, 0, none⟩) 0 0) 0 (nats (Ln.take k)) from by rw [hk0]; exact HOo.o)); (replace HNE := Qh (show ∀ q, (Value.slice (some ⟨q0, 0, none⟩) 0 0).ownBlock = some q → q ≠ q6 from fun q hq e => by cases hq; exact HNE.o e)); (clear HOo)
       refine hK.out _ _ ?_ (fun hQ => ?_)
       ·trivial
       clear hK K;generalize w4 = wv at *
      rotate_left
      all_goals
       refine tqH 7 fun K hK => ?_
       first
        | (refine Jag (by rfl) _ _ 40 (by rfl) wz.heap.size 3 i0 (.int .i64 0) 1 8 Tryz.underlying40 hi0 hz0 hz1 hz2 rfl (by decide) (Value.slice a4 k c4) k (nats (Ln.take k)) (by rfl) HO4.o ⟨q6, 0, none⟩ 1 1 [.int .i64 (n : Nat)] (by rfl) rfl (fun j u hu => by rw [Addr.add_lit, Nat.zero_add]; exact (HY.o.cell j).trans (by rw [← hu]; simp)) (fun u hu => by simp at hu; subst hu; rfl) (by unfold maxLen; omega) (by omega) HB.o.size ?_); (intro v7 w7 ho7 hg7 _); (replace ho7 : w7.ownsRow wz.heap.size 3 1 v7 (k + 1) (nats (Ln.take k ++ [n])) := by rw [nats_app]; exact ho7); (obtain ⟨a7, c7, rfl⟩ := Jac ho7); (have HO7 := Qh ho7); (replace HB := Qh (HB.o.grown hg7 HB.o.size (fun q hq => (HO4.o.lt q hq).1))); (clear ho7 hg7 HO4 HY HNE)
        | (refine Jag (by rfl) _ _ 40 (by rfl) wz.heap.size 3 i0 (.int .i64 0) 1 8 Tryz.underlying40 hi0 hz0 hz1 hz2 rfl (by decide) (Value.slice (some ⟨q0, 0, none⟩) 0 0) 0 (nats (Ln.take k)) (by rfl) HO4.o ⟨q6, 0, none⟩ 1 1 [.int .i64 (n : Nat)] (by rfl) rfl (fun j u hu => by rw [Addr.add_lit, Nat.zero_add]; exact (HY.o.cell j).trans (by rw [← hu]; simp)) (fun u hu => by simp at hu; subst hu; rfl) (by unfold maxLen; omega) (by omega) HB.o.size ?_); (intro v7 w7 ho7 hg7 _); (replace ho7 : w7.ownsRow wz.heap.size 3 1 v7 1 (nats (Ln.take k ++ [n])) := by rw [nats_app]; exact ho7); (obtain ⟨a7, c7, rfl⟩ := Jac ho7); (have HO7 := Qh ho7); (replace HB := Qh (HB.o.grown hg7 HB.o.size (fun q hq => (HO4.o.lt q hq).1))); (clear ho7 hg7 HO4 HY HNE)
       refine hK.out _ _ ?_ (fun hQ => ?_)
       ·trivial
       clear hK K;refine tqH 11 fun K hK => ?_
       first
        | (refine Jag (by rfl) _ _ 40 (by rfl) wz.heap.size 3 i0 (.int .i64 0) 1 8 Tryz.underlying40 hi0 hz0 hz1 hz2 rfl (by decide) (.slice a7 (k + 1) c7) (k + 1) (nats (Ln.take k ++ [n])) (by rfl) HO7.o ⟨g, k, none⟩ (Ln.length - k) (cap - k) (nats (Ln.drop k)) (by rfl) (by rw [Jci, List.length_drop, Nat.mul_one]) (fun j u hu => by rw [Addr.add_lit]; exact HROW.o _ HB.o _ u (Jo5 Ln k j u hu)) (Jcj _) (by unfold maxLen; omega) (by omega) HB.o.size ?_); (intro v11 w11 ho11 hg11 _); (replace ho11 : w11.ownsRow wz.heap.size 3 1 v11 nL (nats (Ln.take k ++ n :: Ln.drop k)) := by rw [show Ln.take k ++ n :: Ln.drop k = (Ln.take k ++ [n]) ++ Ln.drop k from by simp, nats_app, show nL = k + 1 + (Ln.length - k) from by have := HNL.o; omega]; exact ho11); (obtain ⟨a11, c11, rfl⟩ := Jac ho11); (have HO11 := Qh ho11); (replace HB := Qh (HB.o.grown hg11 HB.o.size (fun q hq => (HO7.o.lt q hq).1))); (clear ho11 hg11 HO7)
        | (refine Jag (by rfl) _ _ 40 (by rfl) wz.heap.size 3 i0 (.int .i64 0) 1 8 Tryz.underlying40 hi0 hz0 hz1 hz2 rfl (by decide) (.slice a7 (k + 1) c7) (k + 1) (nats (Ln.take k ++ [n])) (by rfl) HO7.o ⟨g, 0, none⟩ 0 0 [] (by rfl) rfl (fun j u hu => by simp at hu) (fun u hu => by simp at hu) (by unfold maxLen; omega) (by omega) HB.o.size ?_); (intro v11 w11 ho11 hg11 _); (replace ho11 : w11.ownsRow wz.heap.size 3 1 v11 nL (nats (Ln.take k ++ n :: Ln.drop k)) := by rw [show Ln.take k ++ n :: Ln.drop k = Ln.take k ++ [n] from by rw [HDR.o], show nL = k + 1 from by have := HNL.o; omega]; rw [List.append_nil] at ho11; exact ho11); (obtain ⟨a11, c11, rfl⟩ := Jac ho11); (have HO11 := Qh ho11); (replace HB := Qh (HB.o.grown hg11 HB.o.size (fun q hq => (HO7.o.lt q hq).1))); (clear ho11 hg11 HO7)
        | (refine Jau (by rfl) _ _ 40 (by rfl) wz.heap.size 3 i0 1 Tryz.underlying40 hi0 (.slice a7 1 c7) 1 (nats (Ln.take k ++ [n])) (by rfl) HO7.o 0 (by rfl) ?_); (obtain ⟨w11, hw11⟩ : ∃ x, x = w7 := ⟨_, rfl⟩); (rw [← hw11] at HO7 HB ⊢); (clear hw11); (obtain ⟨a11, c11, hv11⟩ : ∃ a11 c11, (Value.slice a7 1 c7) = .slice a11 nL c11 := ⟨a7, c7, by rw [show nL = 1 from by have := HNL.o; omega]⟩); (have HO11 := Qh (show w11.ownsRow wz.heap.size 3 1 (.slice a11 nL c11) nL (nats (Ln.take k ++ n :: Ln.drop k)) from by rw [← hv11, show nL = 1 from by have := HNL.o; omega, show Ln.take k ++ n :: Ln.drop k = Ln.take k ++ [n] from by rw [HDR.o]]; exact HO7.o)); (rw [hv11]); (clear HO7 hv11)
       refine hK.out _ _ ?_ (fun hQ => ?_)
       ·trivial
       clear hK K;refine tkH 12 ?_;refine wpAnyH_done (by kernel_rfl) ?_ _;go_wp2_with fail;go_roundw
       case rel => exact ⟨i + 1, a11, c11, by omega, by go_num, HFIN.o _ a11 c11 HB.o HO11.o⟩
       case measure => simp [intOf]; omega
end
end Go.Proofs.YtmammmjmipgmoaaGreatDoor
