import Derived.Test.YtmammmjmipgmoaaGreatDoorZO
import Derived.Test.YtmammmjmipgmoaaGreatDoorZU
import Derived.Sort.OwnSortedInts
import Derived.Test.YtmammmjmipgmoaaGreatDoorZM
import Derived.Test.YtmammmjmipgmoaaGreatDoorZC
import Derived.Test.YtmammmjmipgmoaaGreatDoorZQh
set_option linter.unusedVariables false
set_option maxRecDepth 100000
set_option maxHeartbeats 16000000
namespace Go.Proofs.YtmammmjmipgmoaaGreatDoor
section
open Go Go.RowKit Go.Maps Go.Sort
abbrev Jbk (l : List Int) : List Int := l.mergeSort fun x y => decide (x ≤ y)
theorem Jp8 {w : World} {B g cap : Nat} {l : List Int} (h : w.ownsRow B 3 1 (.slice (some ⟨g, 0, none⟩) l.length cap) l.length (Jap l)) : Holds (Value.int .i64) w g 0 l.toArray ∧ g < w.heap.size ∧ l.length ≤ cap := by
 rcases h.2 with ⟨e, _⟩ | ⟨g', cap', cur, e, hB, hg, hc, hm, hs, ht⟩
 ·cases e
 ·injection e with e1 e2 e3
  injection e1 with e1
  injection e1 with e1
  subst e1 e3;exact ⟨holds_of_blockI hg (by rw [← Nat.mul_one l.length]; exact ht), (Array.getElem?_eq_some_iff.1 hg).1, hc⟩
theorem Jot (l : List Int) (hl : l.length ≤ 1000000) {B : Nat} (ao : Option Addr) (cap : Nat) (w : World) (h : w.ownsRow B 3 1 (.slice ao l.length cap) l.length (Jap l)) :
  Calls Tryz.prog 155 #[.slice ao l.length cap] w fun e w' => e = .returned (.tuple #[]) ∧ w'.ownsRow B 3 1 (.slice ao l.length cap) l.length (Jap (Jbk l)) ∧ w.grownBy w' (Value.slice ao l.length cap).ownBlock := by
 rcases h.2 with ⟨e, e0⟩ | ⟨g, cap', cur, e, hB, hb, h1, h2, h3, _⟩
 ·have hn : l = [] := List.length_eq_zero_iff.1 e0
  subst hn;injection e with e1 e2 e3
  subst e1 e3;refine (Tryz.slices_Sort_int_none none 0 w).mono ?_;rintro e w' ⟨rfl, rfl⟩;exact ⟨rfl, by rw [show Jbk [] = [] from by simp [Jbk]]; exact h, ⟨rfl, rfl, rfl, Nat.le_refl _, fun _ _ _ => rfl⟩⟩
 ·injection e with e1 e2 e3
  subst e1 e3;obtain ⟨hH, hg, _⟩ := Jp8 h;refine (Tryz.slices_Sort_int g 0 cap l w hH hg (by omega)).mono ?_;rintro e w' ⟨rfl, n, os, rfl⟩;exact ⟨rfl, ownsRow_sortedI (List.length_mergeSort l) hB hb h1 h2 h3, grownBy_sortedI _⟩
section
variable {X : Nat → Prop} {B d : Nat} {D : Dk.St} {w : World}
def Jar (kind : List UInt8) (least most : Int) (l : List (List UInt8)) : List Int := l.filterMap (Fnum kind least most)
theorem Jj8 (kind : List UInt8) (least most : Int) (l : List (List UInt8)) (k : Nat) (hk : k < l.length) : Jar kind least most (l.take (k + 1)) = Jar kind least most (l.take k) ++ (Fnum kind least most (l.getD k [])).toList := by
 unfold Jar;rw [List.take_succ_eq_append_getElem hk, List.filterMap_append];have : l.getD k [] = l[k] := by simp [List.getD, hk]
 rw [this];cases hq : Fnum kind least most l[k] with
 | none => simp [hq]
 | some v => simp [hq]
theorem Jf6 (kind : List UInt8) (least most : Int) (l : List (List UInt8)) : (Jar kind least most l).length ≤ l.length := List.length_filterMap_le _ _
theorem Ji7 (h : DkX X B d D w) (hv : Vr w) (kind : List UInt8) (least most : Int) (h0 : 0 ≤ least) (h1 : most ≤ 1000000000) :
  Calls Tryz.prog 114 #[.pointer (some ⟨d, 0, none⟩), .string (S kind), .int .i64 least, .int .i64 most] w (RowN (Jbk (Jar kind least most (Dk.names D.L))) w) := by
 have CN := Qh (Jd1 h);obtain ⟨j0, hj, hy0, hy1, hy2⟩ := info_parts Jcw;have HV := Qh hv;have hlen : (Dk.names D.L).length ≤ 1024 := by unfold Dk.names; rw [List.length_map]; exact h.ok.few
 have HNL := Qh (show ∀ nm ∈ Dk.names D.L, nm.length ≤ 16 from fun nm hn => by
  unfold Dk.names at hn;obtain ⟨g, hg1, rfl⟩ := List.mem_map.1 hn;have := h.ok.l.named g hg1;unfold Dk.named at this;simp only [Bool.and_eq_true, decide_eq_true_eq] at this
  omega)
 have HK := Qh (fun nm W (hn : nm.length ≤ 1000) (q : Vr W) => Jj7 nm kind least most hn h0 h1 W q);clear h hv;generalize Dk.names D.L = L at *;have HSN := Qh (Jj8 kind least most L);have HNN := Qh (fun k => Nat.le_trans (Jf6 kind least most (L.take k)) (by rw [List.length_take]; omega : _ ≤ L.length));go_enter Tryz.func114, Tryz.ntmps114;go_wp2_with fail;with_reducible refine CN.o.mono ?_
 rintro e w1 ⟨ao, cap, rfl, hr, hb⟩;have HR := Qh (Jb6 hr);have HB := Qh hb;clear hr hb CN;go_wp2_with fail;go_loopw [9, 17] (fun v i wr => ∃ (k : Nat) (bo : Option Addr) (bc : Nat), k ≤ L.length ∧ i = .int .i64 k ∧ v = .slice bo (Jar kind least most (L.take k)).length bc ∧ Hid (wr.ownsRow w1.heap.size 3 1 (.slice bo (Jar kind least most (L.take k)).length bc) (Jar kind least most (L.take k)).length (Jap (Jar kind least most (L.take k))) ∧ Below w1.heap.size w1 wr)) (fun _ i _ => L.length - (intOf i).toNat)
 case atStart => exact ⟨0, none, 0, Nat.zero_le _, rfl, rfl, Qh ⟨World.ownsRow_nil _ _ _ _, Below.refl _ _⟩⟩
 case round =>
  obtain ⟨w3, rfl⟩ : ∃ x, x = wr := ⟨_, rfl⟩
  obtain ⟨k, bo, bc, hk, rfl, rfl, HH⟩ := hrel;by_cases hlt : k < L.length
  ·have d1 : decide (k < L.length) = true := by simpa using hlt
   have d1' : decide ((k : Int) < (L.length : Int)) = true := by simpa using hlt
   have hne : L ≠ [] := fun e => by rw [e] at hlt; simp at hlt
   obtain ⟨g, off, rfl, hcell⟩ := HR.o.below HH.o.2 hne;have c0 := hcell k hlt
   have hmem : L.getD k [] ∈ L := by
    have : L.getD k [] = L[k] := by simp [List.getD, hlt]
    rw [this]; exact List.getElem_mem hlt
   have hnl := HNL.o _ hmem;have CK := Qh (HK.o (L.getD k []) w3 (by omega) ((HV.o.below HB.o).below HH.o.2));have hsn := HSN.o k hlt;have hll := HNN.o k;clear hcell hmem hne;generalize L.getD k [] = nm at *;generalize Fnum kind least most nm = r at *;generalize Jar kind least most (L.take k) = A at *;have HS := Qh hsn;clear hsn;unfold numV at CK;go_wp2_with fail;with_reducible refine CK.o.mono ?_
   rintro e w4 ⟨rfl, hb4⟩;have HA := Qh (Jaf HH.o.1 hb4);have HB4 := Qh (Jaa HH.o.2 hb4);clear HH hb4 CK c0;cases r with
   | none =>
    go_wp2_with fail;go_roundw
    case rel => exact ⟨k + 1, bo, bc, by omega, by go_num, by rw [HS.o]; simp, Qh (by rw [HS.o]; simpa using ⟨HA.o, HB4.o⟩)⟩
    case measure => simp [intOf]; omega
   | some n =>
    simp only [Option.getD_some, Option.isSome_some];go_wp2_with (at_builtin; refine wpList_append_own _ rfl _ _ 40 rfl w1.heap.size 3 j0 (.int .i64 0) 1 8 Tryz.underlying40 hj hy0 hy1 hy2 rfl (by decide) (.slice bo A.length bc) A.length _ rfl (HA.o.alloc _) ⟨w4.heap.size, 0, none⟩ 1 1 [.int .i64 n] rfl rfl (cell_one_new _ _ _) (by simp [Value.oneCell']) (by unfold maxLen; omega) (by omega) (by have := HB4.o.size; simp; omega) ?_; intro v8 w8 ho8 hg8 hn8; obtain ⟨a8, c8, rfl⟩ := Jac ho8; have HO8 := Qh ho8; have HB8 := Qh (show Below w1.heap.size w1 w8 from (HB4.o.alloc HB4.o.size _).grown hg8 (by have := HB4.o.size; simp; omega) (fun q hq => (HA.o.lt q hq).1)); clear ho8 hg8 hn8)
    go_roundw
    case rel => exact ⟨k + 1, a8, c8, by omega, by go_num, by rw [HS.o]; simp, Qh (by rw [HS.o]; have := HO8.o; simp [Jap] at *; exact ⟨this, HB8.o⟩)⟩
    case measure => simp [intOf]; omega
  ·have d1 : decide (k < L.length) = false := by simpa using hlt
   have d1' : decide ((k : Int) < (L.length : Int)) = false := by simpa using hlt
   obtain rfl : k = L.length := by omega
   rw [List.take_length] at HH ⊢;have hll := Jf6 kind least most L;have CS := Qh (Jot (Jar kind least most L) (by omega) bo bc w3 HH.o.1);have HE := Qh (show (Jbk (Jar kind least most L)).length = (Jar kind least most L).length from List.length_mergeSort _);generalize Jar kind least most L = A at *;go_wp2_with fail;with_reducible refine CS.o.mono ?_
   rintro e w4 ⟨rfl, ho, hg⟩;have HO := Qh ho;have HB4 := Qh (Jaa HB.o (HH.o.2.grown hg HH.o.2.size (fun q hq => (HH.o.1.lt q hq).1)));clear ho hg CS;go_wp2_with fail;go_ret;refine ⟨bo, bc, by rw [HE.o]; rfl, ?_, HB4.o⟩;rw [HE.o];exact Jaq HO.o HB.o.size
end
end
section
open Go Go.RowKit Go.Maps
section
variable {X : Nat → Prop} {B d : Nat} {D : Dk.St} {w : World}
theorem Jou (nm : List UInt8) (w : World) : Calls Tryz.prog 64 #[.string (S nm)] w fun e w' => e = .returned (.bool (nm == Hl.nD)) ∧ Below w.heap.size w w' := by
 obtain ⟨dr, hdr⟩ : ∃ dr : List UInt8, dr = [108, 110, 101, 119] := ⟨_, rfl⟩
 have hS : ({ data := #[108, 110, 101, 119] } : ByteArray) = S dr := by rw [hdr]
 show Calls Tryz.prog 64 #[.string (S nm)] w fun e w' => e = .returned (.bool (nm == [108, 110, 101, 119])) ∧ Below w.heap.size w w'
 rw [← hdr];go_enter Tryz.func64, Tryz.ntmps64;rw [hS];clear hS hdr;go_wp2_with fail;go_ret;exact ⟨rfl, Below.refl _ _⟩
theorem Jp9 (h : DkX X B d D w) (hX : ∀ k, X k → k < w.heap.size) (hB : B ≤ w.heap.size) {b1 : Nat} (c1 : w.cell? ⟨b1, 0, none⟩ = some (.pointer (some ⟨d, 0, none⟩))) :
  Calls Tryz.prog 62 #[.pointer (some ⟨b1, 0, none⟩)] w (OpX X B d (Dk.clear Hl.nD D) w) := by
 have CC := Qh (show Calls Tryz.prog 63 #[.pointer (some ⟨d, 0, none⟩), .func (Fn.func 64) #[] #[]] w (OpX X B d (Dk.clear Hl.nD D) w) from by
  rw [← Dk.clrs_clear h.ok.l]
  exact Jgo (fun n => n == Hl.nD) 64 _ (Jav (fn := Tryz.f64) (by kernel_rfl) (by kernel_rfl) rfl) h hX hB (fun w' hw nm _ => Jou nm w'))
 clear h hX hB;generalize Dk.clear Hl.nD D = r at *;go_enter Tryz.func62, Tryz.ntmps62;go_wp2_with fail;with_reducible refine CC.o.mono ?_
 rintro e w1 ho;have HO := Qh ho;obtain ⟨rfl, -⟩ := ho;clear CC;go_wp2_with fail;go_ret;exact HO.o
end
end
section
open Go Go.RowKit Go.Maps
namespace Hl
def mendD (G : Lg) (D : Dk.St) : Int × Dk.St := if (Dk.read (nm (lastS G).n) D).1 ≠ 0 then ((Dk.read (nm (lastS G).n) D).1, D) else Dk.lay nD (nm (lastS G).n) ((Dk.read (nm (lastS G).n) D).2.take (lastS G).size) D
end Hl
section
variable {X : Nat → Prop} {B b d : Nat} {G : Hl.Lg} {D : Dk.St} {vs : Value} {P : List (Hl.Sm × Value)} {w w' : World}
open Hl
theorem Jov (w : World) (v : Value) : Calls Tryz.prog 66 #[v, .bool false] w fun e w' => e = .returned (.int .i64 0) ∧ w' = w := by
 go_enter Tryz.func66, Tryz.ntmps66;go_wp2_with fail;go_ret;exact ⟨rfl, rfl⟩
theorem Jm6 (hL : LgIn B b d G vs P w) (h : DkX X B d D w) (hX : ∀ k, X k → k < w.heap.size) (hB : B ≤ w.heap.size) (hv : Vr w) (hF : ∀ k, LgF b vs P k → X k) (h0 : G.S ≠ []) (hsz : (lastS G).size ≤ (Dk.read (nm (lastS G).n) D).2.length) (htl : (Dk.read (nm (lastS G).n) D).2.length ≤ 10000000) :
  Calls Tryz.prog 66 #[.pointer (some ⟨b, 0, none⟩), .bool true] w (OpX X B d (mendD G D) w) := by
 obtain ⟨m, hm⟩ : ∃ m, P.length = m + 1 := ⟨P.length - 1, by have := hL.len; have := List.length_pos_iff.2 h0; omega⟩
 obtain ⟨g, o, cap, v, rfl, q1, q2, q3, q4, q5, q6⟩ := hL.lastc hm;have hrow : w.ownsRow B 3 1 v (lastS G).es.length (nats (lastS G).es) := hL.ends (lastS G, v) (List.mem_of_getElem? q5);have hlo := (Jdo hL.ok h0).1;have hfew := hL.ok.few;have hlen := hL.len;unfold Sm.fin at hlo;have hnl := Jb8 (lastS G).n (by omega);have hnl2 : (nm (lastS G).n).length ≤ 11 := by unfold nm; rw [List.length_cons]; omega
 have CL := Qh (Jch (G := G) hL.box (by omega) q1);have CN := Qh (fun W (k : Below w.heap.size w W) => Jbv (lastS G) v (by omega) W (hv.below k));have CZ := Qh (fun W (k : Below w.heap.size w W) => Jey (lastS G) v B W (Jaf hrow k) (by omega));have CD := Qh (fun W (k : Below w.heap.size w W) => Jf2 (h.below k) (nm (lastS G).n) (by omega));have CY := Qh (fun W (k : Below w.heap.size w W) => show Calls Tryz.prog 117 #[.pointer (some ⟨d, 0, none⟩), .string { data := #[108, 110, 101, 119] }, .string (S (nm (lastS G).n)), .string (S ((Dk.read (nm (lastS G).n) D).2.take (lastS G).size))] W (OpX X B d (Dk.lay nD (nm (lastS G).n) ((Dk.read (nm (lastS G).n) D).2.take (lastS G).size) D) W) from Jiy (h.below k) (fun x hx => Nat.lt_of_lt_of_le (hX x hx) k.size) (Nat.le_trans hB k.size) nD (nm (lastS G).n) _ (by decide) (by omega) (by rw [List.length_take]; omega));have HSAME := Qh (fun W (k : Below w.heap.size w W) (x : Int) => (show OpX X B d (x, D) w (.returned (.int .i64 x)) W from ⟨rfl, h.below k, Jad k⟩));have HKP := Qh (show ∀ (W W' : World) (r : Int × Dk.St) (e : Ending) (a : Addr) (u : Value), OpX X B d r W e W' → W.cell? a = some u → X a.block → W'.cell? a = some u from fun W W' r e a u ho hc hx => Jam hc ho.2.2 (fun z => z.2 hx));have Y4 := Qh (hF b (.inl rfl));have Y5 := Qh (hF g q6);have C4 := Qh hL.cell0;have C5 := Qh q3;have C6 := Qh q4;unfold mendD;clear hL h hX hB hv hF h0 hm q1 q2 q3 q4 q5 q6 hrow hlo hfew hlen hnl hnl2;generalize (Dk.read (nm (lastS G).n) D).2 = tx at *
 generalize (Dk.read (nm (lastS G).n) D).1 = er at *;generalize Dk.lay nD (nm (lastS G).n) (tx.take (lastS G).size) D = r at *;generalize S (nm (lastS G).n) = N at *;generalize (lastS G).size = Z at *;generalize (lastS G).n = sn at *;obtain ⟨R, hR⟩ : ∃ R, R = (if er ≠ 0 then (er, D) else r) := ⟨_, rfl⟩
 have HR := Qh hR;rw [← hR];clear hR;go_enter Tryz.func66, Tryz.ntmps66;go_wp2_with fail;with_reducible refine CL.o.mono ?_
 rintro e w1 ⟨rfl, hb1⟩;have HB1 := Qh hb1;have x4 := Jab C4.o hb1;have x5 := Jab C5.o hb1;have x6 := Jab C6.o hb1;clear hb1 CL;go_wp2_with fail
 go_region_held3 (fun W => W.cell? ⟨b, 0, none⟩ = some (.pointer (some ⟨d, 0, none⟩)) ∧ W.cell? ⟨g, o + m * 2, none⟩ = some (.int .i64 (sn : Nat)) ∧ W.cell? ⟨g, o + m * 2 + 1, none⟩ = some v) (go_keep) (first
  | (go_at_call 73; refine (CN.o _ (Jaa HB1.o ((Below.refl _ w1).drew))).mono ?_; rintro e w3 ⟨rfl, hb3⟩; have HB3 := Qh (Jaa (Jaa HB1.o ((Below.refl _ w1).drew)) hb3); clear hb3; have z4 := Jab C4.o HB3.o; have z5 := Jab C5.o HB3.o; have z6 := Jab C6.o HB3.o)
  | (go_at_call 107; refine (CD.o _ HB3.o).mono ?_; rintro e w4 ⟨rfl, hb4⟩; have HB4 := Qh (Jaa HB3.o hb4); clear hb4; have u4 := Jab C4.o HB4.o; have u5 := Jab C5.o HB4.o; have u6 := Jab C6.o HB4.o))
 clear z4 z5 z6 x4 x5 x6 CD;by_cases he : er = 0
 ·have HR2 := Qh (show R = r from by rw [HR.o, if_neg (by simp [he])])
  subst he;have RP := Jat (P := Tryz.prog) 9 Tryz.underlying9 tx (Z : Int) Z rfl (by omega);go_wp2_with fail;have HCD := Qh (Jaa HB4.o ((Below.refl _ w4).drew))
  go_region_held3 (fun W => W.cell? ⟨b, 0, none⟩ = some (.pointer (some ⟨d, 0, none⟩)) ∧ W.cell? ⟨g, o + m * 2, none⟩ = some (.int .i64 (sn : Nat)) ∧ W.cell? ⟨g, o + m * 2 + 1, none⟩ = some v) (go_keep) (first
   | (go_at_call 73; refine (CN.o _ HC1.o).mono ?_; rintro e w7 ⟨rfl, hb7⟩; have HC2 := Qh (Jaa HC1.o hb7); clear hb7; have p4 := Jab C4.o HC2.o; have p5 := Jab C5.o HC2.o; have p6 := Jab C6.o HC2.o)
   | (go_at_call 115; refine (CZ.o _ HC1.o).mono ?_; rintro e w7 ⟨rfl, hb7⟩; have HC2 := Qh (Jaa HC1.o hb7); clear hb7; have p4 := Jab C4.o HC2.o; have p5 := Jab C5.o HC2.o; have p6 := Jab C6.o HC2.o)
   | (go_at_call 73; refine (CN.o _ HCD.o).mono ?_; rintro e w6 ⟨rfl, hb6⟩; have HC1 := Qh (Jaa HCD.o hb6); clear hb6; have o4 := Jab C4.o HC1.o; have o5 := Jab C5.o HC1.o; have o6 := Jab C6.o HC1.o)
   | (go_at_call 115; refine (CZ.o _ HCD.o).mono ?_; rintro e w6 ⟨rfl, hb6⟩; have HC1 := Qh (Jaa HCD.o hb6); clear hb6; have o4 := Jab C4.o HC1.o; have o5 := Jab C5.o HC1.o; have o6 := Jab C6.o HC1.o)
   | (go_at_call 117; refine (CY.o _ HC2.o).mono ?_; rintro e w8 ho; have HO := Qh ho; obtain ⟨rfl, -⟩ := ho; have t4 := HKP.o _ _ _ _ _ _ HO.o p4 Y4.o; have t5 := HKP.o _ _ _ _ _ _ HO.o p5 Y5.o; have t6 := HKP.o _ _ _ _ _ _ HO.o p6 Y5.o))
  all_goals
   go_wp2_with fail;go_ret;rw [HR2.o];exact ⟨rfl, HO.o.2.1, (Jad HC2.o).trans HO.o.2.2⟩
 ·have HR2 := Qh (show R = (er, D) from by rw [HR.o, if_pos he])
  have de : (er != 0) = true := by simpa using he
  go_wp2_with fail;go_ret;rw [HR2.o];exact HSAME.o _ HB4.o er
theorem Jqa {b1 b2 : Nat} {t : Bool} {r : Int × Dk.St} (h : Calls Tryz.prog 66 #[.pointer (some ⟨b, 0, none⟩), .bool t] w (OpX X B d r w)) (c1 : w.cell? ⟨b1, 0, none⟩ = some (.pointer (some ⟨b, 0, none⟩))) (c2 : w.cell? ⟨b2, 0, none⟩ = some (.bool t)) :
  Calls Tryz.prog 65 #[.pointer (some ⟨b1, 0, none⟩), .pointer (some ⟨b2, 0, none⟩)] w (OpX X B d r w) := by
 have CM := Qh h;clear h;go_enter Tryz.func65, Tryz.ntmps65;go_wp2_with fail;with_reducible refine CM.o.mono ?_
 rintro e w1 ho;have HO := Qh ho;obtain ⟨rfl, -⟩ := ho;clear CM;go_wp2_with fail;go_ret;exact HO.o
end
end
section
open Go Go.RowKit Go.Maps
namespace Hl
def selP (n a : Nat) (pre : List (List UInt8 × Nat)) : List M.Sp := ((pre.map (·.1)).drop (a - n)).map fun b => decX (M.dec b)
def part6 (n a c : Nat) (L : List M.Sp) : List M.Sp := (L.take (c - n)).drop (a - n)
theorem selP_nil (n a : Nat) : selP n a [] = [] := by simp [selP]
theorem selP_len (n a : Nat) (pre : List (List UInt8 × Nat)) : (selP n a pre).length = pre.length - (a - n) := by simp [selP]
theorem selP_skip {n a : Nat} {pre : List (List UInt8 × Nat)} (x : List UInt8 × Nat) (h : n + pre.length < a) : selP n a (pre ++ [x]) = selP n a pre := by
 unfold selP;rw [List.map_append, List.drop_of_length_le (by simp; omega), List.drop_of_length_le (by simp; omega)]
theorem selP_take {n a : Nat} {pre : List (List UInt8 × Nat)} (x : List UInt8 × Nat) (h : a ≤ n + pre.length) : selP n a (pre ++ [x]) = selP n a pre ++ [decX (M.dec x.1)] := by
 unfold selP;rw [List.map_append, List.drop_append_of_le_length (by simp; omega)];simp
theorem recs_fst : ∀ (L : List M.Sp) (a : Nat), (recs a L).map (·.1) = L.map M.enc
 | [], _ => rfl
 | x :: L, a => by unfold recs; simp [recs_fst L]
theorem recs_len (L : List M.Sp) (a : Nat) : (recs a L).length = L.length := by
 have := congrArg List.length (recs_fst L a);simpa using this
theorem dec_map {L : List M.Sp} (h : Mays L) : (L.map M.enc).map (fun b => decX (M.dec b)) = L := by
 rw [List.map_map];conv => rhs; rw [← List.map_id L]
 refine List.map_congr_left fun x hx => ?_
 simp only [Function.comp_apply, id_eq];rw [M.dec_enc (h x hx).2 (h x hx).1];rfl
theorem sel_done {n a c : Nat} {L : List M.Sp} (h : Mays L) (hc : L = [] ∨ n + L.length ≤ c) : selP n a (recs 0 L) = part6 n a c L := by
 unfold selP part6;rw [recs_fst, List.map_drop, dec_map h];rcases hc with rfl | hc
 ·simp
 ·rw [List.take_of_length_le (by omega)]
theorem sel_stop {n a c : Nat} {L : List M.Sp} (h : Mays L) {pre : List (List UInt8 × Nat)} (hp : pre <+: recs 0 L) (h1 : c ≤ n + pre.length) (h2 : pre = [] ∨ n + pre.length ≤ c) : selP n a pre = part6 n a c L := by
 have hl : pre.length ≤ L.length := by have := hp.length_le; rwa [recs_len] at this
 have e : pre.map (·.1) = (L.take (c - n)).map M.enc := by
  have e1 : pre = (recs 0 L).take pre.length := (List.prefix_iff_eq_take.1 hp)
  have e2 : pre.length = c - n := by
   rcases h2 with rfl | h2
   ·simp at h1 ⊢; omega
   ·omega
  rw [e1, List.map_take, recs_fst, e2, List.map_take]
 unfold selP part6;rw [e, List.map_drop, dec_map (h.take _)]
theorem part6_len (n a c : Nat) (L : List M.Sp) : (part6 n a c L).length = min (c - n) L.length - (a - n) := by simp [part6]
end Hl
theorem Jm7 {w : World} {a t i j : Nat} {u v : Value} (h : w.cell? ⟨a, i, none⟩ = some u) (hne : ¬ (a = t)) : (w.setCell ⟨t, j, none⟩ v).cell? ⟨a, i, none⟩ = some u := by
 rw [← h];exact World.cell?_of_block (a := ⟨a, i, none⟩) (Below.heap_setCell _ _ _ _ hne)
section
variable {X : Nat → Prop} {B b d : Nat} {D : Dk.St} {w : World}
open Hl
theorem Jqb (h : DkX X B d D w) (hv : Vr w) {b1 b2 tb : Nat} (s : Sm) (v : Value)
  (c1 : w.cell? ⟨b1, 0, none⟩ = some (.pointer (some ⟨b, 0, none⟩))) (c2 : w.cell? ⟨b2, 0, none⟩ = some (.int .i64 (s.n : Nat))) (c3 : w.cell? ⟨b2, 1, none⟩ = some v) (c4 : w.cell? ⟨b, 0, none⟩ = some (.pointer (some ⟨d, 0, none⟩)))
  (u : List UInt8) (kt : Bk #[.string (S u)] 9 w tb) (n1 : b1 ≠ tb) (n2 : b2 ≠ tb) (n4 : b ≠ tb) (hn : s.n ≤ 1000) :
  Calls Tryz.prog 111 #[.pointer (some ⟨b1, 0, none⟩), .pointer (some ⟨b2, 0, none⟩), .pointer (some ⟨tb, 0, none⟩)] w fun e w' => e = .returned (.int .i64 (Dk.read (nm s.n) D).1) ∧ ∃ w1, Below w.heap.size w w1 ∧ w' = w1.setCell ⟨tb, 0, none⟩ (.string (S (Dk.read (nm s.n) D).2)) := by
 have CN := Qh (fun W (k : Below w.heap.size w W) => Jbv s v (by omega) W (hv.below k));have hnl : (nm s.n).length ≤ 11 := by unfold nm; rw [List.length_cons]; have := Jb8 s.n (by omega); omega
 have CD := Qh (fun W (k : Below w.heap.size w W) => Jf2 (h.below k) (nm s.n) (by omega));have C1 := Qh c1;have C2 := Qh c2;have C3 := Qh c3;have C4 := Qh c4;have KT := Qh kt;clear h hv hn hnl kt;generalize S (nm s.n) = N at *;generalize (Dk.read (nm s.n) D).2 = tx at *;generalize (Dk.read (nm s.n) D).1 = er at *;generalize s.n = sn at *;have m1 : ¬ (b1 = tb) := n1;have m2 : ¬ (b2 = tb) := n2;have m4 : ¬ (b = tb) := n4;clear n1 n2 n4;go_enter Tryz.func111, Tryz.ntmps111;go_wp2_with fail
 go_region_held3 (fun W => W.cell? ⟨b1, 0, none⟩ = some (.pointer (some ⟨b, 0, none⟩)) ∧ W.cell? ⟨b2, 0, none⟩ = some (.int .i64 (sn : Nat)) ∧ W.cell? ⟨b2, 1, none⟩ = some v ∧ W.cell? ⟨b, 0, none⟩ = some (.pointer (some ⟨d, 0, none⟩))) (first | go_keep | (refine ⟨?_, ?_, ?_, ?_⟩ <;> (first | assumption | exact Jm7 (by assumption) (by assumption)))) (first
  | (go_at_call 73; refine (CN.o _ ((Below.refl _ w).drew)).mono ?_; rintro e w3 ⟨rfl, hb3⟩; have HB3 := Qh (Jaa ((Below.refl w.heap.size w).drew) hb3); clear hb3; have z1 := Jab C1.o HB3.o; have z2 := Jab C2.o HB3.o; have z3 := Jab C3.o HB3.o; have z4 := Jab C4.o HB3.o)
  | (go_at_call 107; refine (CD.o _ HB3.o).mono ?_; rintro e w4 ⟨rfl, hb4⟩; have HB4 := Qh (Jaa HB3.o hb4); clear hb4; have x1 := Jab C1.o HB4.o; have x2 := Jab C2.o HB4.o; have x3 := Jab C3.o HB4.o; have x4 := Jab C4.o HB4.o; have xt := (KT.o.below HB4.o).cell 0; have xf := (KT.o.below HB4.o).free 0))
 go_wp2_with fail;go_ret;exact ⟨rfl, _, HB4.o, rfl⟩
end
end
end Go.Proofs.YtmammmjmipgmoaaGreatDoor
