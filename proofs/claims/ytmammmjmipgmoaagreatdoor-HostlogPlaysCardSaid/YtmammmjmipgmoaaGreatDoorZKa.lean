import Derived.Test.YtmammmjmipgmoaaGreatDoorZHt
import Derived.Test.YtmammmjmipgmoaaGreatDoorZJc
import Derived.Test.YtmammmjmipgmoaaGreatDoorZQh
set_option linter.unusedVariables false
set_option maxRecDepth 100000
set_option maxHeartbeats 16000000
namespace Go.Proofs.YtmammmjmipgmoaaGreatDoor
section
open Go Go.RowKit Go.Maps
namespace Hl
theorem dd_step (m : Nat) : Lib.decDigits m = (if m / 10 = 0 then [] else Lib.decDigits (m / 10)) ++ [UInt8.ofNat (48 + m % 10)] := by
 by_cases h : m < 10
 ·rw [Lib.decDigits_one h, if_pos (by omega), show m % 10 = m by omega]
  rfl
 ·rw [if_neg (by omega)]
  conv => lhs; rw [Lib.decDigits, dif_neg h]
def NmR (n m : Nat) (acc : List UInt8) : Prop := Lib.decDigits n = (if m = 0 then [] else Lib.decDigits m) ++ acc ∧ acc.length + (if m = 0 then 0 else 1) ≤ (Lib.decDigits n).length
theorem NmR.step {n m : Nat} {acc : List UInt8} (h : NmR n m acc) (hm : 0 < m) : NmR n (m / 10) (UInt8.ofNat (48 + m % 10) :: acc) := by
 have e : Lib.decDigits n = (if m / 10 = 0 then [] else Lib.decDigits (m / 10)) ++ (UInt8.ofNat (48 + m % 10) :: acc) := by
  have h1 := h.1;rw [if_neg (by omega), dd_step m, List.append_assoc] at h1;exact h1
 refine ⟨e, ?_⟩;rw [e, List.length_append];split
 ·simp
 ·have : 0 < (Lib.decDigits (m / 10)).length := by rw [dd_step, List.length_append]; simp
  simp only [List.length_cons];omega
theorem NmR.start (n : Nat) : NmR n (n / 10) [UInt8.ofNat (48 + n % 10)] := by
 refine ⟨dd_step n, ?_⟩;rw [dd_step n, List.length_append];split
 ·simp
 ·have : 0 < (Lib.decDigits (n / 10)).length := by rw [dd_step, List.length_append]; simp
  simp only [List.length_cons, List.length_nil];omega
theorem NmR.done {n : Nat} {acc : List UInt8} (h : NmR n 0 acc) : acc = Lib.decDigits n := by
 have := h.1;rw [if_pos rfl, List.nil_append] at this;exact this.symm
def dgv (l : List UInt8) : Nat := l.foldl (fun a b => a * 10 + (b.toNat - 48)) 0
theorem dgv_snoc (l : List UInt8) (b : UInt8) : dgv (l ++ [b]) = dgv l * 10 + (b.toNat - 48) := by unfold dgv; rw [List.foldl_append]; rfl
theorem dgv_lt {l : List UInt8} (hd : ∀ j (hj : j < l.length), 48 ≤ (l[j]).toNat ∧ (l[j]).toNat ≤ 57) : ∀ k, k ≤ l.length → dgv (l.take k) < 10 ^ k
 | 0, _ => by rw [List.take_zero]; decide
 | k + 1, hk => by
  have h1 := dgv_lt hd k (by omega);have h2 := hd k (by omega);rw [List.take_succ_eq_append_getElem (by omega), dgv_snoc, Nat.pow_succ];omega
theorem dgv_dec : ∀ n : Fin 1000, dgv (Lib.decDigits n.val) = n.val := by decide +kernel
theorem dec_dig : ∀ n : Fin 1000, (Lib.decDigits n.val).all (fun b => decide (48 ≤ b.toNat) && decide (b.toNat ≤ 57)) = true ∧ 1 ≤ (Lib.decDigits n.val).length ∧ (Lib.decDigits n.val).length ≤ 3 ∧ ((Lib.decDigits n.val).length = 1 ∨ (Lib.decDigits n.val).head? ≠ some 48) := by decide +kernel
end Hl
section
open Hl
theorem Jca (n : Nat) (hn : n ≤ 1000000000) (w : World) : Calls Tryz.prog 97 #[.int .i64 (n : Nat)] w fun e w' => e = .returned (.string (S (nm n))) ∧ Below w.heap.size w w' := by
 have kone := @Jdz Tryz.prog 116 9 5 Tryz.underlying116 Tryz.underlying5 Tryz.underlying9;have hdl := Jb8 n hn;go_enter Tryz.func97, Tryz.ntmps97;go_wp2_with fail;go_loopw [0, 3] (fun v s wr => ∃ m : Nat, ∃ acc : List UInt8, v = .int .i64 m ∧ s = .string ⟨acc.toArray⟩ ∧ NmR n m acc ∧ m ≤ 9223372036854775807 ∧ Below w.heap.size w wr) (fun v _ _ => (intOf v).toNat)
 case atStart => exact ⟨n / 10, [UInt8.ofNat (48 + n % 10)], rfl, rfl, NmR.start n, by omega, Qa _⟩
 case round =>
  obtain ⟨m, acc, rfl, rfl, hr, hm2, hb⟩ := hrel;have hl : acc.length ≤ 10 := by have := hr.2; omega
  by_cases hm : 0 < m
  ·go_wp2_with fail
   go_roundw
   case rel => exact ⟨m / 10, (48 + UInt8.ofNat (m % 10)) :: acc, rfl, rfl, by rw [show (48 : UInt8) + UInt8.ofNat (m % 10) = UInt8.ofNat (48 + m % 10) from (UInt8.ofNat_add 48 (m % 10)).symm]; exact hr.step hm, by omega, hb.alloc hb.size _⟩
   case measure => simp [intOf]; omega
  ·obtain rfl : m = 0 := by omega
   go_wp2_with fail;go_ret;exact ⟨ret_str (by rw [hr.done]; rfl), hb⟩
attribute [local go_sem ↓] run_index_S
theorem Jhx (l : List UInt8) (h1 : 1 ≤ l.length) (h2 : l.length ≤ 3) (hd : ∀ j (hj : j < l.length), 48 ≤ (l[j]).toNat ∧ (l[j]).toNat ≤ 57) (h0 : l.length = 1 ∨ l.head? ≠ some 48) (w : World) :
  Calls Tryz.prog 135 #[.string (S (108 :: l))] w fun e w' => e = .returned (.int .i64 (dgv l : Nat)) ∧ w = w' := by
 obtain ⟨s, hs⟩ : ∃ s, s = 108 :: l := ⟨_, rfl⟩
 rw [← hs];have hlen : s.length = l.length + 1 := by rw [hs]; rfl
 have b0 : B s 0 = 108 := by rw [hs]; rfl
 have HBK := Qh (show ∀ j (hj : j < l.length), B s (j + 1) = ((l[j]).toNat : Int) from fun j hj => by rw [B_at s (j + 1) (by omega)]; simp only [hs, List.getElem_cons_succ])
 have b1 : s.length = 2 ∨ (B s 1 == 48) = false := by
  rcases h0 with h0 | h0
  ·exact .inl (by omega)
  ·right
   cases l with
   | nil => simp at h1
   | cons x l =>
    have := HBK.o 0 (by simp);simp only [Nat.zero_add, List.getElem_cons_zero] at this;rw [this];have hx : x ≠ 48 := fun e => h0 (by rw [e]; rfl)
    have : ¬ ((x.toNat : Int) = 48) := fun e => hx (UInt8.toNat_inj.1 (by simpa using (by omega : x.toNat = 48)))
    simpa using this
 have d1 : decide ((s.length : Int) < 2) = false := by simp; omega
 have d2 : decide (10 < (s.length : Int)) = false := by simp; omega
 have i1 : (1 : Int) < (s.length : Int) := by omega
 have i0 : (0 : Int) < (s.length : Int) := by omega
 have HL := Qh hlen;have HD := Qh hd;have HST := Qh (show 2 ≤ s.length ∧ s.length ≤ 4 from by omega);have HZ := Qh (show dgv (l.take (1 - 1)) = 0 from rfl)
 have key : ∀ (dd : decide (2 < (s.length : Int)) = false ∨ (decide (2 < (s.length : Int)) = true ∧ (B s 1 == 48) = false)), Calls Tryz.prog 135 #[.string (S s)] w fun e w' => e = .returned (.int .i64 (dgv l : Nat)) ∧ w = w' := by
  clear b1 hlen hd h0 h1 h2 hs;rintro (dd | ⟨dd, db⟩)
  all_goals
   go_enter Tryz.func135, Tryz.ntmps135;go_wp2_with fail;go_loop [3, 4] (fun nv i => ∃ k : Nat, 1 ≤ k ∧ k ≤ s.length ∧ i = .int .i64 k ∧ nv = .int .i64 (dgv (l.take (k - 1)) : Nat)) (fun _ i => s.length - (intOf i).toNat)
   case atStart => exact ⟨1, Nat.le_refl _, by have := HST.o; omega, rfl, rfl⟩
   case round =>
    obtain ⟨k, hk1, hk, rfl, rfl⟩ := hrel;by_cases hlt : k < s.length
    ·have e1 : decide ((k : Int) < (s.length : Int)) = true := by simp; omega
     have e1' : decide (k < s.length) = true := by simpa using hlt
     obtain ⟨j, rfl⟩ : ∃ j, k = j + 1 := ⟨k - 1, by omega⟩
     have hjl : j < l.length := by have := HL.o; omega
     have hx := HBK.o j hjl;have hr := HD.o j hjl;have HN := Qh (show dgv (l.take (j + 1)) = dgv (l.take j) * 10 + ((l[j]).toNat - 48) from by rw [List.take_succ_eq_append_getElem hjl, dgv_snoc])
     have hsm : dgv (l.take j) ≤ 99 := by
      have h1 := dgv_lt HD.o j (by omega);have h2 : (10 : Nat) ^ j ≤ 10 ^ 2 := Nat.pow_le_pow_right (by decide) (by have := HL.o; have := HST.o; omega);have h3 : (10 : Nat) ^ 2 = 100 := rfl;omega
     obtain ⟨a, ha⟩ : ∃ a, a = dgv (l.take j) := ⟨_, rfl⟩
     obtain ⟨a', ha'⟩ : ∃ a', a' = dgv (l.take (j + 1)) := ⟨_, rfl⟩
     rw [Nat.add_sub_cancel, ← ha];rw [← ha, ← ha'] at HN;rw [← ha] at hsm;obtain ⟨kk, hkk⟩ : ∃ kk, kk = j + 1 := ⟨_, rfl⟩
     rw [← hkk] at hx e1 e1' hlt hk hk1 ⊢;generalize (l[j]).toNat = x at *;have HA := Qh (show dgv (l.take (kk + 1 - 1)) = a' from by rw [Nat.add_sub_cancel, hkk]; exact ha'.symm);clear ha ha';have t1 : decide ((x : Int) < 48) = false := by simp; omega
     have t1' : decide (x < 48) = false := by simp; omega
     have t2 : decide (57 < (x : Int)) = false := by simp; omega
     have t2' : decide (57 < x) = false := by simp; omega
     have v1 : IntKind.u8.wrap ((x : Int) - 48) = (x : Int) - 48 := by
      have : ((x : Int) - 48) = ((x - 48 : Nat) : Int) := by omega
      rw [this];exact IntWalk.u8_in _ (by omega)
     have v2 : IntKind.i64.wrap ((x : Int) - 48) = (x : Int) - 48 := IntWalk.i64_in _ (by omega);have v3 : IntKind.i64.wrap ((a : Int) * 10) = (a : Int) * 10 := IntWalk.i64_in _ (by omega);have v4 : IntKind.i64.wrap ((a : Int) * 10 + ((x : Int) - 48)) = (a' : Int) := by rw [IntWalk.i64_in _ (by omega)]; have := HN.o; omega
     have hki1 : (0 : Int) ≤ (kk : Int) := by omega
     have hki2 : (kk : Int) < (s.length : Int) := by omega
     have hwk : IntKind.i64.wrap ((kk : Int) + 1) = (kk : Int) + 1 := IntWalk.i64_in _ (by have := HST.o; omega);have hs4 : s.length ≤ 4 := HST.o.2;clear hkk hr hjl;go_wp2_with fail;go_round
     case rel => exact ⟨kk + 1, by omega, hlt, by go_num, by rw [HA.o]⟩
     case measure => simp [intOf]; omega
    ·obtain rfl : k = s.length := by omega
     have e1 : decide ((s.length : Int) < (s.length : Int)) = false := by simp
     have HF := Qh (show l.take (s.length - 1) = l from List.take_of_length_le (by have := HL.o; omega));rw [HF.o];go_wp2_with fail;go_ret;exact ⟨rfl, rfl⟩
 refine key ?_;rcases b1 with b1 | b1
 ·exact .inl (by simp; omega)
 ·by_cases h : 2 < s.length
  ·exact .inr ⟨by simp; omega, b1⟩
  ·exact .inl (by simp; omega)
theorem Jja (w : World) : Calls Tryz.prog 135 #[.string (S nD)] w fun e w' => e = .returned (.int .i64 (-1)) ∧ w = w' := by
 have b0 : B nD 0 = 108 := rfl;have b1 : B nD 1 = 110 := rfl;have hl : ((nD.length : Nat) : Int) = 4 := rfl;go_enter Tryz.func135, Tryz.ntmps135;go_wp2_with fail;go_loop [3, 4] (fun nv i => i = .int .i64 1 ∧ nv = .int .i64 0) (fun _ i => 0)
 case atStart => exact ⟨rfl, rfl⟩
 case round =>
  obtain ⟨rfl, rfl⟩ := hrel;go_wp2_with fail;go_ret;exact ⟨rfl, rfl⟩
end
end
section
open Go Go.RowKit Go.Maps
section
open Hl
structure DcIn (B r q : Nat) (c : Rc) (vs : Value) (D : Dk.St) (G : Hl.Lg) (w : World) : Prop where
 disk : RfIn B r c D w
 box : Bk #[.pointer (some ⟨r, 0, none⟩), vs, .int .i64 (G.st : Nat), .bool G.over] 121 w q
 row : Ofr B 3 1 vs G.S.length (nats (G.S.map (·.n))) w
 ap : ∀ k, (k = q ∨ vs.ownBlock = some k) → ¬ Fr r c k
 bq : B ≤ q
 br : B ≤ r
 few : G.S.length ≤ 1000
def DcF (r q : Nat) (c : Rc) (vs : Value) (k : Nat) : Prop := Fr r c k ∨ k = q ∨ vs.ownBlock = some k
variable {B r q : Nat} {c : Rc} {vs : Value} {D : Dk.St} {G : Hl.Lg} {w w' : World} {A : Nat → Prop}
theorem DcIn.wr (h : DcIn B r q c vs D G w) (hw : Wr A w w') (hA : ∀ k, DcF r q c vs k → ¬ A k) : DcIn B r q c vs D G w' :=
 ⟨h.disk.wr hw (fun k hk => hA k (.inl hk)), h.box.wr hw (hA q (.inr (.inl rfl))), h.row.wr hw (fun k hk => hA k (.inr (.inr hk))), h.ap, h.bq, h.br, h.few⟩
theorem DcIn.below (h : DcIn B r q c vs D G w) (hb : Below w.heap.size w w') : DcIn B r q c vs D G w' := h.wr (A := fun _ => False) (Jad hb) (fun _ _ z => z)
theorem DcIn.lt (h : DcIn B r q c vs D G w) : ∀ k, DcF r q c vs k → B ≤ k ∧ k < w.heap.size := by
 rintro k (hk | rfl | hk)
 ·obtain ⟨h1, h2⟩ := h.disk.fr k hk
  refine ⟨?_, h2⟩;rcases h1 with rfl | h1
  ·exact h.br
  ·exact h1
 ·exact ⟨h.bq, h.box.lt⟩
 ·exact h.row.lt k hk
theorem Jdq (h : DcIn B r q c vs D G w) (n : Nat) (hn : n ≤ 1000000000) : Calls Tryz.prog 89 #[.pointer (some ⟨q, 0, none⟩), .int .i64 (n : Nat)] w fun e w' => e = .returned (.string (S (Dk.get (nm n) D.L).dat)) ∧ Below w.heap.size w w' := by
 have CN := Qh (fun W => Jca n hn W);have CA := Qh (show ∀ W, Below w.heap.size w W → Calls Tryz.prog 91 #[.pointer (some ⟨r, 0, none⟩), .string (S (nm n))] W (AtR5 (nm n) D.L W) from fun W k => rAt5 (h.disk.below k) (nm n));have HH := Qh (fun W (k : Below w.heap.size w W) => h.below k)
 have HG := Qh (show ∀ k (hk : k < D.L.length), (D.L[k]).name = nm n → Dk.get (nm n) D.L = D.L[k] from fun k hk he => by
  have := Dk.get_of h.disk.ok.ne (List.getElem_mem hk);rw [he] at this
  exact this)
 have HG0 := Qh (show Dk.has (nm n) D.L = false → Dk.get (nm n) D.L = Dk.fl0 from fun e => Dk.get_none e);have x0 : w.cell? ⟨q, 0, none⟩ = some (.pointer (some ⟨r, 0, none⟩)) := h.box.cell 0;clear h;generalize hN : nm n = N at *;clear hN;go_enter Tryz.func89, Tryz.ntmps89;go_wp2_with fail
 go_region_held3 (fun W => W.cell? ⟨q, 0, none⟩ = some (.pointer (some ⟨r, 0, none⟩))) (go_keep) (first
  | (go_at_call 97; refine (CN.o _).mono ?_; rintro e w3 ⟨rfl, hb3⟩; have HB3 := Qh (Jaa ((Below.refl w.heap.size w).drew) hb3); clear hb3; have z0 := (HH.o _ HB3.o).box.cell 0)
  | (go_at_call 91; refine (CA.o _ HB3.o).mono ?_; rintro e w4 ⟨ho, rfl⟩; have HO := Qh ho; obtain ⟨v4, rfl, hv4⟩ : ∃ v : Value, e = .returned v ∧ ((v = .int .i64 (-1) ∧ Dk.has N D.L = false) ∨ ∃ k, ∃ h : k < D.L.length, (D.L[k]'h).name = N ∧ v = .int .i64 (k : Nat)) := (by rcases ho with ⟨a1, a2⟩ | ⟨k, hk, a1, a2⟩; exact ⟨_, a2, .inl ⟨rfl, a1⟩⟩; exact ⟨_, a2, .inr ⟨k, hk, a1, rfl⟩⟩); have HV4 := Qh hv4; clear ho hv4))
 rcases HV4.o with ⟨rfl, hno⟩ | ⟨k, hk, hkn, rfl⟩
 ·have HG2 := Qh (HG0.o hno)
  go_wp2_with fail;go_ret;exact ⟨by rw [HG2.o]; rfl, HB3.o⟩
 ·have HG2 := Qh (show D.L[k].dat = (Dk.get N D.L).dat from by rw [HG.o k hk hkn])
  have hd := HH.o _ HB3.o;obtain ⟨-, -, -, -, x4, -, -⟩ := hd.disk.s;obtain ⟨g, hga, -, y1, -⟩ := Ja4 hd.disk.row rfl hk;rw [hga] at x4;have hi1 : (0 : Int) ≤ (k : Int) := by omega
  have hi2 : (k : Int) < (D.L.length : Int) := by omega
  have d4 : decide ((k : Int) < 0) = false := by simp
  rw [HG2.o] at y1;clear hd hkn HO HV4 hga HG HG0;go_wp2_with fail;go_ret;exact ⟨rfl, HB3.o⟩
theorem Jc6 (h : DcIn B r q c vs D G w) (n : Nat) (hn : n ≤ 1000000000) (hl : (Dk.get (nm n) D.L).dat.length ≤ 1000000) : Calls Tryz.prog 98 #[.pointer (some ⟨q, 0, none⟩), .int .i64 (n : Nat)] w fun e w' => e = .returned (.int .i64 ((M.wh (Dk.get (nm n) D.L).dat 0).1.length : Nat)) ∧ Below w.heap.size w w' := by
 have CD := Qh (Jdq h n hn);have CW := Qh (fun W => Jcn (Dk.get (nm n) D.L).dat hl W);clear h hl;generalize (Dk.get (nm n) D.L).dat = dt at *;generalize (M.wh dt 0).2 = en at *;generalize (M.wh dt 0).1 = rs at *;go_enter Tryz.func98, Tryz.ntmps98;go_wp2_with fail;with_reducible refine CD.o.mono ?_
 rintro e w1 ⟨rfl, hb⟩;have HB := Qh hb;clear hb CD;go_wp2_with fail;with_reducible refine (CW.o _).mono ?_
 rintro e w2 ⟨v, rfl, hr, hb⟩;obtain ⟨ao, cp, rfl⟩ := Jac hr;replace HB := Qh (Jaa HB.o hb);clear hb hr CW;go_wp2_with fail;go_ret;exact ⟨rfl, HB.o⟩
end
end
section
open Go Go.RowKit Go.Maps
section
open Hl
variable {B r q : Nat} {c c' : Rc} {vs vs' : Value} {D D' : Dk.St} {G G' : Hl.Lg} {w w' w1 : World} {v v' : Value} {e e' : Ending}
def OpD (B r q : Nat) (c : Rc) (vs v : Value) (D' : Dk.St) (G' : Hl.Lg) (w : World) (e : Ending) (w' : World) : Prop :=
 e = .returned v ∧ ∃ c' vs', DcIn B r q c' vs' D' G' w' ∧ (∀ k, DcF r q c' vs' k → DcF r q c vs k ∨ w.heap.size ≤ k) ∧ Wr (DcF r q c vs) w w'
theorem OpD.pre (hb : Below w.heap.size w w1) (h : OpD B r q c vs v D' G' w1 e w') : OpD B r q c vs v D' G' w e w' := by
 obtain ⟨h0, c1, vs1, h1, h2, h3⟩ := h;refine ⟨h0, c1, vs1, h1, fun b hb2 => ?_, (Jad hb).trans h3⟩;rcases h2 b hb2 with z | z
 ·exact .inl z
 ·exact .inr (Nat.le_trans hb.size z)
theorem OpI.dc (h : DcIn B r q c vs D G w) (ho : OpI B r c v D' w e w') : OpD B r q c vs v D' G w e w' := by
 obtain ⟨h0, c1, h1, h2, h3⟩ := ho;refine ⟨h0, c1, vs, ⟨h1, h.box.wr h3 (h.ap q (.inl rfl)), h.row.wr h3 (fun k hk => h.ap k (.inr hk)), fun k hk hf => ?_, h.bq, h.br, h.few⟩, fun k hk => ?_, h3.mono (fun x hx => .inl (.inl hx))⟩
 ·rcases h2 k hf with z | z
  ·exact h.ap k hk z
  ·have := (h.lt k (hk.elim (fun e => .inr (.inl e)) (fun e => .inr (.inr e)))).2
   omega
 ·rcases hk with z | z
  ·exact (h2 k z).imp .inl id
  ·exact .inl (.inr z)
theorem Jbl (h : DcIn B r q c vs D G w) (hb : Below w.heap.size w w') : OpD B r q c vs v D G w (.returned v) w' := ⟨rfl, c, vs, h.below hb, fun k hk => .inl hk, Jad hb⟩
theorem DcIn.set3 (h : DcIn B r q c vs D G w) (o : Bool) : DcIn B r q c vs D { G with over := o } (w.setCell ⟨q, 3, none⟩ (.bool o)) := by
 have hw : Wr (fun k => k = q) w (w.setCell ⟨q, 3, none⟩ (.bool o)) := Jai _ _ _ rfl;refine ⟨h.disk.wr hw (fun k hk e => h.ap k (.inl e) hk), h.box.set 3 (.bool o), h.row.wr hw (fun k hk e => ?_), h.ap, h.bq, h.br, h.few⟩;exact h.row.ne h.box (by decide) k hk e
theorem DcIn.lastc (h : DcIn B r q c vs D G w) {m : Nat} (hm : G.S.length = m + 1) : ∃ g o cap, vs = .slice (some ⟨g, o, none⟩) (m + 1) cap ∧ m + 1 ≤ cap ∧ cap ≤ maxLen ∧ ∀ j (hj : j < G.S.length), w.cell? ⟨g, o + j, none⟩ = some (.int .i64 ((G.S[j]).n : Nat)) := by
 obtain ⟨g, o, cap, hv, h1, h2, h3, h4, h5, h6⟩ := h.row.shape (by omega);rw [hm] at hv h1;refine ⟨g, o, cap, hv, h1, h2, fun j hj => ?_⟩;rw [h3 j (by omega)];unfold nats;rw [List.getElem?_map, List.getElem?_map, List.getElem?_eq_getElem hj];rfl
theorem Jgu {m : Nat} (hm : G.S.length = m + 1) : G.S[m]'(by omega) = lastS G := by
 unfold lastS;have e : G.S.length - 1 = m := by omega
 rw [List.getLast?_eq_getElem?];simp only [e];rw [List.getElem?_eq_getElem (by omega)];rfl
theorem Jbc (h : DcIn B r q c vs D G w) : Calls Tryz.prog 94 #[.pointer (some ⟨q, 0, none⟩)] w fun e w' => e = .returned (.bool (decide (Hl.state D G ≠ 0))) ∧ Below w.heap.size w w' := by
 have x0 : w.cell? ⟨q, 0, none⟩ = some (.pointer (some ⟨r, 0, none⟩)) := h.box.cell 0;have x2 : w.cell? ⟨q, 2, none⟩ = some (.int .i64 (G.st : Nat)) := h.box.cell 2;have x3 : w.cell? ⟨q, 3, none⟩ = some (.bool G.over) := h.box.cell 3;obtain ⟨-, y1, y2, -, -, -, -⟩ := h.disk.s;clear h;cases ho : G.over with
 | true =>
  have hs : decide (Hl.state D G ≠ 0) = true := by unfold Hl.state; rw [if_pos (.inl ho)]; decide
  rw [hs];rw [ho] at x3;clear hs ho;go_enter Tryz.func94, Tryz.ntmps94;go_wp2_with fail;go_region
  go_wp2_with fail;go_ret;exact ⟨rfl, (Below.refl _ _).drew⟩
 | false =>
  rw [ho] at x3;cases hu : D.up with
  | false =>
   have hs : decide (Hl.state D G ≠ 0) = true := by unfold Hl.state; rw [if_pos (.inr (.inl hu))]; decide
   rw [hs];rw [hu] at y2;simp only [Bool.not_false] at y2;clear hs ho hu;go_enter Tryz.func94, Tryz.ntmps94;go_wp2_with fail;go_region
   go_wp2_with fail;go_ret;exact ⟨rfl, (Below.refl _ _).drew⟩
  | true =>
   rw [hu] at y2;simp only [Bool.not_true] at y2;by_cases he : D.starts = G.st
   ·have hs : decide (Hl.state D G ≠ 0) = false := by unfold Hl.state; rw [if_neg (by rw [ho, hu]; simp [he])]; decide
    rw [hs];rw [he] at y1;have t1 : ((G.st : Int) != (G.st : Int)) = false := by simp
    clear hs ho hu he;go_enter Tryz.func94, Tryz.ntmps94;go_wp2_with fail;go_region
    go_wp2_with fail;go_ret;exact ⟨rfl, (Below.refl _ _).drew⟩
   ·have hs : decide (Hl.state D G ≠ 0) = true := by unfold Hl.state; rw [if_pos (.inr (.inr he))]; decide
    rw [hs];have t1 : ((D.starts : Int) != (G.st : Int)) = true := by simp; omega
    generalize D.starts = ds at *;generalize G.st = gs at *;clear hs ho hu he;go_enter Tryz.func94, Tryz.ntmps94;go_wp2_with fail;go_region
    go_wp2_with fail;go_ret;exact ⟨rfl, (Below.refl _ _).drew⟩
def TolR6 (G : Hl.Lg) (er : Int) (q : Nat) (w : World) (e : Ending) (w' : World) : Prop := e = .returned (.int .i64 er) ∧ ((w' = w ∧ G.hold er = G) ∨ (w' = w.setCell ⟨q, 3, none⟩ (.bool true) ∧ G.hold er = { G with over := true }))
theorem TolR6.dc {er : Int} (h : TolR6 G er q w e w') (hd : DcIn B r q c vs D G w) : DcIn B r q c vs D (G.hold er) w' ∧ Wr (fun k => k = q) w w' := by
 obtain ⟨_, ⟨rfl, hg⟩ | ⟨rfl, hg⟩⟩ := h
 ·rw [hg]
  exact ⟨hd, Wr.refl _ _⟩
 ·rw [hg]
  exact ⟨hd.set3 true, Jai _ _ _ rfl⟩
theorem Jdr (h : DcIn B r q c vs D G w) (er : Int) : Calls Tryz.prog 95 #[.pointer (some ⟨q, 0, none⟩), .int .i64 er] w (TolR6 G er q w) := by
 have f3 := h.box.free 3;have y3 : w.cell? ⟨q, 3, none⟩ = some (.bool G.over) := h.box.cell 3;clear h;by_cases h0 : er = 0
 ·subst h0
  have HG := Qh (hold_zero G);clear f3 y3;go_enter Tryz.func95, Tryz.ntmps95;go_wp2_with fail;go_ret;exact ⟨rfl, .inl ⟨rfl, HG.o⟩⟩
 by_cases h5 : er = 50
 ·subst h5
  have HG := Qh (show G.hold 50 = G from by cases G; simp [Lg.hold]);clear f3 y3;go_enter Tryz.func95, Tryz.ntmps95;go_wp2_with fail;go_ret;exact ⟨rfl, .inl ⟨rfl, HG.o⟩⟩
 have t0 : (er != 0) = true := by simpa using h0
 have t5 : (er != 50) = true := by simpa using h5
 have HG := Qh (show G.hold er = { G with over := true } from by cases G; simp [Lg.hold, t0, t5]);clear h0 h5;go_enter Tryz.func95, Tryz.ntmps95;go_wp2_with fail;go_ret;exact ⟨rfl, .inr ⟨rfl, HG.o⟩⟩
theorem DcIn.s3 {g o m cap : Nat} (h : DcIn B r q c (.slice (some ⟨g, o, none⟩) (m + 1) cap) D G w) (hm : G.S.length = m + 1) : w.cell? ⟨q, 0, none⟩ = some (.pointer (some ⟨r, 0, none⟩)) ∧ w.cell? ⟨q, 1, none⟩ = some (.slice (some ⟨g, o, none⟩) (m + 1) cap) ∧ w.cell? ⟨g, o + m, none⟩ = some (.int .i64 ((lastS G).n : Nat)) := by
 obtain ⟨g', o', cap', e, _, _, hj⟩ := h.lastc hm;injection e with e _ _
 injection e with e
 injection e with e1 e2
 subst e1; subst e2;refine ⟨h.box.cell 0, h.box.cell 1, ?_⟩;rw [← Jgu hm];exact hj m (by omega)
theorem OpD.lift {c1 : Rc} {vs1 : Value} (hf : ∀ k, DcF r q c1 vs1 k → DcF r q c vs k ∨ w.heap.size ≤ k) (hw : Wr (DcF r q c vs) w w1) (h : OpD B r q c1 vs1 v D' G' w1 e w') : OpD B r q c vs v D' G' w e w' := by
 obtain ⟨q0, c2, vs2, q1, q2, q3⟩ := h;refine ⟨q0, c2, vs2, q1, fun b hb => ?_, hw.step q3 (fun x hx => hf x hx)⟩;rcases q2 b hb with z | z
 ·exact hf b z
 ·exact .inr (Nat.le_trans hw.size z)
def OpJ (B r q : Nat) (c : Rc) (vs v : Value) (D' : Dk.St) (G : Hl.Lg) (w : World) (e : Ending) (w' : World) : Prop :=
 e = .returned v ∧ ∃ c', DcIn B r q c' vs D' G w' ∧ (∀ k, DcF r q c' vs k → DcF r q c vs k ∨ w.heap.size ≤ k) ∧ Wr (DcF r q c vs) w w'
theorem OpI.dj (h : DcIn B r q c vs D G w) (ho : OpI B r c v D' w e w') : OpJ B r q c vs v D' G w e w' := by
 obtain ⟨h0, c1, h1, h2, h3⟩ := ho;refine ⟨h0, c1, ⟨h1, h.box.wr h3 (h.ap q (.inl rfl)), h.row.wr h3 (fun k hk => h.ap k (.inr hk)), fun k hk hf => ?_, h.bq, h.br, h.few⟩, fun k hk => ?_, h3.mono (fun x hx => .inl (.inl hx))⟩
 ·rcases h2 k hf with z | z
  ·exact h.ap k hk z
  ·have := (h.lt k (hk.elim (fun e => .inr (.inl e)) (fun e => .inr (.inr e)))).2
   omega
 ·rcases hk with z | z
  ·exact (h2 k z).imp .inl id
  ·exact .inl (.inr z)
theorem Jc0 {er : Int} {w2 : World} {e2 : Ending} (hb : Below w.heap.size w w1) (h : OpJ B r q c vs (.int .i64 er) D' G w1 e w2) (ht : TolR6 G er q w2 e2 w') : OpD B r q c vs (.int .i64 er) D' (G.hold er) w e2 w' := by
 obtain ⟨_, c1, h1, h2, h3⟩ := h;obtain ⟨d1, d2⟩ := ht.dc h1;refine ⟨ht.1, c1, vs, d1, fun k hk => ?_, ((Jad hb).trans h3).trans (d2.mono (fun x hx => .inl (.inr (.inl hx))))⟩;rcases h2 k hk with z | z
 ·exact .inl z
 ·exact .inr (Nat.le_trans hb.size z)
theorem Jhi (h : DcIn B r q c vs D G w) : Calls Tryz.prog 51 #[.pointer (some ⟨q, 0, none⟩)] w fun e w' => e = .returned (.int .i64 (firstL D G : Nat)) ∧ Below w.heap.size w w' := by
 have CO := Qh (Jbc h);have HH := Qh (fun W (k : Below w.heap.size w W) => h.below k);have hvs := h.row.val;by_cases hs : Hl.state D G = 0
 ·have hf : firstL D G = (G.S.head?.getD ⟨0, []⟩).n := if_pos hs
  rw [hf];rw [decide_eq_false (by simp [hs])] at CO;by_cases h0 : G.S.length = 0
  ·have hn : G.S = [] := List.length_eq_zero_iff.1 h0
   obtain ⟨ao, cap, rfl, -, -⟩ := hvs;rw [show (G.S.head?.getD ⟨0, []⟩).n = 0 from by rw [hn]; rfl];clear h hf hs hn;go_enter Tryz.func51, Tryz.ntmps51;go_wp2_with fail;with_reducible refine CO.o.mono ?_
   rintro e w1 ⟨rfl, hb⟩;have x1 : w1.cell? ⟨q, 1, none⟩ = some (.slice ao G.S.length cap) := (HH.o _ hb).box.cell 1;rw [h0] at x1;have HB := Qh hb;clear hb CO;go_wp2_with fail;go_ret;exact ⟨rfl, HB.o⟩
  ·obtain ⟨m, hm⟩ : ∃ m, G.S.length = m + 1 := ⟨G.S.length - 1, by omega⟩
   obtain ⟨g, o, cap, rfl, hc1, hc2, -⟩ := h.lastc hm
   have HC := Qh (show ∀ W, Below w.heap.size w W → W.cell? ⟨g, o, none⟩ = some (.int .i64 ((G.S.head?.getD ⟨0, []⟩).n : Nat)) from fun W k => by
    obtain ⟨g', o', cap', e, _, _, hj⟩ := (h.below k).lastc hm;injection e with e _ _
    injection e with e
    injection e with e1 e2
    subst e1; subst e2;rw [List.head?_eq_getElem?, List.getElem?_eq_getElem (by omega)]
    exact hj 0 (by omega))
   generalize (G.S.head?.getD ⟨0, []⟩).n = fn at *;clear h hf hs h0 hvs;go_enter Tryz.func51, Tryz.ntmps51;go_wp2_with fail;with_reducible refine CO.o.mono ?_
   rintro e w1 ⟨rfl, hb⟩;have x1 : w1.cell? ⟨q, 1, none⟩ = some (.slice (some ⟨g, o, none⟩) (m + 1) cap) := (HH.o _ hb).box.cell 1;have x2 := HC.o _ hb;have HB := Qh hb;clear hb CO;obtain ⟨m1, hm1⟩ : ∃ m1, m1 = m + 1 := ⟨_, rfl⟩
   rw [← hm1] at x1 hc1;have hp : (0 : Int) < (m1 : Int) := by omega
   have t1 : ((m1 : Int) == 0) = false := by simp; omega
   clear hm1;go_wp2_with fail;go_ret;exact ⟨rfl, HB.o⟩
 ·have hf : firstL D G = 0 := if_neg hs
  rw [hf];rw [decide_eq_true hs] at CO;clear h hf hs hvs;go_enter Tryz.func51, Tryz.ntmps51;go_wp2_with fail;with_reducible refine CO.o.mono ?_
  rintro e w1 ⟨rfl, hb⟩;have HB := Qh hb;clear hb CO;go_wp2_with fail;go_ret;exact ⟨rfl, HB.o⟩
theorem Jjb (h : DcIn B r q c vs D G w) : Calls Tryz.prog 54 #[.pointer (some ⟨q, 0, none⟩)] w fun e w' => e = .returned (.int .i64 (segmentsL D G : Nat)) ∧ Below w.heap.size w w' := by
 have CO := Qh (Jbc h);have HH := Qh (fun W (k : Below w.heap.size w W) => h.below k);by_cases hs : Hl.state D G = 0
 ·have hf : segmentsL D G = G.S.length := if_pos hs
  rw [hf];rw [decide_eq_false (by simp [hs])] at CO;obtain ⟨ao, cap, rfl, -, -⟩ := h.row.val;clear h hf hs;go_enter Tryz.func54, Tryz.ntmps54;go_wp2_with fail;with_reducible refine CO.o.mono ?_
  rintro e w1 ⟨rfl, hb⟩;have x1 : w1.cell? ⟨q, 1, none⟩ = some (.slice ao G.S.length cap) := (HH.o _ hb).box.cell 1;have HB := Qh hb;clear hb CO;go_wp2_with fail;go_ret;exact ⟨rfl, HB.o⟩
 ·have hf : segmentsL D G = 0 := if_neg hs
  rw [hf];rw [decide_eq_true hs] at CO;clear h hf hs;go_enter Tryz.func54, Tryz.ntmps54;go_wp2_with fail;with_reducible refine CO.o.mono ?_
  rintro e w1 ⟨rfl, hb⟩;have HB := Qh hb;clear hb CO;go_wp2_with fail;go_ret;exact ⟨rfl, HB.o⟩
structure RcOk (D : Dk.St) (G : Hl.Lg) : Prop where
 rec_ : ∀ s ∈ G.S, (M.wh (Dk.get (nm s.n) D.L).dat 0).1.length = s.es.length ∧ (Dk.get (nm s.n) D.L).dat.length ≤ 1000000 ∧ s.n + s.es.length ≤ 1000
theorem RcOk.last (h : RcOk D G) (hn : G.S ≠ []) : (M.wh (Dk.get (nm (lastS G).n) D.L).dat 0).1.length = (lastS G).es.length ∧ (Dk.get (nm (lastS G).n) D.L).dat.length ≤ 1000000 ∧ (lastS G).n + (lastS G).es.length ≤ 1000 := by
 obtain ⟨m, hm⟩ : ∃ m, G.S.length = m + 1 := ⟨G.S.length - 1, by have := List.length_pos_iff.2 hn; omega⟩
 rw [← Jgu hm];exact h.rec_ _ (List.getElem_mem _)
theorem Hl.Lv.rcok {F : Nat} {Z : List Hl.Sg} (h : Hl.Lv F Z G D) : RcOk D G := ⟨fun s hs => by
 rw [h.gs] at hs;obtain ⟨z, hz, rfl⟩ := List.mem_map.1 hs;obtain ⟨tl, q1, q2, q3, q4⟩ := h.rd z hz
 have hd : (Dk.get (nm z.n) D.L).dat = dat z.L ++ tl := by
  unfold Dk.read at q1;rw [if_neg (by rw [h.up]; simp)] at q1;split at q1
  ·simp at q1
  ·exact (Prod.mk.inj q1).2
 have h1 := wh_rec q3 z.L [] q2;rw [List.nil_append, List.length_nil] at h1;have h2 := dat_most q2;have h3 := q3.2;have h4 := (h.hz.load h.up).small z hz;show (M.wh (Dk.get (nm z.n) D.L).dat 0).1.length = (ends z.L).length ∧ (Dk.get (nm z.n) D.L).dat.length ≤ 1000000 ∧ z.n + (ends z.L).length ≤ 1000
 rw [hd, h1, ends_len, List.length_map, List.length_append]
 exact ⟨rfl, by omega, by omega⟩⟩
theorem Jkt (h : DcIn B r q c vs D G w) (hr : Hl.state D G = 0 → RcOk D G) : Calls Tryz.prog 53 #[.pointer (some ⟨q, 0, none⟩)] w fun e w' => e = .returned (.int .i64 (endL D G : Nat)) ∧ Below w.heap.size w w' := by
 have CO := Qh (Jbc h);have HH := Qh (fun W (k : Below w.heap.size w W) => h.below k);by_cases hs : Hl.state D G = 0
 ·have hf : endL D G = endN G := if_pos hs
  rw [hf];rw [decide_eq_false (by simp [hs])] at CO;by_cases h0 : G.S.length = 0
  ·have hn : G.S = [] := List.length_eq_zero_iff.1 h0
   obtain ⟨ao, cap, rfl, -, -⟩ := h.row.val;rw [show endN G = 0 from by unfold endN; rw [if_pos hn]];clear h hf hs hn hr;go_enter Tryz.func53, Tryz.ntmps53;go_wp2_with fail;with_reducible refine CO.o.mono ?_
   rintro e w1 ⟨rfl, hb⟩;have x1 : w1.cell? ⟨q, 1, none⟩ = some (.slice ao G.S.length cap) := (HH.o _ hb).box.cell 1;rw [h0] at x1;have HB := Qh hb;clear hb CO;go_wp2_with fail;go_ret;exact ⟨rfl, HB.o⟩
  ·obtain ⟨m, hm⟩ : ∃ m, G.S.length = m + 1 := ⟨G.S.length - 1, by omega⟩
   obtain ⟨g, o, cap, rfl, hc1, hc2, -⟩ := h.lastc hm;have hne : G.S ≠ [] := fun e => by rw [e] at h0; exact h0 rfl
   have HC := Qh (show ∀ W, Below w.heap.size w W → W.cell? ⟨g, o + m, none⟩ = some (.int .i64 ((lastS G).n : Nat)) from fun W k => by
    obtain ⟨g', o', cap', e, _, _, hj⟩ := (h.below k).lastc hm;injection e with e _ _
    injection e with e
    injection e with e1 e2
    subst e1; subst e2;rw [← Jgu hm]
    exact hj m (by omega))
   obtain ⟨r1, r2, r3⟩ := (hr hs).last hne
   have CR := Qh (show ∀ W, Below w.heap.size w W → Calls Tryz.prog 98 #[.pointer (some ⟨q, 0, none⟩), .int .i64 ((lastS G).n : Nat)] W fun e w' => e = .returned (.int .i64 ((lastS G).es.length : Nat)) ∧ Below W.heap.size W w' from fun W k => by
    have := Jc6 (h.below k) (lastS G).n (by omega) r2;rw [r1] at this
    exact this)
   obtain ⟨en, hen⟩ : ∃ en, en = endN G := ⟨_, rfl⟩
   have hen2 : (lastS G).n + (lastS G).es.length = en := by rw [hen, Jhf hne]; rfl
   rw [← hen];have hw : IntKind.i64.wrap (((lastS G).n : Int) + ((lastS G).es.length : Int)) = (en : Int) := by rw [IntWalk.i64_in _ (by omega)]; omega
   generalize (lastS G).n = ln at *;generalize (lastS G).es.length = el at *;have hm63 : m + 1 ≤ 1000 := by have := h.few; omega
   clear h hf hs h0 hr hne r1 r2 hen hen2;go_enter Tryz.func53, Tryz.ntmps53;go_wp2_with fail;with_reducible refine CO.o.mono ?_
   rintro e w1 ⟨rfl, hb⟩;have x1 : w1.cell? ⟨q, 1, none⟩ = some (.slice (some ⟨g, o, none⟩) (m + 1) cap) := (HH.o _ hb).box.cell 1;have x2 := HC.o _ hb;have HB := Qh hb;clear hb CO;obtain ⟨m1, hm1⟩ : ∃ m1, m1 = m + 1 := ⟨_, rfl⟩
   rw [← hm1] at x1 hc1 hm63;have hmm : IntKind.i64.wrap ((m1 : Int) - 1) = (m : Int) := by rw [IntWalk.i64_in _ (by omega)]; omega
   have hi1 : (0 : Int) ≤ (m : Int) := by omega
   have hi2 : (m : Int) < (m1 : Int) := by omega
   have t1 : ((m1 : Int) == 0) = false := by simp; omega
   clear hm1;go_wp2_with fail;go_region
   go_wp2_with fail;replace HB := Qh (HB.o.drew);with_reducible refine (CR.o _ HB.o).mono ?_
   rintro e w2 ⟨rfl, hb⟩;replace HB := Qh (Jaa HB.o hb);clear hb CR x1 x2;go_wp2_with fail;go_ret;exact ⟨rfl, HB.o⟩
 ·have hf : endL D G = 0 := if_neg hs
  rw [hf];rw [decide_eq_true hs] at CO;clear h hf hs hr;go_enter Tryz.func53, Tryz.ntmps53;go_wp2_with fail;with_reducible refine CO.o.mono ?_
  rintro e w1 ⟨rfl, hb⟩;have HB := Qh hb;clear hb CO;go_wp2_with fail;go_ret;exact ⟨rfl, HB.o⟩
end
end
section
open Go Go.RowKit Go.Maps
section
open Hl
variable {B r q : Nat} {c c' : Rc} {vs vs' : Value} {D D' : Dk.St} {G G' : Hl.Lg} {w w' w1 : World} {v v' : Value} {e e' : Ending}
theorem Jo3 (h : DcIn B r q c vs D G w) (hO : Dk.Ok D) (hr : Hl.state D G = 0 → RcOk D G) : Calls Tryz.prog 42 #[.pointer (some ⟨q, 0, none⟩)] w (OpD B r q c vs (.int .i64 (Hl.sync G D).1) (Hl.sync G D).2.1 (Hl.sync G D).2.2 w) := by
 have CO := Qh (Jbc h);have HH := Qh (fun W (k : Below w.heap.size w W) => h.below k);by_cases hs : Hl.state D G = 0
 ·have he : Hl.sync G D = ((syncL G D).1, (syncL G D).2, G.hold (syncL G D).1) := if_neg (by simp [hs])
  rw [he];rw [decide_eq_false (by simp [hs])] at CO;by_cases h0 : G.S.length = 0
  ·have hn : G.S = [] := List.length_eq_zero_iff.1 h0
   obtain ⟨ao, cap, rfl, -, -⟩ := h.row.val;rw [show syncL G D = (0, D) from by unfold syncL; rw [if_pos hn], hold_zero];have HS := Qh (fun W (k : Below w.heap.size w W) => Jbl (v := .int .i64 0) h k);clear h he hs hn hr hO;go_enter Tryz.func42, Tryz.ntmps42;go_wp2_with fail;with_reducible refine CO.o.mono ?_
   rintro e w1 ⟨rfl, hb⟩;have x1 : w1.cell? ⟨q, 1, none⟩ = some (.slice ao G.S.length cap) := (HH.o _ hb).box.cell 1;rw [h0] at x1;have HB := Qh hb;clear hb CO;go_wp2_with fail;go_ret;exact HS.o _ HB.o
  ·obtain ⟨m, hm⟩ : ∃ m, G.S.length = m + 1 := ⟨G.S.length - 1, by omega⟩
   have hne : G.S ≠ [] := fun e => by rw [e] at h0; exact h0 rfl
   obtain ⟨g, o, cap, rfl, hc1, hc2, -⟩ := h.lastc hm;obtain ⟨r1, r2, r3⟩ := (hr hs).last hne;rw [show syncL G D = Dk.sync (nm (lastS G).n) D from by unfold syncL; rw [if_neg hne]]
   have HSC := Qh (fun c' D' G' W (k : DcIn B r q c' (.slice (some ⟨g, o, none⟩) (m + 1) cap) D' G' W) (e : G'.S = G.S) => by
    have := k.s3 (by rw [e]; exact hm);rw [show lastS G' = lastS G from by unfold lastS; rw [e]] at this
    exact this)
   have CN := Qh (fun W => Jca (lastS G).n (by omega) W)
   have CY := Qh (show ∀ W, Below w.heap.size w W → Calls Tryz.prog 96 #[.pointer (some ⟨r, 0, none⟩), .string (S (nm (lastS G).n))] W (OpJ B r q c (.slice (some ⟨g, o, none⟩) (m + 1) cap) (.int .i64 (Dk.sync (nm (lastS G).n) D).1) (Dk.sync (nm (lastS G).n) D).2 G W) from fun W k =>
    (Ji1 (h.below k).disk (nm (lastS G).n) hO.n hO.k).mono fun e w' ho => OpI.dj (h.below k) ho)
   have CT := Qh (show ∀ c' W, DcIn B r q c' (.slice (some ⟨g, o, none⟩) (m + 1) cap) (Dk.sync (nm (lastS G).n) D).2 G W → Calls Tryz.prog 95 #[.pointer (some ⟨q, 0, none⟩), .int .i64 (Dk.sync (nm (lastS G).n) D).1] W (TolR6 G (Dk.sync (nm (lastS G).n) D).1 q W) from fun c' W k => Jdr k _);generalize nm (lastS G).n = N at *;generalize Dk.sync N D = rr at *;obtain ⟨ln, hln⟩ : ∃ ln, ln = (lastS G).n := ⟨_, rfl⟩
   rw [← hln] at HSC CN;have hm63 : m + 1 ≤ 1000 := by have := h.few; omega
   have hmm : IntKind.i64.wrap (((m + 1 : Nat) : Int) - 1) = (m : Int) := by rw [IntWalk.i64_in _ (by omega)]; omega
   have hi1 : (0 : Int) ≤ (m : Int) := by omega
   have hi2 : (m : Int) < ((m + 1 : Nat) : Int) := by omega
   have t1 : ((((m + 1 : Nat) : Int)) == 0) = false := by simp; omega
   clear h he hs h0 hr hne r1 r2 r3 hln hO hm;generalize m + 1 = m1 at *;go_enter Tryz.func42, Tryz.ntmps42;go_wp2_with fail;with_reducible refine CO.o.mono ?_
   rintro e w1 ⟨rfl, hb⟩;obtain ⟨x0, x1, x2⟩ := HSC.o _ _ _ _ (HH.o _ hb) rfl;have HB := Qh hb;clear hb CO;go_wp2_with fail
   go_region_held3 (fun W => W.cell? ⟨q, 0, none⟩ = some (.pointer (some ⟨r, 0, none⟩)) ∧ W.cell? ⟨q, 1, none⟩ = some (.slice (some ⟨g, o, none⟩) m1 cap) ∧ W.cell? ⟨g, o + m, none⟩ = some (.int .i64 (ln : Nat))) (go_keep) (first
    | (go_at_call 97; refine (CN.o _).mono ?_; rintro e w3 ⟨rfl, hb3⟩; have HB3 := Qh (Jaa HB.o (Jaa ((Below.refl w1.heap.size w1).drew) hb3)); clear hb3; obtain ⟨z0, z1, z2⟩ := HSC.o _ _ _ _ (HH.o _ HB3.o) rfl)
    | (go_at_call 96; refine (CY.o _ HB3.o).mono ?_; rintro e w4 ho; have HO := Qh ho; obtain ⟨rfl, c4, hd4, -, -⟩ := ho; have HD4 := Qh hd4; clear hd4; obtain ⟨y0, y1, y2⟩ := HSC.o _ _ _ _ HD4.o rfl)
    | (go_at_call 95; refine (CT.o _ _ HD4.o).mono ?_; rintro e w5 ht; have HT := Qh ht; obtain ⟨hd5, -⟩ := ht.dc HD4.o; obtain ⟨rfl, -⟩ := ht; obtain ⟨u0, u1, u2⟩ := HSC.o _ _ _ _ hd5 rfl; clear hd5))
   go_wp2_with fail;go_ret;exact Jc0 HB3.o HO.o HT.o
 ·have he : Hl.sync G D = (Hl.state D G, D, G) := if_pos hs
  rw [he]
  have h51 : Hl.state D G = 51 := by
   unfold Hl.state at hs ⊢;split at hs
   ·rw [if_pos (by assumption)]
   ·exact absurd rfl hs
  rw [h51];rw [decide_eq_true hs] at CO;have HS := Qh (fun W (k : Below w.heap.size w W) => Jbl (v := .int .i64 51) h k);clear h he hs h51 hr hO;go_enter Tryz.func42, Tryz.ntmps42;go_wp2_with fail;with_reducible refine CO.o.mono ?_
  rintro e w1 ⟨rfl, hb⟩;have HB := Qh hb;clear hb CO;go_wp2_with fail;go_ret;exact HS.o _ HB.o
end
end
section
open Go Go.RowKit Go.Maps
namespace Dk
theorem sync_okd {D : St} (h : Ok D) (nm : List UInt8) : Ok (sync nm D).2 := by
 unfold sync;split
 ·exact h
 split
 ·exact h
 ·rename_i h1 h2
  have h3 := struck_ok5 h;cases hs : (struck D).1 with
  | true => simp only [hs, if_true]; exact h3
  | false =>
   simp only [hs, Bool.false_eq_true, if_false];obtain ⟨k1, k2⟩ := struck_keep hs;have hh : has nm D.L = true := by simpa using h2
   have hm := get_mem hh;have := put_ok5 (f := ⟨nm, (get nm D.L).dat, (get nm D.L).dat.length⟩) h3 (by have := h.l.named _ hm.1; rw [hm.2] at this; exact this) (Nat.le_refl _) (.inl (by rw [k1]; exact hh)) (by rw [k1, k2]; simp only; have := h.room; omega);rw [k1] at this;exact this
end Dk
section
open Hl
variable {B r q : Nat} {c c' : Rc} {vs vs' : Value} {D D' : Dk.St} {G G' : Hl.Lg} {w w' w1 : World} {v v' : Value} {e e' : Ending}
theorem DcIn.pushd {s : Hl.Sm} (h : DcIn B r q c vs D G w) (hf : G.S.length < 1000) (ho : Ofr B 3 1 v' (G.S.length + 1) (nats (G.S.map (·.n)) ++ [.int .i64 (s.n : Nat)]) w1) (hw : Wr (fun k => vs.ownBlock = some k) w w1) (hv : ∀ k, v'.ownBlock = some k → vs.ownBlock = some k ∨ w.heap.size ≤ k) :
  OpD B r q c vs v D (G.push s) w (.returned v) (w1.setCell ⟨q, 1, none⟩ v') := by
 have hvq : ∀ k, vs.ownBlock = some k → k ≠ q := h.row.ne h.box (by decide);have hset : Wr (fun k => k = q) w1 (w1.setCell ⟨q, 1, none⟩ v') := Jai _ _ _ rfl;have hbk := h.box.wr hw (fun e => hvq q e rfl);have hd := h.disk.wr hw (fun k hk e => h.ap k (.inr e) hk);refine ⟨rfl, c, v', ⟨hd.wr hset (fun k hk e => h.ap k (.inl e) hk), hbk.set 1 v', ?_, fun k hk hfr => ?_, h.bq, h.br, ?_⟩, fun k hk => ?_, ?_⟩
 ·have hl : (G.push s).S.length = G.S.length + 1 := by unfold Lg.push; simp
  have hm : nats ((G.push s).S.map (·.n)) = nats (G.S.map (·.n)) ++ [.int .i64 (s.n : Nat)] := by unfold Lg.push nats; simp
  rw [hl, hm];exact ho.wr hset (fun k hk => ho.ne hbk (by decide) k hk)
 ·rcases hk with hk | hk
  ·exact h.ap k (.inl hk) hfr
  ·rcases hv k hk with z | z
   ·exact h.ap k (.inr z) hfr
   ·have := (h.disk.fr k hfr).2
    omega
 ·unfold Lg.push
  simp only [List.length_append, List.length_singleton];omega
 ·rcases hk with z | z | z
  ·exact .inl (.inl z)
  ·exact .inl (.inr (.inl z))
  ·exact (hv k z).imp (fun y => .inr (.inr y)) id
 ·exact (hw.mono (A' := DcF r q c vs) (fun x hx => .inl (.inr (.inr hx)))).trans (hset.mono (fun x hx => .inl (.inr (.inl hx))))
theorem Jjc : (Tryz.prog.info? 3).map (fun i => (i.zero, i.size, i.bytes)) = some (some (.int .i64 0), 1, 8) := by kernel_rfl
theorem Jjd (h : DcIn B r q c vs D G w) (hO : Dk.Ok D) (hB : B ≤ w.heap.size) (hs : Hl.state D G = 0) (hr : RcOk D G) (f : List UInt8) (hf : f.length ≤ 100000) (es : List Nat) (hen : endN G ≤ 890) (hfew : G.S.length < 1000) :
  Calls Tryz.prog 99 #[.pointer (some ⟨q, 0, none⟩), .string (S f)] w (OpD B r q c vs (.int .i64 (begin6 G f es D).1) (begin6 G f es D).2.1 (begin6 G f es D).2.2 w) := by
 have CE := Qh (show Calls Tryz.prog 53 #[.pointer (some ⟨q, 0, none⟩)] w fun e w' => e = .returned (.int .i64 (endN G : Nat)) ∧ Below w.heap.size w w' from by
  have := Jkt h (fun _ => hr);rw [show endL D G = endN G from if_pos hs] at this
  exact this)
 have HH := Qh (fun W (k : Below w.heap.size w W) => h.below k);obtain ⟨i0, hi0, hz0, hz1, hz2⟩ := info_parts Jjc
 have HBG := Qh (show begin6 G f es D = ((Dk.next_ (syncL G D) (Dk.append (nm (endN G)) f)).1, (Dk.next_ (syncL G D) (Dk.append (nm (endN G)) f)).2, if (Dk.next_ (syncL G D) (Dk.append (nm (endN G)) f)).1 = 0 then G.push ⟨endN G, es⟩ else G.hold (Dk.next_ (syncL G D) (Dk.append (nm (endN G)) f)).1) from by
  have : ∀ a : Int × Dk.St, Dk.next_ a (Dk.run [Dk.append (nm (endN G)) f]) = Dk.next_ a (Dk.append (nm (endN G)) f) := fun a => by
   unfold Dk.next_;rw [Jcd]
  unfold begin6;show ((Dk.next_ (syncL G D) (Dk.run [Dk.append (nm (endN G)) f])).1, (Dk.next_ (syncL G D) (Dk.run [Dk.append (nm (endN G)) f])).2, if (Dk.next_ (syncL G D) (Dk.run [Dk.append (nm (endN G)) f])).1 = 0 then G.push ⟨endN G, es⟩ else G.hold (Dk.next_ (syncL G D) (Dk.run [Dk.append (nm (endN G)) f])).1) = _
  rw [this])
 rw [HBG.o];clear HBG;obtain ⟨en, hEN⟩ : ∃ en, en = endN G := ⟨_, rfl⟩
 rw [← hEN] at CE hen ⊢;clear hEN;obtain ⟨fin, hfin⟩ : ∃ y, y = Dk.next_ (syncL G D) (Dk.append (nm en) f) := ⟨_, rfl⟩
 rw [← hfin];obtain ⟨PG, hPG⟩ : ∃ y, y = if fin.1 = 0 then G.push ⟨en, es⟩ else G.hold fin.1 := ⟨_, rfl⟩
 rw [← hPG];have HPG := Qh hPG;clear hPG;have CN2 := Qh (fun W => Jca en (by omega) W);have hnl : (nm en).length ≤ 100 := by have := Jd4 (n := en) (by omega); omega
 have HFE := Qh (show f.length ≤ 100000 ∧ (nm en).length ≤ 100 from ⟨hf, hnl⟩);have ten : decide (999999999 < (en : Int)) = false := by simp; omega
 have ten' : decide (999999999 < en) = false := by simp; omega
 have HST := Qh (show ∀ (c' : Rc) (vs' : Value) (DX : Dk.St) (W : World) (k : DcIn B r q c' vs' DX G W) (hOX : Dk.Ok DX) (hBW : B ≤ W.heap.size), Calls Tryz.prog 102 #[.pointer (some ⟨r, 0, none⟩), .string (S (nm en)), .string (S f)] W (OpJ B r q c' vs' (.int .i64 (Dk.append (nm en) f DX).1) (Dk.append (nm en) f DX).2 G W) from fun c' vs' DX W k hOX hBW =>
  (Jfp k.disk hBW (nm en) f (by omega) (by omega) hOX.most hOX.n hOX.k).mono fun e w' ho => OpI.dj k ho)
 have HTO := Qh (show ∀ (c' : Rc) (vs' : Value) (DX : Dk.St) (W : World) (k : DcIn B r q c' vs' DX G W) (er : Int), Calls Tryz.prog 95 #[.pointer (some ⟨q, 0, none⟩), .int .i64 er] W (TolR6 G er q W) from fun c' vs' DX W k er => Jdr k er);clear hf hnl hen;by_cases h0 : G.S.length = 0
 ·have hn : G.S = [] := List.length_eq_zero_iff.1 h0
  obtain ⟨av, cap, rfl, -, -⟩ := h.row.val;have HAF := Qh (show fin = Dk.append (nm en) f D from by rw [hfin, show syncL G D = (0, D) from by unfold syncL; rw [if_pos hn], Dk.next_zero]);clear hfin;have HLI := Qh (show ∀ W, Below w.heap.size w W → (∀ k, DcF r q c (.slice av G.S.length cap) k → DcF r q c (.slice av G.S.length cap) k ∨ w.heap.size ≤ k) ∧ Wr (DcF r q c (.slice av G.S.length cap)) w W from fun W k => ⟨fun x hx => .inl hx, Jad k⟩);have HOX := Qh hO;have HBB := Qh hB;obtain ⟨ns, hns⟩ : ∃ ns, ns = G.S.length := ⟨_, rfl⟩
  have HNS := Qh (show G.S.length = ns ∧ ns < 1000 from ⟨hns.symm, by omega⟩);rw [← hns] at HH HLI ⊢;have hz : ns = 0 := by omega
  clear h hs hr hO hB hn h0 hfew hns;go_enter Tryz.func99, Tryz.ntmps99;go_wp2_with fail;with_reducible refine CE.o.mono ?_
  rintro e w5 ⟨rfl, hb⟩;have HD := Qh (HH.o _ hb);have HFR := Qh (HLI.o _ hb);have HB5 := Qh (show B ≤ w5.heap.size from Nat.le_trans HBB.o hb.size);clear hb CE HH HLI HBB;have x1 : w5.cell? ⟨q, 1, none⟩ = some (.slice av ns cap) := HD.o.box.cell 1;rw [hz] at x1;clear hz;obtain ⟨cX, hcX⟩ : ∃ cX, cX = c := ⟨_, rfl⟩
  rw [← hcX] at HD;rw [show DcF r q c (.slice av ns cap) = DcF r q c (.slice av ns cap) from rfl] at HFR;have HFX := Qh (show (∀ k, DcF r q cX (.slice av ns cap) k → DcF r q c (.slice av ns cap) k ∨ w.heap.size ≤ k) ∧ Wr (DcF r q c (.slice av ns cap)) w w5 from by rw [hcX]; exact HFR.o);clear HFR hcX;obtain ⟨DX, rfl⟩ : ∃ y, y = D := ⟨_, rfl⟩
  go_wp2_with fail;clear x1;have HNM := Qh (fun W (k : Below w5.heap.size w5 W) => HD.o.below k);have CY := Qh (fun W (k : Below w5.heap.size w5 W) => HST.o cX (.slice av ns cap) DX W (HD.o.below k) HOX.o (Nat.le_trans HB5.o k.size));rw [← HAF.o] at CY;obtain ⟨N, hN⟩ : ∃ N, N = nm en := ⟨_, rfl⟩
  rw [← hN] at CN2 CY HFE;have x0 : w5.cell? ⟨q, 0, none⟩ = some (.pointer (some ⟨r, 0, none⟩)) := HD.o.box.cell 0;have x1 : w5.cell? ⟨q, 1, none⟩ = some (.slice av ns cap) := HD.o.box.cell 1;clear hN HST HAF
  go_region_held3 (fun W => W.cell? ⟨q, 0, none⟩ = some (.pointer (some ⟨r, 0, none⟩)) ∧ W.cell? ⟨q, 1, none⟩ = some (.slice av ns cap)) (go_keep) (first
   | (go_at_call 97; refine (CN2.o _).mono ?_; rintro e w3 ⟨rfl, hb3⟩; have HB3 := Qh (Jaa ((Below.refl w5.heap.size w5).drew) hb3); clear hb3; have z0 := (HNM.o _ HB3.o).box.cell 0; have z1 := (HNM.o _ HB3.o).box.cell 1)
   | (go_at_call 102; refine (CY.o _ HB3.o).mono ?_; rintro e w4 ho; have HO4 := Qh ho; obtain ⟨rfl, c4, hd4, hf4, hw4⟩ := ho; have HD4 := Qh hd4; have HF4 := Qh hf4; have HW4 := Qh hw4; clear hf4 hw4; have y0 := hd4.box.cell 0; have y1 := hd4.box.cell 1; clear hd4)
   | (go_at_call 95; refine (HTO.o _ _ _ _ HD4.o _).mono ?_; rintro e w7 ht; have HT := Qh ht; obtain ⟨hd5, hw5⟩ := ht.dc HD4.o; have HW5 := Qh hw5; clear hw5; obtain ⟨rfl, -⟩ := ht; have u0 := hd5.box.cell 0; have u1 := hd5.box.cell 1; have HD5 := Qh hd5; clear hd5))
  have HQ := Qh (Jc0 HB3.o HO4.o HT.o);clear CY HTO HNM CN2 x0 x1;by_cases ha0 : fin.1 = 0
  ·have HPG1 := Qh (show PG = G.push ⟨en, es⟩ from by rw [HPG.o, if_pos ha0])
   have HG0 := Qh (show G.hold fin.1 = G from by rw [ha0]; exact hold_zero G);have HD7 := Qh (show DcIn B r q c4 (.slice av ns cap) fin.2 G w7 from by have := HD5.o; rw [HG0.o] at this; exact this)
   have HW7 := Qh (show Wr (DcF r q cX (.slice av ns cap)) w5 w7 ∧ (∀ k, DcF r q c4 (.slice av ns cap) k → DcF r q cX (.slice av ns cap) k ∨ w5.heap.size ≤ k) from
    ⟨((Jad HB3.o).trans HW4.o).trans (HW5.o.mono (fun x hx => .inl (.inr (.inl hx)))), fun k hk => (HF4.o k hk).imp id (fun z => Nat.le_trans HB3.o.size z)⟩)
   have hB7 : B ≤ w7.heap.size := Nat.le_trans HB5.o HW7.o.1.size;have F1 := Qh (show w7.cell? ⟨q, 1, none⟩ = some (.slice av ns cap) from HD7.o.box.cell 1);have HR := Qh HD7.o.row;rw [HNS.o.1] at HR;have NE1 := Qh (show ¬ (Value.slice av ns cap).ownBlock = some q from fun e => HD7.o.row.ne HD7.o.box (by decide) q e rfl);have FZ := Qh (show ∀ (wa wb : World), Below w7.heap.size w7 wa → Wr (fun k => (Value.slice av ns cap).ownBlock = some k) wa wb → wb.frozen? ⟨q, 1, none⟩ = false from fun wa wb ha hb => ((HD7.o.box.below ha).wr hb (fun e => NE1.o e)).free 1);have hn9 := HNS.o.2;rw [ha0];replace HB5 := Qh hB7;clear HD4 HO4 HT HD5 HQ HB3 hB7;have hkb := Jae #[.int .i64 (en : Nat)] 3 w7;have HBA := Qh ((Below.refl w7.heap.size w7).alloc (Nat.le_refl _) (.cells #[.int .i64 (en : Nat)] 3));have HKB := Qh hkb;clear hkb z0 z1 y0 y1 u0 u1;go_wp2_with (at_builtin; go_loud (refine Jc8 rfl _ _ 40 rfl i0 (.int .i64 0) 8 Tryz.underlying40 hi0 hz0 hz1 hz2 rfl (by decide) (by rfl) (HR.o.below HBA.o) ⟨w7.heap.size, 0, none⟩ 1 1 [.int .i64 (en : Nat)] (by rfl) rfl (fun j u hu => by rw [Addr.add_lit, Nat.zero_add, HKB.o.cell]; simpa using hu) (fun u hu => by simp only [List.mem_cons, List.not_mem_nil, or_false] at hu; rcases hu with rfl; rfl) (by unfold maxLen; omega) (by omega) (Nat.le_trans HB5.o HBA.o.size) ?_; intro v13 w13 ho13 hw13 hv13; obtain ⟨a13, c13, rfl, -, -⟩ := ho13.val; have HO3 := Qh ho13; have HW13 := Qh hw13; have HV := Qh hv13; have x4 : w13.cell? ⟨q, 1, none⟩ = some (.slice av ns cap) := Jam (Jab F1.o HBA.o) hw13 NE1.o; have f9 : w13.frozen? ⟨q, 1, none⟩ = false := FZ.o _ w13 HBA.o HW13.o; clear ho13 hw13 hv13))
   go_ret;rw [HPG1.o];have HPU := Qh (DcIn.pushd (v := .int .i64 0) (s := ⟨en, es⟩) (HD7.o.below HBA.o) (by rw [HNS.o.1]; exact hn9) (by rw [HNS.o.1]; exact HO3.o) HW13.o HV.o);exact OpD.lift HFX.o.1 HFX.o.2 (OpD.lift (fun k hk => HW7.o.2 k hk) HW7.o.1 (OpD.pre HBA.o (by obtain ⟨_, p⟩ := HPU.o; exact ⟨by rw [ha0]; rfl, p⟩)))
  ·have HPG1 := Qh (show PG = G.hold fin.1 from by rw [HPG.o, if_neg ha0])
   have ta : (fin.1 == 0) = false := by simpa using ha0
   go_wp2_with fail;go_ret;rw [HPG1.o];exact OpD.lift HFX.o.1 HFX.o.2 HQ.o
 ·obtain ⟨m, hm⟩ : ∃ m, G.S.length = m + 1 := ⟨G.S.length - 1, by omega⟩
  have hne : G.S ≠ [] := fun e => by rw [e] at h0; exact h0 rfl
  obtain ⟨g, o, cap, rfl, hc1, hc2, -⟩ := h.lastc hm;obtain ⟨r1, r2, r3⟩ := hr.last hne;rw [show syncL G D = Dk.sync (nm (lastS G).n) D from by unfold syncL; rw [if_neg hne]] at hfin;have HOS := Qh (Dk.sync_okd hO (nm (lastS G).n))
  have HSC := Qh (fun c' D' G' W (k : DcIn B r q c' (.slice (some ⟨g, o, none⟩) (m + 1) cap) D' G' W) (e : G'.S = G.S) => by
   have := k.s3 (by rw [e]; exact hm);rw [show lastS G' = lastS G from by unfold lastS; rw [e]] at this
   exact this)
  have CN := Qh (fun W => Jca (lastS G).n (by omega) W)
  have CY := Qh (show ∀ W, Below w.heap.size w W → Calls Tryz.prog 96 #[.pointer (some ⟨r, 0, none⟩), .string (S (nm (lastS G).n))] W (OpJ B r q c (.slice (some ⟨g, o, none⟩) (m + 1) cap) (.int .i64 (Dk.sync (nm (lastS G).n) D).1) (Dk.sync (nm (lastS G).n) D).2 G W) from fun W k =>
   (Ji1 (h.below k).disk (nm (lastS G).n) hO.n hO.k).mono fun e w' ho => OpI.dj (h.below k) ho)
  have CT := Qh (show ∀ c' W, DcIn B r q c' (.slice (some ⟨g, o, none⟩) (m + 1) cap) (Dk.sync (nm (lastS G).n) D).2 G W → Calls Tryz.prog 95 #[.pointer (some ⟨q, 0, none⟩), .int .i64 (Dk.sync (nm (lastS G).n) D).1] W (TolR6 G (Dk.sync (nm (lastS G).n) D).1 q W) from fun c' W k => Jdr k _);have HBB := Qh hB;generalize nm (lastS G).n = N1 at *;generalize Dk.sync N1 D = rr at *;have HFI := Qh hfin;obtain ⟨ln, hln⟩ : ∃ ln, ln = (lastS G).n := ⟨_, rfl⟩
  rw [← hln] at HSC CN;have hm63 : m + 1 ≤ 1000 := by have := h.few; omega
  have hmm : IntKind.i64.wrap (((m + 1 : Nat) : Int) - 1) = (m : Int) := by rw [IntWalk.i64_in _ (by omega)]; omega
  have hi1 : (0 : Int) ≤ (m : Int) := by omega
  have hi2 : (m : Int) < ((m + 1 : Nat) : Int) := by omega
  have t1 : decide (0 < (((m + 1 : Nat) : Int))) = true := decide_eq_true (by omega);have HNS := Qh (show G.S.length = m + 1 ∧ m + 1 < 1000 from ⟨hm, by omega⟩);clear h hs h0 hr hne r1 r2 r3 hln hO hm hB hfin hfew;generalize m + 1 = m1 at *;go_enter Tryz.func99, Tryz.ntmps99;go_wp2_with fail;with_reducible refine CE.o.mono ?_
  rintro e w1 ⟨rfl, hb⟩;obtain ⟨x0, x1, x2⟩ := HSC.o _ _ _ _ (HH.o _ hb) rfl;have HB := Qh hb;clear hb CE;go_wp2_with fail
  go_region_held3 (fun W => W.cell? ⟨q, 0, none⟩ = some (.pointer (some ⟨r, 0, none⟩)) ∧ W.cell? ⟨q, 1, none⟩ = some (.slice (some ⟨g, o, none⟩) m1 cap) ∧ W.cell? ⟨g, o + m, none⟩ = some (.int .i64 (ln : Nat))) (go_keep) (first
   | (go_at_call 97; refine (CN.o _).mono ?_; rintro e w3 ⟨rfl, hb3⟩; have HB3 := Qh (Jaa HB.o (Jaa ((Below.refl w1.heap.size w1).drew) hb3)); clear hb3; obtain ⟨z0, z1, z2⟩ := HSC.o _ _ _ _ (HH.o _ HB3.o) rfl)
   | (go_at_call 96; refine (CY.o _ HB3.o).mono ?_; rintro e w4 ho; have HO := Qh ho; obtain ⟨rfl, c4, hd4, hf4, hw4⟩ := ho; have HD4 := Qh hd4; have HF4 := Qh hf4; have HW4 := Qh hw4; clear hd4 hf4 hw4; obtain ⟨y0, y1, y2⟩ := HSC.o _ _ _ _ HD4.o rfl)
   | (go_at_call 95; refine (CT.o _ _ HD4.o).mono ?_; rintro e w5 ht; have HT := Qh ht; obtain ⟨hd5, hw5⟩ := ht.dc HD4.o; obtain ⟨rfl, -⟩ := ht; obtain ⟨u0, u1, u2⟩ := HSC.o _ _ _ _ hd5 rfl; have HD5 := Qh hd5; have HW5 := Qh hw5; clear hd5 hw5))
  have HQ0 := Qh (Jc0 HB3.o HO.o HT.o);clear x0 x1 x2 z0 z1 z2 y0 y1 y2 u0 u1 u2;by_cases hr0 : rr.1 = 0
  rotate_left
  ·have HAF := Qh (show fin = rr from by rw [HFI.o, Dk.next_no hr0])
   have HPG1 := Qh (show PG = G.hold rr.1 from by rw [HPG.o, HAF.o, if_neg hr0]);have ta : (rr.1 != 0) = true := by simpa using hr0
   go_wp2_with fail;go_ret;rw [HPG1.o, HAF.o];exact HQ0.o
  have HAF := Qh (show fin = Dk.append (nm en) f rr.2 from by rw [HFI.o, Dk.next_ok hr0]);have HG0 := Qh (show G.hold rr.1 = G from by rw [hr0]; exact hold_zero G);have HD := Qh (show DcIn B r q c4 (.slice (some ⟨g, o, none⟩) m1 cap) rr.2 G w5 from by have := HD5.o; rw [HG0.o] at this; exact this)
  have HFX := Qh (show (∀ k, DcF r q c4 (.slice (some ⟨g, o, none⟩) m1 cap) k → DcF r q c (.slice (some ⟨g, o, none⟩) m1 cap) k ∨ w.heap.size ≤ k) ∧ Wr (DcF r q c (.slice (some ⟨g, o, none⟩) m1 cap)) w w5 from
   ⟨fun k hk => (HF4.o k hk).imp id (fun z => Nat.le_trans HB3.o.size z), ((Jad HB3.o).trans HW4.o).trans (HW5.o.mono (fun x hx => .inl (.inr (.inl hx))))⟩)
  have HB5 := Qh (show B ≤ w5.heap.size from Nat.le_trans HBB.o HFX.o.2.size);have HOX := HOS;obtain ⟨cX, hcX⟩ : ∃ cX, cX = c4 := ⟨_, rfl⟩
  rw [← hcX] at HD HFX;obtain ⟨DX, hDX⟩ : ∃ y, y = rr.2 := ⟨_, rfl⟩
  rw [← hDX] at HD HOX HAF;rw [hr0];clear hcX hDX HQ0 HO HT HD4 HD5 HF4 HW4 HW5 HB3 HG0 CN CY CT HSC HB HBB HH HFI HOS hmm hi1 hi2;clear c4 w4 w3;go_wp2_with fail;have HNM := Qh (fun W (k : Below w5.heap.size w5 W) => HD.o.below k);have CY := Qh (fun W (k : Below w5.heap.size w5 W) => HST.o cX (.slice (some ⟨g, o, none⟩) m1 cap) DX W (HD.o.below k) HOX.o (Nat.le_trans HB5.o k.size));rw [← HAF.o] at CY;obtain ⟨N, hN⟩ : ∃ N, N = nm en := ⟨_, rfl⟩
  rw [← hN] at CN2 CY HFE;have x0 : w5.cell? ⟨q, 0, none⟩ = some (.pointer (some ⟨r, 0, none⟩)) := HD.o.box.cell 0;have x1 : w5.cell? ⟨q, 1, none⟩ = some (.slice (some ⟨g, o, none⟩) m1 cap) := HD.o.box.cell 1;clear hN HST HAF
  go_region_held3 (fun W => W.cell? ⟨q, 0, none⟩ = some (.pointer (some ⟨r, 0, none⟩)) ∧ W.cell? ⟨q, 1, none⟩ = some (.slice (some ⟨g, o, none⟩) m1 cap)) (go_keep) (first
   | (go_at_call 97; refine (CN2.o _).mono ?_; rintro e w3 ⟨rfl, hb3⟩; have HB3 := Qh (Jaa ((Below.refl w5.heap.size w5).drew) hb3); clear hb3; have z0 := (HNM.o _ HB3.o).box.cell 0; have z1 := (HNM.o _ HB3.o).box.cell 1)
   | (go_at_call 102; refine (CY.o _ HB3.o).mono ?_; rintro e w4 ho; have HO4 := Qh ho; obtain ⟨rfl, c4, hd4, hf4, hw4⟩ := ho; have HD4 := Qh hd4; have HF4 := Qh hf4; have HW4 := Qh hw4; clear hf4 hw4; have y0 := hd4.box.cell 0; have y1 := hd4.box.cell 1; clear hd4)
   | (go_at_call 95; refine (HTO.o _ _ _ _ HD4.o _).mono ?_; rintro e w7 ht; have HT := Qh ht; obtain ⟨hd5, hw5⟩ := ht.dc HD4.o; have HW5 := Qh hw5; clear hw5; obtain ⟨rfl, -⟩ := ht; have u0 := hd5.box.cell 0; have u1 := hd5.box.cell 1; have HD5 := Qh hd5; clear hd5))
  have HQ := Qh (Jc0 HB3.o HO4.o HT.o);clear CY HTO HNM CN2 x0 x1;by_cases ha0 : fin.1 = 0
  ·have HPG1 := Qh (show PG = G.push ⟨en, es⟩ from by rw [HPG.o, if_pos ha0])
   have HG0 := Qh (show G.hold fin.1 = G from by rw [ha0]; exact hold_zero G);have HD7 := Qh (show DcIn B r q c4 (.slice (some ⟨g, o, none⟩) m1 cap) fin.2 G w7 from by have := HD5.o; rw [HG0.o] at this; exact this)
   have HW7 := Qh (show Wr (DcF r q cX (.slice (some ⟨g, o, none⟩) m1 cap)) w5 w7 ∧ (∀ k, DcF r q c4 (.slice (some ⟨g, o, none⟩) m1 cap) k → DcF r q cX (.slice (some ⟨g, o, none⟩) m1 cap) k ∨ w5.heap.size ≤ k) from
    ⟨((Jad HB3.o).trans HW4.o).trans (HW5.o.mono (fun x hx => .inl (.inr (.inl hx)))), fun k hk => (HF4.o k hk).imp id (fun z => Nat.le_trans HB3.o.size z)⟩)
   have hB7 : B ≤ w7.heap.size := Nat.le_trans HB5.o HW7.o.1.size;have F1 := Qh (show w7.cell? ⟨q, 1, none⟩ = some (.slice (some ⟨g, o, none⟩) m1 cap) from HD7.o.box.cell 1);have HR := Qh HD7.o.row;rw [HNS.o.1] at HR;have NE1 := Qh (show ¬ (Value.slice (some ⟨g, o, none⟩) m1 cap).ownBlock = some q from fun e => HD7.o.row.ne HD7.o.box (by decide) q e rfl);have FZ := Qh (show ∀ (wa wb : World), Below w7.heap.size w7 wa → Wr (fun k => (Value.slice (some ⟨g, o, none⟩) m1 cap).ownBlock = some k) wa wb → wb.frozen? ⟨q, 1, none⟩ = false from fun wa wb ha hb => ((HD7.o.box.below ha).wr hb (fun e => NE1.o e)).free 1);have hn9 := HNS.o.2;rw [ha0];replace HB5 := Qh hB7;clear HD4 HO4 HT HD5 HQ HB3 hB7;have hkb := Jae #[.int .i64 (en : Nat)] 3 w7;have HBA := Qh ((Below.refl w7.heap.size w7).alloc (Nat.le_refl _) (.cells #[.int .i64 (en : Nat)] 3));have HKB := Qh hkb;clear hkb z0 z1 y0 y1 u0 u1;go_wp2_with (at_builtin; go_loud (refine Jc8 rfl _ _ 40 rfl i0 (.int .i64 0) 8 Tryz.underlying40 hi0 hz0 hz1 hz2 rfl (by decide) (by rfl) (HR.o.below HBA.o) ⟨w7.heap.size, 0, none⟩ 1 1 [.int .i64 (en : Nat)] (by rfl) rfl (fun j u hu => by rw [Addr.add_lit, Nat.zero_add, HKB.o.cell]; simpa using hu) (fun u hu => by simp only [List.mem_cons, List.not_mem_nil, or_false] at hu; rcases hu with rfl; rfl) (by unfold maxLen; omega) (by omega) (Nat.le_trans HB5.o HBA.o.size) ?_; intro v13 w13 ho13 hw13 hv13; obtain ⟨a13, c13, rfl, -, -⟩ := ho13.val; have HO3 := Qh ho13; have HW13 := Qh hw13; have HV := Qh hv13; have x4 : w13.cell? ⟨q, 1, none⟩ = some (.slice (some ⟨g, o, none⟩) m1 cap) := Jam (Jab F1.o HBA.o) hw13 NE1.o; have f9 : w13.frozen? ⟨q, 1, none⟩ = false := FZ.o _ w13 HBA.o HW13.o; clear ho13 hw13 hv13))
   go_ret;rw [HPG1.o];have HPU := Qh (DcIn.pushd (v := .int .i64 0) (s := ⟨en, es⟩) (HD7.o.below HBA.o) (by rw [HNS.o.1]; exact hn9) (by rw [HNS.o.1]; exact HO3.o) HW13.o HV.o);exact OpD.lift HFX.o.1 HFX.o.2 (OpD.lift (fun k hk => HW7.o.2 k hk) HW7.o.1 (OpD.pre HBA.o (by obtain ⟨_, p⟩ := HPU.o; exact ⟨by rw [ha0]; rfl, p⟩)))
  ·have HPG1 := Qh (show PG = G.hold fin.1 from by rw [HPG.o, if_neg ha0])
   have ta : (fin.1 == 0) = false := by simpa using ha0
   go_wp2_with fail;go_ret;rw [HPG1.o];exact OpD.lift HFX.o.1 HFX.o.2 HQ.o
end
end
end Go.Proofs.YtmammmjmipgmoaaGreatDoor
