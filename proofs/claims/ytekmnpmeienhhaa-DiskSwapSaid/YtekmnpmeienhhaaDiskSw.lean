/- Layer 5: DiskSwap, walked. -/
import Derived.Test.YtekmnpmeienhhaaDiskCr
namespace Go.Proofs.Ytekmnpmeienhhaa
set_option linter.unusedVariables false
open Go Go.RowKit Go.Maps

namespace Dk
abbrev nF : List UInt8 := [102, 105, 108, 101]
abbrev nD : List UInt8 := [100, 114, 97, 102, 116]
def sw1 (a : List UInt8) : St := ⟨3000, 0, true, none, [⟨nF, a, 0⟩]⟩
def sw2 (a : List UInt8) : St := ⟨3000, 0, true, none, [⟨nF, a, a.length⟩]⟩
def sw3 (a : List UInt8) (k : Nat) (ks : List Int) : St := ⟨3000, 0, true, some (k, ks), [⟨nF, a, a.length⟩]⟩
def sw4 (a b : List UInt8) (k : Nat) (ks : List Int) : St := ⟨3000, 0, true, some (k, ks), [⟨nD, b, 0⟩, ⟨nF, a, a.length⟩]⟩
def sw5 (a b : List UInt8) (k : Nat) (ks : List Int) : St := ⟨3000, 0, true, some (k, ks), [⟨nD, b, b.length⟩, ⟨nF, a, a.length⟩]⟩
def sw6 (b : List UInt8) (k : Nat) (ks : List Int) : St := ⟨3000, 0, true, some (k, ks), [⟨nF, b, b.length⟩]⟩
theorem sw_fd : (nF == nD) = false := by decide
theorem sw_df : (nD == nF) = false := by decide
theorem sw_ff : (nF == nF) = true := by decide
theorem sw_dd : (nD == nD) = true := by decide
theorem sw_less : Op.bytesLess nD nF = true := by decide
theorem sw_nf : named nF = true := by decide
theorem sw_nd : named nD = true := by decide
theorem put_one (f g : Fl) (h : f.name = g.name) : put f [g] = [f] := by
  unfold put del
  rw [List.filter_cons_of_neg (by simp [h])]
  rfl
theorem sw_a1 {a : List UInt8} (h : a.length ≤ 1000) : append nF a (new 3000) = (0, sw1 a) := by
  unfold append new
  rw [if_neg (by decide), if_neg (by rw [sw_nf]; decide), if_neg (by simp [size]; omega)]
  rfl
theorem sw_a2 (a : List UInt8) : sync nF (sw1 a) = (0, sw2 a) := by
  unfold sync sw1
  rw [if_neg (by simp), if_neg (by show ¬ ((nF == nF) || false) = false; rw [sw_ff]; decide)]
  show ((0 : Int), ({ (⟨3000, 0, true, none, [⟨nF, a, 0⟩]⟩ : St) with L := put _ _ } : St)) = _
  have hg : get nF [⟨nF, a, 0⟩] = ⟨nF, a, 0⟩ := by unfold get; rw [List.find?_cons_of_pos (by exact sw_ff)]; rfl
  simp only [hg, put_one ⟨nF, a, a.length⟩ ⟨nF, a, 0⟩ rfl]
  rfl
theorem sw_a3 (a : List UInt8) (k : Nat) (ks : List Int) : fail (k : Int) ks (sw2 a) = (0, sw3 a k ks) := by
  unfold fail sw2
  rw [if_neg (by simp), if_neg (by omega)]
  rfl
theorem sw_put (a b : List UInt8) : put ⟨nD, b, 0⟩ [⟨nF, a, a.length⟩] = [⟨nD, b, 0⟩, ⟨nF, a, a.length⟩] := by
  unfold put del
  rw [List.filter_cons_of_pos (by show (!(nF == nD)) = true; rw [sw_fd]; rfl)]
  show ins _ [_] = _
  unfold ins
  rw [if_pos (by exact sw_less)]
theorem sw_app {a b : List UInt8} (ha : a.length ≤ 1000) (hb : b.length ≤ 1000) (k : Nat) (ks : List Int) : append nD b (sw3 a k ks) = (if (struck (sw4 a b k ks)).1 then 51 else 0, (struck (sw4 a b k ks)).2) := by
  unfold append sw3
  rw [if_neg (by simp), if_neg (by rw [sw_nd]; decide), if_neg (by simp [size]; omega)]
  have hg : get nD [⟨nF, a, a.length⟩] = fl0 := by unfold get; rw [List.find?_cons_of_neg (by simp only [sw_fd]; decide)]; rfl
  simp only [hg]
  show (if (struck { (⟨3000, 0, true, some (k, ks), [⟨nF, a, a.length⟩]⟩ : St) with L := put ⟨nD, b, 0⟩ [⟨nF, a, a.length⟩] }).1 = true then (51 : Int) else 0, (struck { (⟨3000, 0, true, some (k, ks), [⟨nF, a, a.length⟩]⟩ : St) with L := put ⟨nD, b, 0⟩ [⟨nF, a, a.length⟩] }).2) = _
  rw [sw_put]
  rfl
theorem sw_b0 {a b : List UInt8} (ha : a.length ≤ 1000) (hb : b.length ≤ 1000) (ks : List Int) : append nD b (sw3 a 0 ks) = (51, fall ks (sw4 a b 0 ks)) := by rw [sw_app ha hb]; rfl
theorem sw_b1 {a b : List UInt8} (ha : a.length ≤ 1000) (hb : b.length ≤ 1000) (k : Nat) (ks : List Int) : append nD b (sw3 a (k + 1) ks) = (0, sw4 a b k ks) := by rw [sw_app ha hb]; rfl
theorem sw_c (a b : List UInt8) (k : Nat) (ks : List Int) : has nD (sw4 a b k ks).L = true ∧ has nD (sw5 a b k ks).L = true ∧ get nD (sw4 a b k ks).L = ⟨nD, b, 0⟩ ∧ get nD (sw5 a b k ks).L = ⟨nD, b, b.length⟩ :=
  ⟨by show ((nD == nD) || ((nF == nD) || false)) = true; rw [sw_dd]; rfl, by show ((nD == nD) || ((nF == nD) || false)) = true; rw [sw_dd]; rfl, by unfold get sw4; rw [List.find?_cons_of_pos (by exact sw_dd)]; rfl, by unfold get sw5; rw [List.find?_cons_of_pos (by exact sw_dd)]; rfl⟩
theorem sw_c0 (a b : List UInt8) (ks : List Int) : sync nD (sw4 a b 0 ks) = (51, fall ks (sw4 a b 0 ks)) := by
  unfold sync
  rw [if_neg (by simp [sw4]), if_neg (by rw [(sw_c a b 0 ks).1]; decide)]
  rfl
theorem sw_c1 (a b : List UInt8) (k : Nat) (ks : List Int) : sync nD (sw4 a b (k + 1) ks) = (0, sw5 a b k ks) := by
  unfold sync
  rw [if_neg (by simp [sw4]), if_neg (by rw [(sw_c a b (k + 1) ks).1]; decide)]
  show ((0 : Int), ({ (⟨3000, 0, true, some (k, ks), [⟨nD, b, 0⟩, ⟨nF, a, a.length⟩]⟩ : St) with L := put ⟨nD, (get nD (sw4 a b (k + 1) ks).L).dat, (get nD (sw4 a b (k + 1) ks).L).dat.length⟩ [⟨nD, b, 0⟩, ⟨nF, a, a.length⟩] } : St)) = _
  rw [(sw_c a b (k + 1) ks).2.2.1]
  have h1 : put ⟨nD, b, b.length⟩ [⟨nD, b, 0⟩, ⟨nF, a, a.length⟩] = [⟨nD, b, b.length⟩, ⟨nF, a, a.length⟩] := by
    unfold put del
    rw [List.filter_cons_of_neg (by show ¬ (!(nD == nD)) = true; rw [sw_dd]; decide), List.filter_cons_of_pos (by show (!(nF == nD)) = true; rw [sw_fd]; rfl)]
    show ins _ [_] = _
    unfold ins
    rw [if_pos (by exact sw_less)]
  show ((0 : Int), (⟨3000, 0, true, some (k, ks), put ⟨nD, b, b.length⟩ [⟨nD, b, 0⟩, ⟨nF, a, a.length⟩]⟩ : St)) = _
  rw [h1]
  rfl
theorem sw_d0 (a b : List UInt8) (ks : List Int) : rename nD nF (sw5 a b 0 ks) = (51, fall ks (sw5 a b 0 ks)) := by
  unfold rename
  rw [if_neg (by simp [sw5]), if_neg (by rw [(sw_c a b 0 ks).2.1]; decide), if_neg (by rw [sw_nf]; decide)]
  rfl
theorem sw_d1 (a b : List UInt8) (k : Nat) (ks : List Int) : rename nD nF (sw5 a b (k + 1) ks) = (0, sw6 b k ks) := by
  unfold rename
  rw [if_neg (by simp [sw5]), if_neg (by rw [(sw_c a b (k + 1) ks).2.1]; decide), if_neg (by rw [sw_nf]; decide)]
  show ((0 : Int), (⟨3000, 0, true, some (k, ks), ren nD nF (sw5 a b (k + 1) ks).L⟩ : St)) = _
  have h1 : ren nD nF (sw5 a b (k + 1) ks).L = [⟨nF, b, b.length⟩] := by
    unfold ren
    rw [if_neg (by decide), (sw_c a b (k + 1) ks).2.2.2]
    have h2 : del nD (sw5 a b (k + 1) ks).L = [⟨nF, a, a.length⟩] := by
      unfold del sw5
      rw [List.filter_cons_of_neg (by show ¬ (!(nD == nD)) = true; rw [sw_dd]; decide), List.filter_cons_of_pos (by show (!(nF == nD)) = true; rw [sw_fd]; rfl)]
      rfl
    rw [h2]
    exact put_one _ _ rfl
  rw [h1]
  rfl
theorem sw_left (a : List UInt8) (k : Int) : left ⟨nF, a, a.length⟩ k = ⟨nF, a, a.length⟩ := by
  unfold left
  simp
theorem sw_read (f : Fl) (a : List UInt8) (D : St) (hf : f.name = nD) (hL : D.L = [f, ⟨nF, a, a.length⟩]) : read nF (woke D) = (0, a) := by
  unfold read woke
  have h1 : has nF D.L = true := by rw [hL]; show ((f.name == nF) || ((nF == nF) || false)) = true; rw [sw_ff]; simp
  have h2 : get nF D.L = ⟨nF, a, a.length⟩ := by
    rw [hL]; unfold get
    rw [List.find?_cons_of_neg (by rw [hf]; simp only [sw_df]; decide), List.find?_cons_of_pos (by exact sw_ff)]; rfl
  rw [if_neg (by simp), if_neg (by simp only [h1]; decide)]
  simp only [h2]
theorem sw_cut (a b : List UInt8) (s : Nat) : ∀ ks : List Int, ∃ f, f.name = nD ∧ cut ks [⟨nD, b, s⟩, ⟨nF, a, a.length⟩] = [f, ⟨nF, a, a.length⟩]
  | [] => ⟨_, rfl, by show [left _ 0, left _ 0] = _; rw [sw_left]⟩
  | [k] => ⟨left ⟨nD, b, s⟩ k, rfl, by show [left _ k, left _ 0] = _; rw [sw_left]⟩
  | k :: j :: r => ⟨left ⟨nD, b, s⟩ k, rfl, by show [left _ k, left _ j] = _; rw [sw_left]⟩
theorem sw_r4 (a b : List UInt8) (k : Nat) (ks : List Int) : read nF (woke (fall ks (sw4 a b k ks))) = (0, a) := by
  obtain ⟨f, h1, h2⟩ := sw_cut a b 0 ks
  exact sw_read f a _ h1 h2
theorem sw_r5 (a b : List UInt8) (k : Nat) (ks : List Int) : read nF (woke (fall ks (sw5 a b k ks))) = (0, a) := by
  obtain ⟨f, h1, h2⟩ := sw_cut a b b.length ks
  exact sw_read f a _ h1 h2
theorem sw_r6 (b : List UInt8) (k : Nat) (ks : List Int) : read nF (sw6 b k ks) = (0, b) := by
  unfold read sw6
  rw [if_neg (by simp), if_neg (by show ¬ ((nF == nF) || false) = false; rw [sw_ff]; decide)]
  have h2 : get nF [⟨nF, b, b.length⟩] = ⟨nF, b, b.length⟩ := by unfold get; rw [List.find?_cons_of_pos (by exact sw_ff)]; rfl
  simp only [h2]
end Dk
/-- What the law of drafts keeps. -/
def Sw5 (W : World) (B d p : Nat) (a b : List UInt8) (ks : List Int) (ko : Option Addr) (D : Dk.St) (w : World) : Prop :=
  DkX (fun _ => False) B d D w ∧ Bk #[.string (S a), .string (S b)] 65 w p ∧ p < B ∧ NsK (fun q => q < W.heap.size) w ko ks ∧ Below W.heap.size W w ∧ B ≤ w.heap.size ∧ W.heap.size ≤ B ∧ W.heap.size ≤ p
section
variable {W w w' : World} {B d p : Nat} {a b : List UInt8} {ks : List Int} {ko : Option Addr} {D D' : Dk.St}
theorem Sw5.op {r : Int × Dk.St} {e : Ending} (h : Sw5 W B d p a b ks ko D w) (ho : OpX (fun _ => False) B d r w e w') : e = .returned (.int .i64 r.1) ∧ Sw5 W B d p a b ks ko r.2 w' := by
  obtain ⟨h1, h2, h3, h4, h5, h6, h7, h8⟩ := h
  obtain ⟨o1, o2, o3⟩ := ho
  exact ⟨o1, o2, h2.wr o3 (fun q => by omega), h3, h4.wr o3 (fun q hq ha => by omega), h5.trans (o3.below (fun q hq => Nat.le_trans h7 hq.1) h5.size), Nat.le_trans h6 o3.size, h7, h8⟩
theorem Sw5.below (h : Sw5 W B d p a b ks ko D w) (hb : Below w.heap.size w w') : Sw5 W B d p a b ks ko D w' := by
  obtain ⟨h1, h2, h3, h4, h5, h6, h7, h8⟩ := h
  exact ⟨h1.below hb, h2.below hb, h3, h4.below hb, below_step h5 hb, Nat.le_trans h6 hb.size, h7, h8⟩
theorem Sw5.cells (h : Sw5 W B d p a b ks ko D w) : w.cell? ⟨p, 0, none⟩ = some (.string (S a)) ∧ w.cell? ⟨p, 1, none⟩ = some (.string (S b)) := ⟨h.2.1.cell 0, h.2.1.cell 1⟩
theorem Sw5.app (h : Sw5 W B d p a b ks ko D w) (nm s : List UInt8) (hn : nm.length ≤ 1000) (hs : s.length ≤ 1000) {r : Int × Dk.St} (hr : Dk.append nm s D = r) :
    Calls Try.prog 32 #[.pointer (some ⟨d, 0, none⟩), .string (S nm), .string (S s)] w fun e w' => e = .returned (.int .i64 r.1) ∧ Sw5 W B d p a b ks ko r.2 w' := by
  rw [← hr]; exact (appendX h.1 (fun q hq => hq.elim) h.2.2.2.2.2.1 nm s (by omega) (by omega)).mono fun e w' ho => h.op ho
theorem Sw5.syn (h : Sw5 W B d p a b ks ko D w) (nm : List UInt8) (hn : nm.length ≤ 1000) {r : Int × Dk.St} (hr : Dk.sync nm D = r) :
    Calls Try.prog 41 #[.pointer (some ⟨d, 0, none⟩), .string (S nm)] w fun e w' => e = .returned (.int .i64 r.1) ∧ Sw5 W B d p a b ks ko r.2 w' := by
  rw [← hr]; exact (syncX h.1 (fun q hq => hq.elim) h.2.2.2.2.2.1 nm (by omega)).mono fun e w' ho => h.op ho
theorem Sw5.ren (h : Sw5 W B d p a b ks ko D w) (nm to_ : List UInt8) (hn : nm.length ≤ 1000) (ht : to_.length ≤ 1000) {r : Int × Dk.St} (hr : Dk.rename nm to_ D = r) :
    Calls Try.prog 42 #[.pointer (some ⟨d, 0, none⟩), .string (S nm), .string (S to_)] w fun e w' => e = .returned (.int .i64 r.1) ∧ Sw5 W B d p a b ks ko r.2 w' := by
  rw [← hr]; exact (renameX h.1 (fun q hq => hq.elim) h.2.2.2.2.2.1 nm to_ (by omega) (by omega)).mono fun e w' ho => h.op ho
theorem Sw5.fai (h : Sw5 W B d p a b ks ko D w) (n : Int) (kc : Nat) (hn : n ≤ 9223372036854775807) (hK : Dk.KsOk ks) {r : Int × Dk.St} (hr : Dk.fail n ks D = r) :
    Calls Try.prog 39 #[.pointer (some ⟨d, 0, none⟩), .int .i64 n, .slice ko ks.length kc] w fun e w' => e = .returned (.int .i64 r.1) ∧ Sw5 W B d p a b ks ko r.2 w' := by
  rw [← hr]; exact (failX h.1 (fun q hq => hq.elim) h.2.2.2.2.2.1 n ks ko kc hn hK h.2.2.2.1.1).mono fun e w' ho => h.op ho
theorem Sw5.sta (h : Sw5 W B d p a b ks ko D w) (hu : D.up = false) (hs : D.starts ≤ 1000) :
    Calls Try.prog 35 #[.pointer (some ⟨d, 0, none⟩)] w fun e w' => e = .returned (.int .i64 0) ∧ Sw5 W B d p a b ks ko (Dk.woke D) w' := by
  have h1 := (startX h.1 (fun q hq => hq.elim) h.2.2.2.2.2.1 (by omega)).mono fun e w' ho => h.op ho
  rw [Dk.start_down hu] at h1
  exact h1
theorem Sw5.rea (h : Sw5 W B d p a b ks ko D w) (nm : List UInt8) (hn : nm.length ≤ 1000) {r : Int × List UInt8} (hr : Dk.read nm D = r) :
    Calls Try.prog 26 #[.pointer (some ⟨d, 0, none⟩), .string (S nm)] w fun e w' => e = .returned (.tuple #[.string (S r.2), .int .i64 r.1]) ∧ Sw5 W B d p a b ks ko D w' := by
  rw [← hr]; exact (readX h.1 nm (by omega)).mono fun e w' ho => ⟨ho.1, h.below ho.2⟩
end
set_option maxRecDepth 100000 in
set_option maxHeartbeats 8000000 in
theorem diskSwap_calls (W : World) (v : Value) (hv : U2s5 v) (n : Int) (hn8 : (Lit.int .u8 n).wf = true) (u : Value) (hu : UNs5 W u) : Calls Try.prog 8 #[v, .int .u8 n, u] W fun e w' => e = .returned (.bool true) ∧ Below W.heap.size W w' := by
  obtain ⟨a, b, rfl, hla, hlb⟩ := hv
  obtain ⟨ks, ko, kc, rfl, hKI, hKA⟩ := hu
  have hn := u8_wf5 hn8
  have hkn := hKI.n
  have HK0 := Lib.hid (show NsK (fun q => q < W.heap.size) W ko ks from ⟨hKA, fun x hx ha => by
    obtain ⟨g, off, e, hc⟩ := hKA hx
    rw [ha] at e
    cases e
    exact cell_lt5 (hc 0 (List.length_pos_iff.2 hx))⟩)
  have HKI := Lib.hid hKI
  have CD := Lib.hid does5
  obtain ⟨m, hm, hm5⟩ : ∃ m : Nat, n % 5 = (m : Int) ∧ m < 5 := ⟨(n % 5).toNat, by omega, by omega⟩
  clear hKI hKA hn8
  go_enter Try.func8, Try.ntmps8
  go_upto_region 1 with fail
  have HB0 := Lib.hid ((Below.refl W.heap.size W).alloc (Nat.le_refl _) (.cells #[.string (S a), .string (S b)] 65))
  have HX0 := Lib.hid (bk_new #[.string (S a), .string (S b)] 65 W)
  obtain ⟨p, hp⟩ : ∃ x, x = W.heap.size := ⟨_, rfl⟩
  obtain ⟨w1, hw1⟩ : ∃ x, x = W.alloc (.cells #[.string (S a), .string (S b)] 65) := ⟨_, rfl⟩
  have HPW := Lib.hid (show p < w1.heap.size from by rw [hw1, hp, sz5]; omega)
  have HPP := Lib.hid (show W.heap.size ≤ p from Nat.le_of_eq hp.symm)
  replace HX0 := Lib.hid (show Bk #[.string (S a), .string (S b)] 65 w1 p from by rw [hw1, hp]; exact HX0.out)
  replace HB0 := Lib.hid (show Below W.heap.size W w1 from by rw [hw1]; exact HB0.out)
  rw [← hw1, ← hp]
  clear hw1 hp
  have c0 : w1.cell? ⟨p, 0, none⟩ = some (.string (S a)) := HX0.out.cell 0
  have c1 : w1.cell? ⟨p, 1, none⟩ = some (.string (S b)) := HX0.out.cell 1
  by_cases ha : 1000 < a.length
  · have d1 : decide ((1000 : Int) < (a.length : Int)) = true := by simp; omega
    go_wp2_with fail
    go_ret
    exact ⟨rfl, HB0.out⟩
  have d1 : decide ((1000 : Int) < (a.length : Int)) = false := by simp; omega
  by_cases hb : 1000 < b.length
  · have d2 : decide ((1000 : Int) < (b.length : Int)) = true := by simp; omega
    go_wp2_with fail
    go_ret
    exact ⟨rfl, HB0.out⟩
  have d2 : decide ((1000 : Int) < (b.length : Int)) = false := by simp; omega
  by_cases hk100 : 100 < ks.length
  · have d3 : decide ((100 : Int) < (ks.length : Int)) = true := by simp; omega
    go_wp2_with fail
    go_ret
    exact ⟨rfl, HB0.out⟩
  have d3 : decide ((100 : Int) < (ks.length : Int)) = false := by simp; omega
  have HKS := Lib.hid (HKI.out.ks (by omega))
  have CN := Lib.hid (show Calls Try.prog 17 #[.int .i64 3000] w1 (NewXd5 3000 w1) from newXd5 3000 w1 (by decide) (by decide))
  go_wp2_with fail
  with_reducible refine CN.out.mono ?_
  rintro e w2 ⟨d, rfl, hd, hbq, -⟩
  have HS := Lib.hid (show Sw5 W w1.heap.size d p a b ks ko (Dk.new 3000) w2 from ⟨hd, HX0.out.below hbq, HPW.out, (HK0.out.below HB0.out).below hbq, below_step HB0.out hbq, hbq.size, HB0.out.size, HPP.out⟩)
  clear hd hbq CN c0 c1 HB0 HX0 HK0 HKI HPW HPP d1 d2 d3
  generalize w1.heap.size = B at *
  have HA := Lib.hid (show a.length ≤ 1000 from by omega)
  have HBL := Lib.hid (show b.length ≤ 1000 from by omega)
  clear ha hb hk100 hla hlb
  have CC := Lib.hid (HS.out.app Dk.nF a (by decide) HA.out (Dk.sw_a1 HA.out))
  obtain ⟨c0, c1⟩ := HS.out.cells
  go_wp2_with fail
  with_reducible refine CC.out.mono ?_
  rintro e w2 ⟨rfl, hs⟩
  replace HS := Lib.hid hs
  clear hs CC c0 c1
  have CC := Lib.hid (HS.out.syn Dk.nF (by decide) (Dk.sw_a2 a))
  obtain ⟨c0, c1⟩ := HS.out.cells
  go_wp2_with fail
  with_reducible refine CC.out.mono ?_
  rintro e w2 ⟨rfl, hs⟩
  replace HS := Lib.hid hs
  clear hs CC c0 c1
  have hm9 : (m : Int) ≤ 9223372036854775807 := by omega
  have CC := Lib.hid (HS.out.fai (m : Int) kc hm9 HKS.out (Dk.sw_a3 a m ks))
  obtain ⟨c0, c1⟩ := HS.out.cells
  go_wp2_with fail
  with_reducible refine CC.out.mono ?_
  rintro e w2 ⟨rfl, hs⟩
  replace HS := Lib.hid hs
  clear hs CC c0 c1
  have hcs : m = 0 ∨ m = 1 ∨ m = 2 ∨ m = 3 ∨ m = 4 := by omega
  clear hm5 hm9
  rcases hcs with rfl | rfl | rfl | rfl | rfl
  · have CC := Lib.hid (HS.out.app Dk.nD b (by decide) HBL.out (Dk.sw_b0 HA.out HBL.out ks))
    obtain ⟨c0, c1⟩ := HS.out.cells
    go_wp2_with fail
    with_reducible refine CC.out.mono ?_
    rintro e w2 ⟨rfl, hs⟩
    replace HS := Lib.hid hs
    clear hs CC c0 c1
    have CC := Lib.hid (HS.out.sta rfl (Nat.zero_le 1000))
    obtain ⟨c0, c1⟩ := HS.out.cells
    go_wp2_with fail
    with_reducible refine CC.out.mono ?_
    rintro e w2 ⟨rfl, hs⟩
    replace HS := Lib.hid hs
    clear hs CC c0 c1
    have CC := Lib.hid (HS.out.rea Dk.nF (by decide) (Dk.sw_r4 a b 0 ks))
    obtain ⟨c0, c1⟩ := HS.out.cells
    go_wp2_with fail
    with_reducible refine CC.out.mono ?_
    rintro e w2 ⟨rfl, hs⟩
    replace HS := Lib.hid hs
    clear hs CC c0 c1
    go_wp2_with fail
    with_reducible refine (CD.out _).mono ?_
    rintro e w3 ⟨rfl, hb⟩
    have HF := Lib.hid (below_step HS.out.2.2.2.2.1 hb)
    clear hb
    go_wp2_with fail
    go_ret
    exact ⟨rfl, HF.out⟩
  · have CC := Lib.hid (HS.out.app Dk.nD b (by decide) HBL.out (Dk.sw_b1 HA.out HBL.out 0 ks))
    obtain ⟨c0, c1⟩ := HS.out.cells
    go_wp2_with fail
    with_reducible refine CC.out.mono ?_
    rintro e w2 ⟨rfl, hs⟩
    replace HS := Lib.hid hs
    clear hs CC c0 c1
    have CC := Lib.hid (HS.out.syn Dk.nD (by decide) (Dk.sw_c0 a b ks))
    obtain ⟨c0, c1⟩ := HS.out.cells
    go_wp2_with fail
    with_reducible refine CC.out.mono ?_
    rintro e w2 ⟨rfl, hs⟩
    replace HS := Lib.hid hs
    clear hs CC c0 c1
    have CC := Lib.hid (HS.out.sta rfl (Nat.zero_le 1000))
    obtain ⟨c0, c1⟩ := HS.out.cells
    go_wp2_with fail
    with_reducible refine CC.out.mono ?_
    rintro e w2 ⟨rfl, hs⟩
    replace HS := Lib.hid hs
    clear hs CC c0 c1
    have CC := Lib.hid (HS.out.rea Dk.nF (by decide) (Dk.sw_r4 a b 0 ks))
    obtain ⟨c0, c1⟩ := HS.out.cells
    go_wp2_with fail
    with_reducible refine CC.out.mono ?_
    rintro e w2 ⟨rfl, hs⟩
    replace HS := Lib.hid hs
    clear hs CC c0 c1
    go_wp2_with fail
    with_reducible refine (CD.out _).mono ?_
    rintro e w3 ⟨rfl, hb⟩
    have HF := Lib.hid (below_step HS.out.2.2.2.2.1 hb)
    clear hb
    go_wp2_with fail
    go_ret
    exact ⟨rfl, HF.out⟩
  · have CC := Lib.hid (HS.out.app Dk.nD b (by decide) HBL.out (Dk.sw_b1 HA.out HBL.out 1 ks))
    obtain ⟨c0, c1⟩ := HS.out.cells
    go_wp2_with fail
    with_reducible refine CC.out.mono ?_
    rintro e w2 ⟨rfl, hs⟩
    replace HS := Lib.hid hs
    clear hs CC c0 c1
    have CC := Lib.hid (HS.out.syn Dk.nD (by decide) (Dk.sw_c1 a b 0 ks))
    obtain ⟨c0, c1⟩ := HS.out.cells
    go_wp2_with fail
    with_reducible refine CC.out.mono ?_
    rintro e w2 ⟨rfl, hs⟩
    replace HS := Lib.hid hs
    clear hs CC c0 c1
    have CC := Lib.hid (HS.out.ren Dk.nD Dk.nF (by decide) (by decide) (Dk.sw_d0 a b ks))
    obtain ⟨c0, c1⟩ := HS.out.cells
    go_wp2_with fail
    with_reducible refine CC.out.mono ?_
    rintro e w2 ⟨rfl, hs⟩
    replace HS := Lib.hid hs
    clear hs CC c0 c1
    have CC := Lib.hid (HS.out.sta rfl (Nat.zero_le 1000))
    obtain ⟨c0, c1⟩ := HS.out.cells
    go_wp2_with fail
    with_reducible refine CC.out.mono ?_
    rintro e w2 ⟨rfl, hs⟩
    replace HS := Lib.hid hs
    clear hs CC c0 c1
    have CC := Lib.hid (HS.out.rea Dk.nF (by decide) (Dk.sw_r5 a b 0 ks))
    obtain ⟨c0, c1⟩ := HS.out.cells
    go_wp2_with fail
    with_reducible refine CC.out.mono ?_
    rintro e w2 ⟨rfl, hs⟩
    replace HS := Lib.hid hs
    clear hs CC c0 c1
    go_wp2_with fail
    with_reducible refine (CD.out _).mono ?_
    rintro e w3 ⟨rfl, hb⟩
    have HF := Lib.hid (below_step HS.out.2.2.2.2.1 hb)
    clear hb
    go_wp2_with fail
    go_ret
    exact ⟨rfl, HF.out⟩
  · have CC := Lib.hid (HS.out.app Dk.nD b (by decide) HBL.out (Dk.sw_b1 HA.out HBL.out 2 ks))
    obtain ⟨c0, c1⟩ := HS.out.cells
    go_wp2_with fail
    with_reducible refine CC.out.mono ?_
    rintro e w2 ⟨rfl, hs⟩
    replace HS := Lib.hid hs
    clear hs CC c0 c1
    have CC := Lib.hid (HS.out.syn Dk.nD (by decide) (Dk.sw_c1 a b 1 ks))
    obtain ⟨c0, c1⟩ := HS.out.cells
    go_wp2_with fail
    with_reducible refine CC.out.mono ?_
    rintro e w2 ⟨rfl, hs⟩
    replace HS := Lib.hid hs
    clear hs CC c0 c1
    have CC := Lib.hid (HS.out.ren Dk.nD Dk.nF (by decide) (by decide) (Dk.sw_d1 a b 0 ks))
    obtain ⟨c0, c1⟩ := HS.out.cells
    go_wp2_with fail
    with_reducible refine CC.out.mono ?_
    rintro e w2 ⟨rfl, hs⟩
    replace HS := Lib.hid hs
    clear hs CC c0 c1
    have CC := Lib.hid (HS.out.rea Dk.nF (by decide) (Dk.sw_r6 b 0 ks))
    obtain ⟨c0, c1⟩ := HS.out.cells
    go_wp2_with fail
    with_reducible refine CC.out.mono ?_
    rintro e w2 ⟨rfl, hs⟩
    replace HS := Lib.hid hs
    clear hs CC c0 c1
    go_wp2_with fail
    with_reducible refine (CD.out _).mono ?_
    rintro e w3 ⟨rfl, hb⟩
    have HF := Lib.hid (below_step HS.out.2.2.2.2.1 hb)
    clear hb
    go_wp2_with fail
    go_ret
    exact ⟨rfl, HF.out⟩
  · have CC := Lib.hid (HS.out.app Dk.nD b (by decide) HBL.out (Dk.sw_b1 HA.out HBL.out 3 ks))
    obtain ⟨c0, c1⟩ := HS.out.cells
    go_wp2_with fail
    with_reducible refine CC.out.mono ?_
    rintro e w2 ⟨rfl, hs⟩
    replace HS := Lib.hid hs
    clear hs CC c0 c1
    have CC := Lib.hid (HS.out.syn Dk.nD (by decide) (Dk.sw_c1 a b 2 ks))
    obtain ⟨c0, c1⟩ := HS.out.cells
    go_wp2_with fail
    with_reducible refine CC.out.mono ?_
    rintro e w2 ⟨rfl, hs⟩
    replace HS := Lib.hid hs
    clear hs CC c0 c1
    have CC := Lib.hid (HS.out.ren Dk.nD Dk.nF (by decide) (by decide) (Dk.sw_d1 a b 1 ks))
    obtain ⟨c0, c1⟩ := HS.out.cells
    go_wp2_with fail
    with_reducible refine CC.out.mono ?_
    rintro e w2 ⟨rfl, hs⟩
    replace HS := Lib.hid hs
    clear hs CC c0 c1
    have CC := Lib.hid (HS.out.rea Dk.nF (by decide) (Dk.sw_r6 b 1 ks))
    obtain ⟨c0, c1⟩ := HS.out.cells
    go_wp2_with fail
    with_reducible refine CC.out.mono ?_
    rintro e w2 ⟨rfl, hs⟩
    replace HS := Lib.hid hs
    clear hs CC c0 c1
    go_wp2_with fail
    with_reducible refine (CD.out _).mono ?_
    rintro e w3 ⟨rfl, hb⟩
    have HF := Lib.hid (below_step HS.out.2.2.2.2.1 hb)
    clear hb
    go_wp2_with fail
    go_ret
    exact ⟨rfl, HF.out⟩

end Go.Proofs.Ytekmnpmeienhhaa
