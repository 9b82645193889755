import Derived.Test.YtmammmjmipgmoaaGreatDoorZA
import Derived.StillTailTactics
import Derived.Deep.RegionWith
import Derived.BigRegion
import Derived.Deep.QuietTactic
import Derived.BigQuiet
import Derived.Lib.QuietBelow
import Derived.ProofKit
import Derived.OpenShut
import Derived.Lib.SmallJoins
import Derived.Test.YtmammmjmipgmoaaGreatDoorZQh
set_option linter.unusedVariables false
set_option maxRecDepth 100000
set_option maxHeartbeats 16000000
namespace Go.Proofs.YtmammmjmipgmoaaGreatDoor
namespace M
def stepP (p : Nat × Nat) (x : UInt8) : Nat × Nat := ((p.1 + x.toNat) % 65521, (p.2 + (p.1 + x.toNat) % 65521) % 65521)
def runP (p : Nat × Nat) (l : List UInt8) : Nat × Nat := l.foldl stepP p
def partsP (s : Nat) : Nat × Nat := (s % 65536 % 65521, s / 65536 % 65521)
def wholeP (p : Nat × Nat) : Nat := p.2 * 65536 + p.1
def moreP (s : Nat) (l : List UInt8) : Nat := wholeP (runP (partsP s) l)
def sumP (l : List UInt8) : Nat := moreP 1 l
theorem stepP_lt (p : Nat × Nat) (x : UInt8) : (stepP p x).1 < 65521 ∧ (stepP p x).2 < 65521 := by simp only [stepP]; omega
theorem partsP_lt (s : Nat) : (partsP s).1 < 65521 ∧ (partsP s).2 < 65521 := by simp only [partsP]; omega
theorem runP_snoc (p : Nat × Nat) (l : List UInt8) (x : UInt8) : runP p (l ++ [x]) = stepP (runP p l) x := by simp [runP]
theorem runP_take (p : Nat × Nat) (l : List UInt8) (k : Nat) (h : k < l.length) : runP p (l.take (k + 1)) = stepP (runP p (l.take k)) l[k] := by
 rw [List.take_succ_eq_append_getElem h, runP_snoc]
theorem runP_lt (p : Nat × Nat) (h : p.1 < 65521 ∧ p.2 < 65521) (l : List UInt8) : (runP p l).1 < 65521 ∧ (runP p l).2 < 65521 := by
 refine snoc_ind (p := fun l => (runP p l).1 < 65521 ∧ (runP p l).2 < 65521) h ?_ l;intro ds d _;rw [runP_snoc];exact stepP_lt _ _
theorem wholeP_lt (p : Nat × Nat) (h : p.1 < 65521 ∧ p.2 < 65521) : wholeP p < 4294967296 := by simp only [wholeP]; omega
theorem moreP_lt (s : Nat) (l : List UInt8) : moreP s l < 4294967296 := wholeP_lt _ (runP_lt _ (partsP_lt s) l)
end M
namespace M
theorem sumP_lt (l : List UInt8) : sumP l < 4294967296 := moreP_lt 1 l
theorem big4_length (n : Nat) : (big 4 n).length = 4 := big_length 4 n
end M
section
open Go Go.RowKit
attribute [local go_sem ↓] run_index_S
attribute [local go_sem] S_append S_extract
theorem Jh4 (s : Nat) (hs : s < 4294967296) (w : World) :
  Calls Tryz.prog 192 #[.int .u32 s] w fun e w' => e = .returned (.tuple #[.int .i64 (M.partsP s).1, .int .i64 (M.partsP s).2]) ∧ w = w' := by
 have e1 : (M.partsP s).1 = s % 65536 % 65521 := rfl;have e2 : (M.partsP s).2 = s / 65536 % 65521 := rfl;rw [e1, e2];clear e1 e2;go_enter Tryz.func192, Tryz.ntmps192;go_wp2_with fail;go_ret2
 exact ⟨rfl, rfl⟩
theorem Jh5 (a b : Nat) (ha : a < 65521) (hb : b < 65521) (w : World) :
  Calls Tryz.prog 193 #[.int .i64 a, .int .i64 b] w fun e w' => e = .returned (.int .u32 (M.wholeP (a, b))) ∧ w = w' := by
 go_enter Tryz.func193, Tryz.ntmps193;go_wp2_with fail;go_ret;exact ⟨rfl, rfl⟩
theorem Jl3 (p : Nat × Nat) (l : List UInt8) (k : Nat) (h : k < l.length) :
  ((M.runP p (l.take k)).1 + B l k) % 65521 = (M.runP p (l.take (k + 1))).1 ∧ ((M.runP p (l.take k)).2 + ((M.runP p (l.take k)).1 + B l k) % 65521) % 65521 = ((M.runP p (l.take (k + 1))).2 : Int) := by
 rw [M.runP_take p l k h, B_at l k h];simp only [M.stepP];omega
theorem Jji (s : Nat) (hs : s < 4294967296) (l : List UInt8) (hl : l.length ≤ 9223372036854775807) (w : World) :
  Calls Tryz.prog 172 #[.int .u32 s, .string (S l)] w fun e w' => e = .returned (.int .u32 (M.moreP s l)) ∧ w = w' := by
 have hp := M.partsP_lt s;go_enter Tryz.func172, Tryz.ntmps172;go_wp2_with (go_at_call 192; refine (Jh4 s hs _).mono ?_; rintro e w' ⟨rfl, rfl⟩)
 go_loop [5, 6, 7] (fun a b i => ∃ k : Nat, k ≤ l.length ∧ a = .int .i64 (M.runP (M.partsP s) (l.take k)).1 ∧ b = .int .i64 (M.runP (M.partsP s) (l.take k)).2 ∧ i = .int .i64 k) (fun _ _ i => l.length - (intOf i).toNat)
 case atStart => exact ⟨0, Nat.zero_le _, rfl, rfl, rfl⟩
 case round =>
  obtain ⟨k, hk, rfl, rfl, rfl⟩ := hrel;have hq := M.runP_lt (M.partsP s) hp (l.take k);by_cases hkl : k < l.length
  ·have hst := Jl3 (M.partsP s) l k hkl
   have hbr := Jan l k;generalize M.runP (M.partsP s) (l.take k) = q at *;have HST := Qh hst;clear hst;go_wp2_with fail;go_round
   case rel => exact ⟨k + 1, by omega, by rw [← HST.o.1], by rw [← HST.o.2], by go_num⟩
   case measure => simp [intOf]; omega
  ·obtain rfl : k = l.length := by omega
   have ht : M.runP (M.partsP s) (l.take l.length) = M.runP (M.partsP s) l := by rw [List.take_length]
   rw [ht] at hq ⊢;clear ht;obtain ⟨q, hqq⟩ : ∃ q, q = M.runP (M.partsP s) l := ⟨_, rfl⟩
   rw [← hqq] at hq ⊢;have HQ := Qh hqq;clear hqq;go_wp2_with (go_at_call 193; refine (Jh5 _ _ hq.1 hq.2 _).mono ?_; rintro e w' ⟨rfl, rfl⟩)
   go_ret;exact ⟨ret_int (by rw [HQ.o]; rfl), rfl⟩
theorem Jd5 (l : List UInt8) (hl : l.length ≤ 9223372036854775807) (w : World) :
  Calls Tryz.prog 146 #[.string (S l)] w fun e w' => e = .returned (.int .u32 (M.sumP l)) ∧ w = w' := by
 have h1 : ∀ W, Calls Tryz.prog 172 #[.int .u32 1, .string (S l)] W fun e w' => e = .returned (.int .u32 (M.moreP 1 l)) ∧ W = w' := fun W => Jji 1 (by decide) l hl W
 have H1 := Qh h1;clear h1;go_enter Tryz.func146, Tryz.ntmps146;go_wp2_with fail;with_reducible refine (H1.o _).mono ?_
 rintro e w3 ⟨rfl, rfl⟩;go_wp2_with fail;go_ret;exact ⟨rfl, rfl⟩
end
section
open Go Go.RowKit
attribute [local go_sem ↓] run_index_S
attribute [local go_sem] S_append S_extract
theorem Jg2 (n : Int) (w : World) (h0 : 0 ≤ n) (h1 : n < 131042) :
  Calls Tryz.prog 206 #[.int .u32 n] w fun e w' => e = .returned (.int .u32 (n % 65521)) ∧ w = w' := by
 by_cases h : 65521 ≤ n
 ·go_enter Tryz.func206, Tryz.ntmps206
  go_wp2_with fail;go_ret;exact ⟨ret_int (by omega), rfl⟩
 ·go_enter Tryz.func206, Tryz.ntmps206
  go_wp2_with fail;go_ret;exact ⟨ret_int (by omega), rfl⟩
def Jbm (w : World) (b : Nat) (p : Nat × Nat) : Prop := w.heap[b]? = some (.cells #[.int .u32 p.1, .int .u32 p.2] 188 (0, 0))
theorem Jpc (b : Nat) (p : Nat × Nat) (hp : p.1 < 65521 ∧ p.2 < 65521) (x : UInt8) (w : World) (hw : Jbm w b p) :
  Calls Tryz.prog 180 #[.pointer (some ⟨b, 0, none⟩), .int .u8 x.toNat] w fun e w' => e = .returned (.tuple #[]) ∧ Jbm w' b (M.stepP p x) ∧ Below b w w' := by
 obtain ⟨a, c⟩ := p;have hx := x.toNat_lt;simp only at hp;unfold Jbm at hw;have h0 : w.cell? ⟨b, 0, none⟩ = some (.int .u32 a) := by simp [World.cell?, hw]
 have h1 : w.cell? ⟨b, 1, none⟩ = some (.int .u32 c) := by simp [World.cell?, hw]
 have f0 : w.frozen? ⟨b, 0, none⟩ = false := by simp [World.frozen?, hw]
 have f1 : w.frozen? ⟨b, 1, none⟩ = false := by simp [World.frozen?, hw]
 have HW := Qh hw;clear hw;go_enter Tryz.func180, Tryz.ntmps180;obtain ⟨a', ha'⟩ : ∃ a' : Nat, a' = (a + x.toNat) % 65521 := ⟨_, rfl⟩
 have hm : ((a : Int) + (x.toNat : Int)) % 65521 = (a' : Int) := by omega
 have ha'lt : a' < 65521 := by omega
 have HA := Qh ha';clear ha'
 have hw1 : Jbm (w.setCell ⟨b, 0, none⟩ (.int .u32 a')) b (a', c) := by
  unfold Jbm;rw [heap_setCell_same w b 0 _ _ _ HW.o]; simp
 have hbw1 : Below b w (w.setCell ⟨b, 0, none⟩ (.int .u32 a')) := (Below.refl b w).setCell (p := ⟨b, 0, none⟩) (Nat.le_refl b) _;go_wp2_with (go_at_call 206; refine (Jg2 _ _ (by omega) (by omega)).mono ?_; rintro e w' ⟨rfl, rfl⟩)
 generalize w.setCell ⟨b, 0, none⟩ (.int .u32 a') = w1 at *;unfold Jbm at hw1;have g0 : w1.cell? ⟨b, 0, none⟩ = some (.int .u32 a') := by simp [World.cell?, hw1]
 have g1 : w1.cell? ⟨b, 1, none⟩ = some (.int .u32 c) := by simp [World.cell?, hw1]
 have e1 : w1.frozen? ⟨b, 1, none⟩ = false := by simp [World.frozen?, hw1]
 have HW1 := Qh hw1;clear hw1 h0 h1 f0 f1 hm;have ew : IntKind.u32.wrap ((c : Int) + (a' : Int)) = (c : Int) + (a' : Int) := IntWalk.u32_in _ (by omega);go_region_with (go_at_call 206; refine (Jg2 _ _ (by omega) (by omega)).mono ?_; rintro e w' ⟨rfl, rfl⟩)
 all_goals go_wp2_with fail
 all_goals
  go_end0
  refine ⟨rfl, ?_, (hbw1.setCell (p := ⟨b, 1, none⟩) (Nat.le_refl b) _).drew⟩;show (w1.setCell _ _).heap[b]? = _
  rw [heap_setCell_same w1 b 1 _ _ _ HW1.o];simp only [M.stepP, ← HA.o];rfl
theorem Jg3 : ∀ n : Int, 0 ≤ n → n < 2 ^ 32 → IntKind.u32.wrap n = n := fun n h0 h1 => IntWalk.u32_in n (by omega)
theorem and16 (s : Nat) (hs : s < 4294967296) : bits .and .u32 (s : Int) 65535 = ((s % 65536 : Nat) : Int) := by
 rw [show (65535 : Int) = 2 ^ 16 - 1 from rfl, bits_mask .u32 32 (by decide) Jg3 16 (by decide) _ (by omega) (by omega)];rfl
theorem join16 (c a : Nat) (hc : c < 65536) (ha : a < 65536) : bits .or .u32 ((c : Int) * 65536) (a : Int) = ((c * 65536 + a : Nat) : Int) := by
 rw [bits_join .u32 32 (by decide) Jg3 16 _ _ (by omega) (by omega) (by omega) (by omega) (by omega) (by omega)];omega
theorem Jl4 (s : Nat) (hs : s < 4294967296) (w : World) :
  Calls Tryz.prog 178 #[.int .u32 s] w fun e w' => e = .returned (.agg #[.int .u32 (M.partsP s).1, .int .u32 (M.partsP s).2]) ∧ w' = w.alloc (.cells #[.int .u32 (M.partsP s).1, .int .u32 (M.partsP s).2] 188) := by
 have ha := and16 s hs;obtain ⟨x, hx⟩ : ∃ x, x = s % 65536 := ⟨_, rfl⟩
 rw [← hx] at ha;have hx2 : x < 65536 := by omega
 have e1 : (M.partsP s).1 = x % 65521 := by simp [M.partsP, hx]
 have e2 : (M.partsP s).2 = s / 65536 % 65521 := rfl;rw [e1, e2];have HX := Qh hx;clear hx e1 e2;go_enter Tryz.func178, Tryz.ntmps178;go_wp2_with fail;exact bodyPost_ret (v := .agg #[.int .u32 (x % 65521 : Nat), .int .u32 (s / 65536 % 65521 : Nat)]) (by simp [results, Tryz.results178, go_sem]) rfl ⟨rfl, rfl⟩
theorem Jpd (p : Nat × Nat) (hp : p.1 < 65521 ∧ p.2 < 65521) (w : World) :
  Calls Tryz.prog 181 #[.agg #[.int .u32 p.1, .int .u32 p.2]] w fun e w' => e = .returned (.int .u32 (M.wholeP p)) ∧ Below w.heap.size w w' := by
 obtain ⟨a, c⟩ := p;simp only at hp;have hj := join16 c a (by omega) (by omega);go_enter Tryz.func181, Tryz.ntmps181;go_wp2_with fail;go_ret;exact ⟨rfl, Qa _⟩
theorem Jnk (b : Nat) (p : Nat × Nat) (hp : p.1 < 65521 ∧ p.2 < 65521) (l : List UInt8) (hl : l.length ≤ 9223372036854775807) (w : World) (hw : Jbm w b p) :
  Calls Tryz.prog 179 #[.string (S l), .func (Fn.func 180) #[.pointer (some ⟨b, 0, none⟩)] #[]] w fun e w' => e = .returned (.tuple #[]) ∧ Jbm w' b (M.runP p l) ∧ Below b w w' := by
 go_enter Tryz.func179, Tryz.ntmps179;go_wp2_with fail;go_loopw [7] (fun i wr => ∃ k : Nat, k ≤ l.length ∧ i = .int .i64 k ∧ Jbm wr b (M.runP p (l.take k)) ∧ Below b w wr) (fun i _ => l.length - (intOf i).toNat)
 case atStart => exact ⟨0, Nat.zero_le _, rfl, hw, Below.refl _ _⟩
 case round =>
  obtain ⟨k, hk, rfl, hpk, hb⟩ := hrel;by_cases hkl : k < l.length
  ·have hadd := Jpc b (M.runP p (l.take k)) (M.runP_lt p hp _) l[k] wr hpk
   rw [← B_at l k hkl, ← M.runP_take p l k hkl] at hadd;have HADD := Qh hadd;have HP := Qh hpk;have hbr := Jan l k;clear hadd hpk;go_wp2_with fail;with_reducible refine HADD.o.mono ?_
   rintro e w2 ⟨rfl, hp2, hb2⟩;have HP2 := Qh hp2;clear hp2;go_wp2_with fail;go_roundw
   case rel => exact ⟨k + 1, by omega, by go_num, HP2.o, hb.trans hb2⟩
   case measure => simp [intOf]; omega
  ·obtain rfl : k = l.length := by omega
   rw [List.take_length] at hpk;have HP := Qh hpk;clear hpk;go_wp2_with fail;go_end0
   exact ⟨rfl, HP.o, hb⟩
theorem Jjj (w : World) (p : Nat × Nat) : Jbm (w.alloc (.cells #[.int .u32 p.1, .int .u32 p.2] 188)) w.heap.size p := heap_alloc_new w _
theorem Jnl (s : Nat) (hs : s < 4294967296) (l : List UInt8) (hl : l.length ≤ 9223372036854775807) (w : World) :
  Calls Tryz.prog 163 #[.int .u32 s, .string (S l)] w fun e w' => e = .returned (.int .u32 (M.moreP s l)) ∧ Below w.heap.size w w' := by
 have hp := M.partsP_lt s
 have hw1 : Jbm ((w.alloc (.cells #[.int .u32 (M.partsP s).1, .int .u32 (M.partsP s).2] 188)).alloc (.cells #[.int .u32 (M.partsP s).1, .int .u32 (M.partsP s).2] 188)) (w.heap.size + 1) (M.partsP s) := by
  have := Jjj (w.alloc (.cells #[.int .u32 (M.partsP s).1, .int .u32 (M.partsP s).2] 188)) (M.partsP s);simpa using this
 have hb1 : Below w.heap.size w ((w.alloc (.cells #[.int .u32 (M.partsP s).1, .int .u32 (M.partsP s).2] 188)).alloc (.cells #[.int .u32 (M.partsP s).1, .int .u32 (M.partsP s).2] 188)) :=
  (Qa _).alloc (by simp) _
 have HW1 := Qh hw1;clear hw1;go_enter Tryz.func163, Tryz.ntmps163;go_wp2_with (go_at_call 178; refine (Jl4 s hs _).mono ?_; rintro e w' ⟨rfl, rfl⟩)
 with_reducible refine (Jnk (w.heap.size + 1) (M.partsP s) hp l hl _ HW1.o).mono ?_
 rintro e w2 ⟨rfl, hp2, hb2⟩;have hq := M.runP_lt (M.partsP s) hp l;obtain ⟨q, hqq⟩ : ∃ q, q = M.runP (M.partsP s) l := ⟨_, rfl⟩
 rw [← hqq] at hp2 hq;unfold Jbm at hp2;have g0 : w2.cell? ⟨w.heap.size + 1, 0, none⟩ = some (.int .u32 q.1) := by simp [World.cell?, hp2]
 have g1 : w2.cell? ⟨w.heap.size + 1, 1, none⟩ = some (.int .u32 q.2) := by simp [World.cell?, hp2]
 have HQ := Qh hqq;have HP2 := Qh hp2;clear hqq hp2;go_wp2_with fail;with_reducible refine (Jpd q hq _).mono ?_
 rintro e w3 ⟨rfl, hb3⟩;go_wp2_with fail;go_ret;exact ⟨ret_int (by rw [HQ.o]; rfl), Jaa (hb1.trans (hb2.mono (by omega))) hb3⟩
theorem Jfm (l : List UInt8) (hl : l.length ≤ 9223372036854775807) (w : World) :
  Calls Tryz.prog 121 #[.string (S l)] w fun e w' => e = .returned (.int .u32 (M.sumP l)) ∧ Below w.heap.size w w' := by
 have h1 : ∀ W, Calls Tryz.prog 163 #[.int .u32 1, .string (S l)] W fun e w' => e = .returned (.int .u32 (M.moreP 1 l)) ∧ Below W.heap.size W w' := fun W => Jnl 1 (by decide) l hl W
 have H1 := Qh h1;clear h1;go_enter Tryz.func121, Tryz.ntmps121;go_wp2_with fail;with_reducible refine (H1.o _).mono ?_
 rintro e w3 ⟨rfl, hb3⟩;go_wp2_with fail;go_ret;exact ⟨rfl, hb3⟩
end
section
open Go Go.RowKit
attribute [local go_sem ↓] run_index_S
attribute [local go_sem] S_append S_extract
theorem Jeo (s : Nat) (hs : s < 4294967296) (w : World) :
  Calls Tryz.prog 120 #[.int .u32 s] w fun e w' => e = .returned (.string (S (M.big 4 s))) ∧ Below w.heap.size w w' := by
 have hd : (M.bigN s).drop 4 = M.big 4 s := rfl;have hsl := Ja6 (P := Tryz.prog) 9 Tryz.underlying9 (M.bigN s) 4 4 rfl (by rw [M.bigN_length]; omega);rw [hd] at hsl;go_enter Tryz.func120, Tryz.ntmps120;go_wp2_with (go_at_call 162; refine (Jpa s _ (by omega)).mono ?_; rintro e w' ⟨rfl, hb1⟩)
 go_ret;exact ⟨rfl, by assumption⟩
theorem Jdi (s : Nat) (hs : s < 4294967296) (w : World) :
  Calls Tryz.prog 145 #[.int .u32 s] w fun e w' => e = .returned (.string (S (M.big 4 s))) ∧ Below w.heap.size w w' := by
 have kk := @Jfr Tryz.prog 116 9 5 Tryz.underlying116 Tryz.underlying5 Tryz.underlying9
 have e : (⟨#[UInt8.ofNat (s / 16777216), UInt8.ofNat (s / 65536 % 256), UInt8.ofNat (s / 256 % 256), UInt8.ofNat (s % 256)]⟩ : ByteArray) = S (M.big 4 s) := by
  have e1 : s / 16777216 = s / 16777216 % 256 := by omega
  rw [e1];simp [M.big, M.u8]
 have HE := Qh e;clear e;go_enter Tryz.func145, Tryz.ntmps145;go_wp2_with fail;go_ret;exact ⟨ret_string HE.o, Qa _⟩
end
end Go.Proofs.YtmammmjmipgmoaaGreatDoor
