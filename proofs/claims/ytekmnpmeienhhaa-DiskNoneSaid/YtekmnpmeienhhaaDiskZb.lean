/- Layer 5: DiskNone, walked. -/
import Derived.Test.YtekmnpmeienhhaaDiskZa
import Derived.Test.YtekmnpmeienhhaaDiskMn
import Derived.Test.YtekmnpmeienhhaaDiskCr
namespace Go.Proofs.Ytekmnpmeienhhaa
set_option linter.unusedVariables false
open Go Go.RowKit Go.Maps

/-- The act in its box. -/
structure ZnI (W : World) (xb : Nat) (r : Ra) (w : World) : Prop where
  x : ∃ kd : Int, Bk #[.int .u8 kd, .string (S r.name), .string (S r.other), .string (S r.data), .int .i64 r.n, .slice r.o r.keep.length r.k] 34 w xb
  le : W.heap.size ≤ xb
  bel : Below W.heap.size W w
section
variable {W w w' : World} {xb : Nat} {r : Ra} {p : Option Addr}
theorem ZnI.below (h : ZnI W xb r w) (hb : Below w.heap.size w w') : ZnI W xb r w' := ⟨by obtain ⟨kd, hk⟩ := h.x; exact ⟨kd, hk.below hb⟩, h.le, below_step h.bel hb⟩
theorem ZnI.c0 (h : ZnI W xb r w) : (∃ kd, w.cell? ⟨xb, 0, none⟩ = some (.int .u8 kd)) ∧ w.frozen? ⟨xb, 0, none⟩ = false := by
  obtain ⟨kd, hk⟩ := h.x
  exact ⟨⟨kd, hk.cell 0⟩, hk.free 0⟩
theorem ZnI.nm (h : ZnI W xb r w) : w.cell? ⟨xb, 1, none⟩ = some (.string (S r.name)) ∧ xb < w.heap.size := by
  obtain ⟨kd, hk⟩ := h.x
  exact ⟨hk.cell 1, hk.lt⟩
/-- .. its kind known. -/
def ZnK (W : World) (xb : Nat) (r : Ra) (k : Int) (w : World) : Prop := ZnI W xb r w ∧ Bk #[.int .u8 k, .string (S r.name), .string (S r.other), .string (S r.data), .int .i64 r.n, .slice r.o r.keep.length r.k] 34 w xb
theorem ZnI.set (h : ZnI W xb r w) (k : Int) : ZnK W xb r k (w.setCell ⟨xb, 0, none⟩ (.int .u8 k)) := by
  obtain ⟨kd, hk⟩ := h.x
  have h1 := hk.set 0 (.int .u8 k)
  exact ⟨⟨⟨k, h1⟩, h.le, h.bel.setCell (p := ⟨xb, 0, none⟩) h.le _⟩, h1⟩
theorem ZnK.cells {k : Int} (h : ZnK W xb r k w) : w.cell? ⟨xb, 0, none⟩ = some (.int .u8 k) ∧ w.cell? ⟨xb, 1, none⟩ = some (.string (S r.name)) ∧ w.cell? ⟨xb, 2, none⟩ = some (.string (S r.other)) ∧ w.cell? ⟨xb, 3, none⟩ = some (.string (S r.data)) ∧ w.cell? ⟨xb, 4, none⟩ = some (.int .i64 r.n) ∧ w.cell? ⟨xb, 5, none⟩ = some (.slice r.o r.keep.length r.k) :=
  ⟨h.2.cell 0, h.2.cell 1, h.2.cell 2, h.2.cell 3, h.2.cell 4, h.2.cell 5⟩
theorem noDk_set {C : Array Value} (h : NoDk w p) (v : Value) (hx : Bk C 34 w xb) : NoDk (w.setCell ⟨xb, 0, none⟩ v) p := by
  rcases h with h | ⟨b, h, k⟩
  · exact .inl h
  · refine .inr ⟨b, h, k.other (fun e => ?_) 0 v⟩
    subst e
    unfold Bk at hx k
    rw [hx] at k
    injection k with k
    injection k with _ k
    revert k
    decide
end
namespace Dk
def zn1 : St := ⟨100, 0, true, none, [⟨[97], [120], 0⟩]⟩
theorem znn : names zn1.L = [[97]] := by rfl
theorem znu : unsynced zn1.L = [1] := by rfl
theorem znq : append [97] [120] (Dk.new 100) = (0, zn1) := by rfl
end Dk
theorem one_ts5 (W : World) (a : List UInt8) : TsA5 (W.alloc (.cells #[.string (S a)] 9)) (some ⟨W.heap.size, 0, none⟩) [a] := fun _ => ⟨W.heap.size, 0, rfl, fun j hj => by
  have h := bk_new #[.string (S a)] 9 W
  have hj2 : j = 0 := by simp at hj; omega
  subst hj2
  exact h.cell 0⟩
theorem one_ns5 (W : World) (a : Int) : NsA5 (W.alloc (.cells #[.int .i64 a] 3)) (some ⟨W.heap.size, 0, none⟩) [a] := fun _ => ⟨W.heap.size, 0, rfl, fun j hj => by
  have h := bk_new #[.int .i64 a] 3 W
  have hj2 : j = 0 := by simp at hj; omega
  subst hj2
  exact h.cell 0⟩
set_option maxRecDepth 100000 in
set_option maxHeartbeats 8000000 in
theorem diskNone_calls (W : World) (v : Value) (hv : URa W v) : Calls Try.prog 4 #[v] W fun e w' => e = .returned (.bool true) ∧ Below W.heap.size W w' := by
  obtain ⟨r, rfl, hI, hK⟩ := hv
  have CD := Lib.hid does5
  obtain ⟨W1, hW1⟩ : ∃ x, x = W.alloc (.cells (raA r) 34) := ⟨_, rfl⟩
  have hb1 : Below W.heap.size W W1 := by rw [hW1]; exact (Below.refl _ _).alloc (Nat.le_refl _) _
  have hx1 : Bk (raA r) 34 W1 W.heap.size := by rw [hW1]; exact bk_new _ _ _
  have hb2 : Below W1.heap.size W1 (W1.alloc (.cells (raA r) 34)) := (Below.refl _ _).alloc (Nat.le_refl _) _
  have hx2 : Bk (raA r) 34 (W1.alloc (.cells (raA r) 34)) W1.heap.size := bk_new _ _ _
  have HZ := Lib.hid (show ZnI W W.heap.size r (W1.alloc (.cells (raA r) 34)) from ⟨⟨r.kind, hx1.below hb2⟩, Nat.le_refl _, below_step hb1 hb2⟩)
  have CG := Lib.hid (show Calls Try.prog 16 #[.slice (some ⟨W1.heap.size, 0, none⟩) 1 1] (W1.alloc (.cells (raA r) 34)) (GreatR [r] (W1.alloc (.cells (raA r) 34))) from great5 [r] _ 1 _ ⟨by simp, fun y hy => by simp at hy; subst hy; exact hI⟩ (fun _ => ⟨W1.heap.size, 0, rfl, fun j hj => by
    have hj2 : j = 0 := by simp at hj; omega
    subst hj2
    exact ⟨hx2.cell 0, hx2.cell 1, hx2.cell 2, hx2.cell 3, hx2.cell 4, hx2.cell 5, (hK.below hb1).below hb2⟩⟩))
  have HX1 := Lib.hid hx1
  clear hI hK hb1 hx1 hb2 hx2
  unfold raA at *
  go_enter Try.func4, Try.ntmps4
  go_upto_region 1 with fail
  rw [← hW1]
  obtain ⟨xb, hxb⟩ : ∃ x, x = W.heap.size := ⟨_, rfl⟩
  rw [← hxb] at HX1 ⊢
  replace HZ := Lib.hid (show ZnI W xb r _ from by rw [hxb]; exact HZ.out)
  clear hxb hW1
  have x0 : W1.cell? ⟨xb, 0, none⟩ = some (.int .u8 r.kind) := HX1.out.cell 0
  have x1 : W1.cell? ⟨xb, 1, none⟩ = some (.string (S r.name)) := HX1.out.cell 1
  have x2 : W1.cell? ⟨xb, 2, none⟩ = some (.string (S r.other)) := HX1.out.cell 2
  have x3 : W1.cell? ⟨xb, 3, none⟩ = some (.string (S r.data)) := HX1.out.cell 3
  have x4 : W1.cell? ⟨xb, 4, none⟩ = some (.int .i64 r.n) := HX1.out.cell 4
  have x5 : W1.cell? ⟨xb, 5, none⟩ = some (.slice r.o r.keep.length r.k) := HX1.out.cell 5
  go_wp2_with fail
  with_reducible refine CG.out.mono ?_
  clear x0 x1 x2 x3 x4 x5 HX1
  rintro e w2 (⟨rfl, rfl⟩ | ⟨rfl, -, rfl⟩)
  · go_wp2_with fail
    go_ret
    exact ⟨rfl, HZ.out.bel⟩
  clear CG
  generalize W1.alloc (.cells #[.int .u8 r.kind, .string (S r.name), .string (S r.other), .string (S r.data), .int .i64 r.n, .slice r.o r.keep.length r.k] 34) = W2 at *
  go_wp2_with fail
  go_loopw [3] (fun v wr => ∃ i : Nat, i ≤ 2 ∧ v = .int .i64 i ∧ Hid (ZnI W xb r wr)) (fun v _ => 2 - (intOf v).toNat)
  case atStart => exact ⟨0, Nat.zero_le _, rfl, HZ⟩
  case round =>
    obtain ⟨w3, rfl⟩ : ∃ x, x = wr := ⟨_, rfl⟩
    obtain ⟨i, hi, rfl, HZ⟩ := hrel
    obtain ⟨iv, hiv⟩ : ∃ x : Int, x = (i : Int) := ⟨_, rfl⟩
    rw [← hiv]
    obtain rfl | rfl | rfl : iv = 0 ∨ iv = 1 ∨ iv = 2 := by omega
    all_goals clear hiv hi
    · have HP : Hid (NoDk w3 none) := Lib.hid (.inl rfl)
      go_wp2_with fail
      go_loopw [5] (fun v wr => ∃ k : Nat, k ≤ 12 ∧ v = .int .i64 k ∧ Hid (ZnI W xb r wr ∧ NoDk wr none)) (fun v _ => 12 - (intOf v).toNat)
      case atStart => exact ⟨0, Nat.zero_le _, rfl, Lib.hid ⟨HZ.out, HP.out⟩⟩
      case round =>
        obtain ⟨k, hk, rfl, HH⟩ := hrel
        by_cases hlt : k < 12
        · have d1 : decide ((k : Int) < (12 : Int)) = true := by simp; omega
          have d1' : decide (k < 12) = true := by simp; omega
          have e1 : IntKind.u8.wrap (k : Int) = (k : Int) := by simp [IntKind.wrap, IntKind.bits, IntKind.signed]; omega
          obtain ⟨HZ1, HP1⟩ := HH.out
          obtain ⟨kd, hkd⟩ := HZ1.x
          obtain ⟨⟨kd0, c0⟩, f0⟩ := HZ1.c0
          have HS := Lib.hid (HZ1.set (k : Int))
          have HPS := Lib.hid (noDk_set HP1 (xb := xb) (.int .u8 (k : Int)) hkd)
          have CDn := Lib.hid (fun w0 (h : NoDk w0 none) => doneN h (k : Int) (by omega) r)
          clear HZ1 HP1 hkd
          go_upto_region 13 with fail
          obtain ⟨wS, hwS⟩ : ∃ x, x = wr.setCell ⟨xb, 0, none⟩ (.int .u8 (k : Int)) := ⟨_, rfl⟩
          rw [← hwS] at HS HPS ⊢
          clear hwS c0 f0 e1
          obtain ⟨g0, g1, g2, g3, g4, g5⟩ := HS.out.cells
          go_wp2_with fail
          with_reducible refine (CDn.out _ HPS.out).mono ?_
          rintro e w5 ⟨rfl, hb⟩
          have HZ5 := Lib.hid (HS.out.1.below hb)
          have HP5 := Lib.hid (HPS.out.below hb)
          clear hb g0 g1 g2 g3 g4 g5 CDn HPS HS
          go_wp2_with fail
          go_roundw
          case rel => exact ⟨k + 1, by omega, by go_num, Lib.hid ⟨HZ5.out, HP5.out⟩⟩
          case measure => simp [intOf]; omega
        · have d1 : decide ((k : Int) < (12 : Int)) = false := by simp; omega
          have d1' : decide (k < 12) = false := by simp; omega
          replace HZ := Lib.hid HH.out.1
          replace HP := Lib.hid HH.out.2
          clear HH
          obtain ⟨m0, m1⟩ := HZ.out.nm
          have CR := Lib.hid (readN HP.out r.name)
          go_wp2_with fail
          with_reducible refine CR.out.mono ?_
          rintro e w5 ⟨rfl, hb⟩
          replace HZ := Lib.hid (HZ.out.below hb)
          replace HP := Lib.hid (HP.out.below hb)
          clear hb m0 m1 CR
          obtain ⟨m0, m1⟩ := HZ.out.nm
          have CR := Lib.hid (syncedN HP.out r.name)
          go_wp2_with fail
          with_reducible refine CR.out.mono ?_
          rintro e w6 ⟨rfl, hb⟩
          replace HZ := Lib.hid (HZ.out.below hb)
          replace HP := Lib.hid (HP.out.below hb)
          clear hb m0 m1 CR
          have CR := Lib.hid (namesN HP.out)
          go_wp2_with fail
          with_reducible refine CR.out.mono ?_
          rintro e w7 ⟨rfl, hb⟩
          replace HZ := Lib.hid (HZ.out.below hb)
          replace HP := Lib.hid (HP.out.below hb)
          clear hb CR
          have CR := Lib.hid (unsyncedN HP.out)
          go_wp2_with fail
          with_reducible refine CR.out.mono ?_
          rintro e w8 ⟨rfl, hb⟩
          replace HZ := Lib.hid (HZ.out.below hb)
          replace HP := Lib.hid (HP.out.below hb)
          clear hb CR
          have CR := Lib.hid (sizeN HP.out)
          go_wp2_with fail
          with_reducible refine CR.out.mono ?_
          rintro e w9 ⟨rfl, hb⟩
          replace HZ := Lib.hid (HZ.out.below hb)
          replace HP := Lib.hid (HP.out.below hb)
          clear hb CR
          have CR := Lib.hid (upN HP.out)
          go_wp2_with fail
          with_reducible refine CR.out.mono ?_
          rintro e w10 ⟨rfl, hb⟩
          replace HZ := Lib.hid (HZ.out.below hb)
          replace HP := Lib.hid (HP.out.below hb)
          clear hb CR
          have CR := Lib.hid (startsN HP.out)
          go_wp2_with fail
          with_reducible refine CR.out.mono ?_
          rintro e w11 ⟨rfl, hb⟩
          replace HZ := Lib.hid (HZ.out.below hb)
          clear hb CR HP
          go_wp2_with fail
          go_roundw
          case rel => exact ⟨1, by omega, by first | rfl | go_num, HZ⟩
          case measure => simp [intOf]; first | done | omega
    · skip
      have HP0 := Lib.hid (bk_new noCells5 43 w3)
      have HZ0 := Lib.hid (HZ.out.below ((Below.refl _ _).alloc (Nat.le_refl _) (.cells noCells5 43)))
      unfold noCells5 at HP0 HZ0
      go_upto_region 9 with fail
      obtain ⟨db, hdb⟩ : ∃ x, x = w3.heap.size := ⟨_, rfl⟩
      obtain ⟨w4, hw4⟩ : ∃ x, x = w3.alloc (.cells #[.int .i64 0, .int .i64 0, .map none, .bool false, .int .i64 0, .nilFunc] 43) := ⟨_, rfl⟩
      rw [← hdb, ← hw4] at HP0
      rw [← hw4] at HZ0
      rw [← hdb, ← hw4]
      have HP : Hid (NoDk w4 (some ⟨db, 0, none⟩)) := Lib.hid (.inr ⟨db, rfl, HP0.out⟩)
      replace HZ := HZ0
      clear hdb hw4 HP0 HZ0
      go_wp2_with fail
      go_loopw [5] (fun v wr => ∃ k : Nat, k ≤ 12 ∧ v = .int .i64 k ∧ Hid (ZnI W xb r wr ∧ NoDk wr (some ⟨db, 0, none⟩))) (fun v _ => 12 - (intOf v).toNat)
      case atStart => exact ⟨0, Nat.zero_le _, rfl, Lib.hid ⟨HZ.out, HP.out⟩⟩
      case round =>
        obtain ⟨k, hk, rfl, HH⟩ := hrel
        by_cases hlt : k < 12
        · have d1 : decide ((k : Int) < (12 : Int)) = true := by simp; omega
          have d1' : decide (k < 12) = true := by simp; omega
          have e1 : IntKind.u8.wrap (k : Int) = (k : Int) := by simp [IntKind.wrap, IntKind.bits, IntKind.signed]; omega
          obtain ⟨HZ1, HP1⟩ := HH.out
          obtain ⟨kd, hkd⟩ := HZ1.x
          obtain ⟨⟨kd0, c0⟩, f0⟩ := HZ1.c0
          have HS := Lib.hid (HZ1.set (k : Int))
          have HPS := Lib.hid (noDk_set HP1 (xb := xb) (.int .u8 (k : Int)) hkd)
          have CDn := Lib.hid (fun w0 (h : NoDk w0 (some ⟨db, 0, none⟩)) => doneN h (k : Int) (by omega) r)
          clear HZ1 HP1 hkd
          go_upto_region 13 with fail
          obtain ⟨wS, hwS⟩ : ∃ x, x = wr.setCell ⟨xb, 0, none⟩ (.int .u8 (k : Int)) := ⟨_, rfl⟩
          rw [← hwS] at HS HPS ⊢
          clear hwS c0 f0 e1
          obtain ⟨g0, g1, g2, g3, g4, g5⟩ := HS.out.cells
          go_wp2_with fail
          with_reducible refine (CDn.out _ HPS.out).mono ?_
          rintro e w5 ⟨rfl, hb⟩
          have HZ5 := Lib.hid (HS.out.1.below hb)
          have HP5 := Lib.hid (HPS.out.below hb)
          clear hb g0 g1 g2 g3 g4 g5 CDn HPS HS
          go_wp2_with fail
          go_roundw
          case rel => exact ⟨k + 1, by omega, by go_num, Lib.hid ⟨HZ5.out, HP5.out⟩⟩
          case measure => simp [intOf]; omega
        · have d1 : decide ((k : Int) < (12 : Int)) = false := by simp; omega
          have d1' : decide (k < 12) = false := by simp; omega
          replace HZ := Lib.hid HH.out.1
          replace HP := Lib.hid HH.out.2
          clear HH
          obtain ⟨m0, m1⟩ := HZ.out.nm
          have CR := Lib.hid (readN HP.out r.name)
          go_wp2_with fail
          with_reducible refine CR.out.mono ?_
          rintro e w5 ⟨rfl, hb⟩
          replace HZ := Lib.hid (HZ.out.below hb)
          replace HP := Lib.hid (HP.out.below hb)
          clear hb m0 m1 CR
          obtain ⟨m0, m1⟩ := HZ.out.nm
          have CR := Lib.hid (syncedN HP.out r.name)
          go_wp2_with fail
          with_reducible refine CR.out.mono ?_
          rintro e w6 ⟨rfl, hb⟩
          replace HZ := Lib.hid (HZ.out.below hb)
          replace HP := Lib.hid (HP.out.below hb)
          clear hb m0 m1 CR
          have CR := Lib.hid (namesN HP.out)
          go_wp2_with fail
          with_reducible refine CR.out.mono ?_
          rintro e w7 ⟨rfl, hb⟩
          replace HZ := Lib.hid (HZ.out.below hb)
          replace HP := Lib.hid (HP.out.below hb)
          clear hb CR
          have CR := Lib.hid (unsyncedN HP.out)
          go_wp2_with fail
          with_reducible refine CR.out.mono ?_
          rintro e w8 ⟨rfl, hb⟩
          replace HZ := Lib.hid (HZ.out.below hb)
          replace HP := Lib.hid (HP.out.below hb)
          clear hb CR
          have CR := Lib.hid (sizeN HP.out)
          go_wp2_with fail
          with_reducible refine CR.out.mono ?_
          rintro e w9 ⟨rfl, hb⟩
          replace HZ := Lib.hid (HZ.out.below hb)
          replace HP := Lib.hid (HP.out.below hb)
          clear hb CR
          have CR := Lib.hid (upN HP.out)
          go_wp2_with fail
          with_reducible refine CR.out.mono ?_
          rintro e w10 ⟨rfl, hb⟩
          replace HZ := Lib.hid (HZ.out.below hb)
          replace HP := Lib.hid (HP.out.below hb)
          clear hb CR
          have CR := Lib.hid (startsN HP.out)
          go_wp2_with fail
          with_reducible refine CR.out.mono ?_
          rintro e w11 ⟨rfl, hb⟩
          replace HZ := Lib.hid (HZ.out.below hb)
          clear hb CR HP
          go_wp2_with fail
          go_roundw
          case rel => exact ⟨2, by omega, by first | rfl | go_num, HZ⟩
          case measure => simp [intOf]; first | done | omega
    · have HB := Lib.hid HZ.out.bel
      have HW3 := Lib.hid HB.out.size
      clear HZ
      have CN := Lib.hid (show Calls Try.prog 17 #[.int .i64 100] w3 (NewXd5 100 w3) from newXd5 100 w3 (by decide) (by decide))
      go_wp2_with fail
      with_reducible refine CN.out.mono ?_
      rintro e w5 ⟨d, rfl, hd, hb, -⟩
      have HB5 := Lib.hid (below_step HB.out hb)
      have CA := appendX hd (fun q h => h.elim) hb.size [97] [120] (by decide) (by decide)
      rw [Dk.znq] at CA
      have CA := Lib.hid CA
      have HW5 := Lib.hid hb.size
      clear hd hb CN HB
      go_wp2_with fail
      with_reducible refine CA.out.mono ?_
      rintro e w6 ⟨rfl, hd, hw⟩
      have HD6 := Lib.hid hd
      have HB6 := Lib.hid (HB5.out.trans ((hw.below (fun q hq => hq.1) HW5.out).mono HW3.out))
      have HZ6 := Lib.hid hw.size
      have C1 := namesX hd
      rw [Dk.znn] at C1
      have C1 := Lib.hid (show Calls Try.prog 27 #[.pointer (some ⟨d, 0, none⟩)] w6 (RowT [[97]] w6) from C1)
      clear hd hw CA HB5
      go_wp2_with fail
      with_reducible refine C1.out.mono ?_
      rintro e w7 ⟨ao, ac, rfl, hr, hb⟩
      have HR1 := Lib.hid hr
      have HB67 := Lib.hid hb
      have C1 := unsyncedX (HD6.out.below hb)
      rw [Dk.znu] at C1
      have C1 := Lib.hid (show Calls Try.prog 28 #[.pointer (some ⟨d, 0, none⟩)] w7 (RowN [1] w7) from C1)
      clear hr hb
      go_wp2_with fail
      with_reducible refine C1.out.mono ?_
      rintro e w8 ⟨bo, bc, rfl, hr, hb⟩
      have HB68 := Lib.hid (below_step HB67.out hb)
      have HD8 := Lib.hid (HD6.out.newrow HB68.out)
      have hr1 := row_below5 HR1.out hb
      obtain ⟨g, rfl, hg0, hg1, hgc⟩ := row_at5 hr1 (k := 0) (by decide)
      obtain ⟨g2, rfl, hk0, hk1, hkc⟩ := row_at5 hr (k := 0) (by decide)
      have hgc' : w8.cell? ⟨g, 0, none⟩ = some (.string (S [97])) := hgc
      have f1 := row_free5 hr1 0
      have HN2 := row_set5 (i := 0) (u := .string ⟨#[63]⟩) hr (r := g) (fun q hq => by
        have hq' : some g2 = some q := hq
        injection hq' with hq'
        have hlt := HR1.out.lt g rfl
        omega)
      have hgne : g2 ≠ g := by have hlt := HR1.out.lt g rfl; omega
      obtain ⟨_, e2, _, _, hk2⟩ := row_at5 HN2 (k := 0) (by decide)
      cases e2
      have hk2' : (w8.setCell ⟨g, 0, none⟩ (.string ⟨#[63]⟩)).cell? ⟨g2, 0, none⟩ = some (.int .i64 1) := hk2
      have f2 := row_free5 HN2 0
      have HD9 := Lib.hid ((((HD8.out.wr (wr_set (A := fun q => q = g) w8 ⟨g, 0, none⟩ (.string ⟨#[63]⟩) rfl) (fun q e => by subst e; exact .inr ⟨hg0, hg1⟩)).wr (wr_set (A := fun q => q = g2) _ ⟨g2, 0, none⟩ (.int .i64 (-9)) rfl) (fun q e => by subst e; exact .inr ⟨by have := HB67.out.size; omega, hk1⟩)).less (X' := fun _ => False) (fun _ q => q.elim)))
      have HB9 := Lib.hid (((HB6.out.trans (HB68.out.mono (Nat.le_trans HW3.out (Nat.le_trans HW5.out HZ6.out)))).setCell (p := ⟨g, 0, none⟩) (by have := HW3.out; have := HW5.out; have := HZ6.out; show _ ≤ g; omega) (.string ⟨#[63]⟩)).setCell (p := ⟨g2, 0, none⟩) (by have := HW3.out; have := HW5.out; have := HZ6.out; have := HB67.out.size; show _ ≤ g2; omega) (.int .i64 (-9)))
      have HW9 := Lib.hid (show w3.heap.size ≤ ((w8.setCell ⟨g, 0, none⟩ (.string ⟨#[63]⟩)).setCell ⟨g2, 0, none⟩ (.int .i64 (-9))).heap.size from by have := HW5.out; have := HZ6.out; have := HB68.out.size; simp [World.setCell]; omega)
      have n1 : decide ((0 : Int) < (1 : Int)) = true := by decide
      clear hr hb C1 hr1 hgc hkc HN2 hk2 HB67 HD6 HB6 HR1 HD8 HB68
      go_upto_region 26 with fail
      generalize (w8.setCell ⟨g, 0, none⟩ (.string ⟨#[63]⟩)).setCell ⟨g2, 0, none⟩ (.int .i64 (-9)) = w9 at *
      clear hgc' f1 hk2' f2 hg0 hg1 hk0 hk1 hgne
      have C1 := namesX HD9.out
      rw [Dk.znn] at C1
      have C1 := Lib.hid (show Calls Try.prog 27 #[.pointer (some ⟨d, 0, none⟩)] w9 (RowT [[97]] w9) from C1)
      go_wp2_with fail
      with_reducible refine C1.out.mono ?_
      rintro e w10 ⟨ao, ac, rfl, hr, hb⟩
      have ha := (Below.refl w10.heap.size w10).alloc (Nat.le_refl _) (.cells #[.string (S [97])] 9)
      have C1 := Lib.hid (show Calls Try.prog 33 #[.slice ao 1 ac, .slice (some ⟨w10.heap.size, 0, none⟩) 1 1] (w10.alloc (.cells #[.string (S [97])] 9)) (fun e w' => e = .returned (.bool true) ∧ Below (w10.alloc (.cells #[.string (S [97])] 9)).heap.size (w10.alloc (.cells #[.string (S [97])] 9)) w') from
        sameTexts5_any [[97]] [[97]] (by decide) (by decide) ao _ ac 1 _ ((tsA_row5 (l := [[97]]) hr).below ha) (one_ts5 w10 [97]))
      have HD10 := Lib.hid ((HD9.out.below hb).below ha)
      have HB10 := Lib.hid (below_step (below_step HB9.out hb) ha)
      clear hr hb ha
      go_wp2_with fail
      with_reducible refine C1.out.mono ?_
      rintro e w11 ⟨rfl, hb⟩
      have HD11 := Lib.hid (HD10.out.below hb)
      have HB11 := Lib.hid (below_step HB10.out hb)
      have C1 := unsyncedX HD11.out
      rw [Dk.znu] at C1
      have C1 := Lib.hid (show Calls Try.prog 28 #[.pointer (some ⟨d, 0, none⟩)] w11 (RowN [1] w11) from C1)
      clear hb HD10 HB10
      go_wp2_with fail
      with_reducible refine C1.out.mono ?_
      rintro e w12 ⟨bo, bc, rfl, hr, hb⟩
      have ha := (Below.refl w12.heap.size w12).alloc (Nat.le_refl _) (.cells #[.int .i64 1] 3)
      have C1 := Lib.hid (show Calls Try.prog 22 #[.slice bo 1 bc, .slice (some ⟨w12.heap.size, 0, none⟩) 1 1] (w12.alloc (.cells #[.int .i64 1] 3)) (fun e w' => e = .returned (.bool true) ∧ Below (w12.alloc (.cells #[.int .i64 1] 3)).heap.size (w12.alloc (.cells #[.int .i64 1] 3)) w') from
        sameInts5_any [1] [1] (by decide) (by decide) bo _ bc 1 _ ((nsK_row (l := [1]) hr).1.below ha) (one_ns5 w12 1))
      have HB12 := Lib.hid (below_step (below_step HB11.out hb) ha)
      clear hr hb ha HD11 HB11
      go_wp2_with fail
      with_reducible refine C1.out.mono ?_
      rintro e w13 ⟨rfl, hb⟩
      have HB13 := Lib.hid (below_step HB12.out hb)
      clear hb
      go_wp2_with fail
      with_reducible refine (CD.out _).mono ?_
      rintro e w14 ⟨rfl, hb⟩
      have HB14 := Lib.hid (below_step HB13.out hb)
      clear hb
      go_wp2_with fail
      go_ret
      exact ⟨rfl, HB14.out⟩

end Go.Proofs.Ytekmnpmeienhhaa
