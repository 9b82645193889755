/- Layer 5: the example. -/
import Derived.Test.YtekmnpmeienhhaaDiskX
namespace Go.Proofs.Ytekmnpmeienhhaa
set_option linter.unusedVariables false
open Go Go.RowKit Go.Maps

namespace Dk
def ex0 : St := (⟨10, 0, true, none, []⟩ : St)
def ex1 : St := (⟨10, 0, true, none, [⟨[98], [120, 121, 122], 0⟩]⟩ : St)
def ex2 : St := (⟨10, 0, true, none, [⟨[98], [120, 121, 122], 3⟩]⟩ : St)
def ex3 : St := (⟨10, 0, true, none, [⟨[98], [120, 121, 122, 117, 118], 3⟩]⟩ : St)
def ex4 : St := (⟨10, 0, true, none, [⟨[97], [49, 50, 51, 52, 53], 0⟩, ⟨[98], [120, 121, 122, 117, 118], 3⟩]⟩ : St)
def ex5 : St := (⟨10, 0, false, none, [⟨[97], [49, 50], 2⟩, ⟨[98], [120, 121, 122, 117], 4⟩]⟩ : St)
def ex6 : St := (⟨10, 1, true, none, [⟨[97], [49, 50], 2⟩, ⟨[98], [120, 121, 122, 117], 4⟩]⟩ : St)
def ex7 : St := (⟨10, 1, true, (some (1, [0, 9])), [⟨[97], [49, 50], 2⟩, ⟨[98], [120, 121, 122, 117], 4⟩]⟩ : St)
def ex8 : St := (⟨10, 1, true, (some (0, [0, 9])), [⟨[97], [49, 50], 2⟩, ⟨[98], [120, 121, 122, 117, 113], 4⟩]⟩ : St)
def ex9 : St := (⟨10, 1, false, none, [⟨[97], [49, 50], 2⟩, ⟨[98], [120, 121, 122, 117, 113], 5⟩]⟩ : St)
def ex10 : St := (⟨10, 2, true, none, [⟨[97], [49, 50], 2⟩, ⟨[98], [120, 121, 122, 117, 113], 5⟩]⟩ : St)
theorem exq0 : append [98] [120, 121, 122] ex0 = (0, ex1) := by rfl
theorem exq1 : sync [98] ex1 = (0, ex2) := by rfl
theorem exq2 : append [98] [117, 118] ex2 = (0, ex3) := by rfl
theorem exq3 : append [97] [49, 50, 51, 52, 53] ex3 = (0, ex4) := by rfl
theorem exq4 : append [99] [54] ex4 = (50, ex4) := by rfl
theorem exq5 : crash [2, 1] ex4 = (0, ex5) := by rfl
theorem exq6 : start ex5 = (0, ex6) := by rfl
theorem exq7 : fail 1 [0, 9] ex6 = (0, ex7) := by rfl
theorem exq8 : append [98] [113] ex7 = (0, ex8) := by rfl
theorem exq9 : rename [98] [97] ex8 = (51, ex9) := by rfl
theorem exq10 : start ex9 = (0, ex10) := by rfl
theorem exr0 : read [98] ex6 = (0, [120, 121, 122, 117]) := by rfl
theorem exr1 : read [98] ex10 = (0, [120, 121, 122, 117, 113]) := by rfl
theorem exn : names ex4.L = [[97], [98]] := by rfl
theorem exu : unsynced ex4.L = [5, 2] := by rfl
theorem exs : (get [98] ex4.L).safe = 3 := by rfl
end Dk
theorem exc0 {B d : Nat} {W : World} (h : DkX (fun _ => False) B d Dk.ex0 W) (hB : B ≤ W.heap.size) : Calls Try.prog 32 #[.pointer (some ⟨d, 0, none⟩), .string (S [98]), .string (S [120, 121, 122])] W (OpX (fun _ => False) B d (0, Dk.ex1) W) := by
  rw [← Dk.exq0]
  exact appendX h (fun _ hk => hk.elim) hB _ _ (by simp) (by simp)
theorem exc1 {B d : Nat} {W : World} (h : DkX (fun _ => False) B d Dk.ex1 W) (hB : B ≤ W.heap.size) : Calls Try.prog 41 #[.pointer (some ⟨d, 0, none⟩), .string (S [98])] W (OpX (fun _ => False) B d (0, Dk.ex2) W) := by
  rw [← Dk.exq1]
  exact syncX h (fun _ hk => hk.elim) hB _ (by simp)
theorem exc2 {B d : Nat} {W : World} (h : DkX (fun _ => False) B d Dk.ex2 W) (hB : B ≤ W.heap.size) : Calls Try.prog 32 #[.pointer (some ⟨d, 0, none⟩), .string (S [98]), .string (S [117, 118])] W (OpX (fun _ => False) B d (0, Dk.ex3) W) := by
  rw [← Dk.exq2]
  exact appendX h (fun _ hk => hk.elim) hB _ _ (by simp) (by simp)
theorem exc3 {B d : Nat} {W : World} (h : DkX (fun _ => False) B d Dk.ex3 W) (hB : B ≤ W.heap.size) : Calls Try.prog 32 #[.pointer (some ⟨d, 0, none⟩), .string (S [97]), .string (S [49, 50, 51, 52, 53])] W (OpX (fun _ => False) B d (0, Dk.ex4) W) := by
  rw [← Dk.exq3]
  exact appendX h (fun _ hk => hk.elim) hB _ _ (by simp) (by simp)
theorem exc4 {B d : Nat} {W : World} (h : DkX (fun _ => False) B d Dk.ex4 W) (hB : B ≤ W.heap.size) : Calls Try.prog 32 #[.pointer (some ⟨d, 0, none⟩), .string (S [99]), .string (S [54])] W (OpX (fun _ => False) B d (50, Dk.ex4) W) := by
  rw [← Dk.exq4]
  exact appendX h (fun _ hk => hk.elim) hB _ _ (by simp) (by simp)
theorem exc6 {B d : Nat} {W : World} (h : DkX (fun _ => False) B d Dk.ex5 W) (hB : B ≤ W.heap.size) : Calls Try.prog 35 #[.pointer (some ⟨d, 0, none⟩)] W (OpX (fun _ => False) B d (0, Dk.ex6) W) := by
  rw [← Dk.exq6]
  exact startX h (fun _ hk => hk.elim) hB (by decide)
theorem exc8 {B d : Nat} {W : World} (h : DkX (fun _ => False) B d Dk.ex7 W) (hB : B ≤ W.heap.size) : Calls Try.prog 32 #[.pointer (some ⟨d, 0, none⟩), .string (S [98]), .string (S [113])] W (OpX (fun _ => False) B d (0, Dk.ex8) W) := by
  rw [← Dk.exq8]
  exact appendX h (fun _ hk => hk.elim) hB _ _ (by simp) (by simp)
theorem exc9 {B d : Nat} {W : World} (h : DkX (fun _ => False) B d Dk.ex8 W) (hB : B ≤ W.heap.size) : Calls Try.prog 42 #[.pointer (some ⟨d, 0, none⟩), .string (S [98]), .string (S [97])] W (OpX (fun _ => False) B d (51, Dk.ex9) W) := by
  rw [← Dk.exq9]
  exact renameX h (fun _ hk => hk.elim) hB _ _ (by simp) (by simp)
theorem exc10 {B d : Nat} {W : World} (h : DkX (fun _ => False) B d Dk.ex9 W) (hB : B ≤ W.heap.size) : Calls Try.prog 35 #[.pointer (some ⟨d, 0, none⟩)] W (OpX (fun _ => False) B d (0, Dk.ex10) W) := by
  rw [← Dk.exq10]
  exact startX h (fun _ hk => hk.elim) hB (by decide)
theorem two_ns5 (W : World) (a b : Int) : NsA5 (W.alloc (.cells #[.int .i64 a, .int .i64 b] 3)) (some ⟨W.heap.size, 0, none⟩) [a, b] := fun _ => ⟨W.heap.size, 0, rfl, fun j hj => by
  have h := bk_new #[.int .i64 a, .int .i64 b] 3 W
  have hj2 : j = 0 ∨ j = 1 := by simp at hj; omega
  rcases hj2 with rfl | rfl
  · exact h.cell 0
  · exact h.cell 1⟩
theorem ksOk_two {a b : Int} (ha : 0 ≤ a ∧ a ≤ 100) (hb : 0 ≤ b ∧ b ≤ 100) : Dk.KsOk [a, b] := ⟨by simp, fun x hx => by simp at hx; omega⟩
theorem OpX.less {X X' : Nat → Prop} {B d : Nat} {r : Int × Dk.St} {w w' : World} {e : Ending} (h : OpX X B d r w e w') (hX : ∀ k, X' k → X k) : OpX X' B d r w e w' :=
  ⟨h.1, h.2.1.more (fun k hk => .inl (hX k hk)), h.2.2.mono (fun k hk => .inl ⟨hk.1, fun hx => hk.2 (hX k hx)⟩)⟩
theorem exc5 {B d : Nat} {W : World} (h : DkX (fun _ => False) B d Dk.ex4 W) (hB : B ≤ W.heap.size) : Calls Try.prog 37 #[.pointer (some ⟨d, 0, none⟩), .slice (some ⟨W.heap.size, 0, none⟩) 2 2] (W.alloc (.cells #[.int .i64 2, .int .i64 1] 3)) (OpX (fun _ => False) B d (0, Dk.ex5) (W.alloc (.cells #[.int .i64 2, .int .i64 1] 3))) := by
  rw [← Dk.exq5]
  have h1 : DkX (fun k => k = W.heap.size) B d Dk.ex4 (W.alloc (.cells #[.int .i64 2, .int .i64 1] 3)) := (h.more (fun k hk => .inr (by omega))).below ((Below.refl _ _).alloc (Nat.le_refl _) _)
  exact (crashX h1 (fun k hk => by rw [sz5]; omega) (by rw [sz5]; omega) [2, 1] _ 2 (ksOk_two (by decide) (by decide)) (two_ns5 W 2 1) (fun a _ ha => .inl (by cases ha; rfl))).mono fun e w' hr => hr.less (fun _ q => q.elim)
theorem exc7 {B d : Nat} {W : World} (h : DkX (fun _ => False) B d Dk.ex6 W) (hB : B ≤ W.heap.size) : Calls Try.prog 39 #[.pointer (some ⟨d, 0, none⟩), .int .i64 1, .slice (some ⟨W.heap.size, 0, none⟩) 2 2] (W.alloc (.cells #[.int .i64 0, .int .i64 9] 3)) (OpX (fun _ => False) B d (0, Dk.ex7) (W.alloc (.cells #[.int .i64 0, .int .i64 9] 3))) := by
  rw [← Dk.exq7]
  exact failX (h.below ((Below.refl _ _).alloc (Nat.le_refl _) _)) (fun _ q => q.elim) (by rw [sz5]; omega) 1 [0, 9] _ 2 (by decide) (ksOk_two (by decide) (by decide)) (two_ns5 W 0 9)
theorem two_ts5 (W : World) (a b : List UInt8) : TsA5 (W.alloc (.cells #[.string (S a), .string (S b)] 9)) (some ⟨W.heap.size, 0, none⟩) [a, b] := fun _ => ⟨W.heap.size, 0, rfl, fun j hj => by
  have h := bk_new #[.string (S a), .string (S b)] 9 W
  have hj2 : j = 0 ∨ j = 1 := by simp at hj; omega
  rcases hj2 with rfl | rfl
  · exact h.cell 0
  · exact h.cell 1⟩
theorem ex_ints5 (ao : Option Addr) (ac : Nat) (W : World) (h : NsA5 W ao [5, 2]) : Calls Try.prog 22 #[.slice ao 2 ac, .slice (some ⟨W.heap.size, 0, none⟩) 2 2] (W.alloc (.cells #[.int .i64 5, .int .i64 2] 3)) fun e w' => e = .returned (.bool true) ∧ Below (W.alloc (.cells #[.int .i64 5, .int .i64 2] 3)).heap.size (W.alloc (.cells #[.int .i64 5, .int .i64 2] 3)) w' :=
  sameInts5_any [5, 2] [5, 2] (by decide) (by decide) ao _ ac 2 _ (h.below ((Below.refl _ _).alloc (Nat.le_refl _) _)) (two_ns5 W 5 2)
theorem ex_texts5 (ao : Option Addr) (ac : Nat) (W : World) (h : TsA5 W ao [[97], [98]]) : Calls Try.prog 33 #[.slice ao 2 ac, .slice (some ⟨W.heap.size, 0, none⟩) 2 2] (W.alloc (.cells #[.string (S [97]), .string (S [98])] 9)) fun e w' => e = .returned (.bool true) ∧ Below (W.alloc (.cells #[.string (S [97]), .string (S [98])] 9)).heap.size (W.alloc (.cells #[.string (S [97]), .string (S [98])] 9)) w' :=
  sameTexts5_any [[97], [98]] [[97], [98]] (by decide) (by decide) ao _ ac 2 _ (h.below ((Below.refl _ _).alloc (Nat.le_refl _) _)) (two_ts5 W [97] [98])
set_option maxRecDepth 100000 in
set_option maxHeartbeats 4000000 in
theorem does5 (w : World) : Calls Try.prog 19 #[] w fun e w' => e = .returned (.bool true) ∧ Below w.heap.size w w' := by
  have CN := Lib.hid (show Calls Try.prog 17 #[.int .i64 10] w (NewXd5 10 w) from newXd5 10 w (by decide) (by decide))
  go_enter Try.func19, Try.ntmps19
  go_wp2_with fail
  with_reducible refine CN.out.mono ?_
  rintro e w0 ⟨d, rfl, hd, hb, hdw⟩
  have HD := Lib.hid (show DkX (fun _ => False) w.heap.size d Dk.ex0 w0 from hd)
  have HB := Lib.hid hb
  clear hd hb hdw CN
  go_wp2_with fail
  with_reducible refine (exc0 HD.out HB.out.size).mono ?_
  rintro e w1 ⟨rfl, hd, hw⟩
  replace HD := Lib.hid hd
  replace HB := Lib.hid (HB.out.trans (hw.below (fun k hk => hk.1) HB.out.size))
  clear hd hw
  go_wp2_with fail
  with_reducible refine (exc1 HD.out HB.out.size).mono ?_
  rintro e w2 ⟨rfl, hd, hw⟩
  replace HD := Lib.hid hd
  replace HB := Lib.hid (HB.out.trans (hw.below (fun k hk => hk.1) HB.out.size))
  clear hd hw
  go_wp2_with fail
  with_reducible refine (exc2 HD.out HB.out.size).mono ?_
  rintro e w3 ⟨rfl, hd, hw⟩
  replace HD := Lib.hid hd
  replace HB := Lib.hid (HB.out.trans (hw.below (fun k hk => hk.1) HB.out.size))
  clear hd hw
  go_wp2_with fail
  with_reducible refine (exc3 HD.out HB.out.size).mono ?_
  rintro e w4 ⟨rfl, hd, hw⟩
  replace HD := Lib.hid hd
  replace HB := Lib.hid (HB.out.trans (hw.below (fun k hk => hk.1) HB.out.size))
  clear hd hw
  go_wp2_with fail
  with_reducible refine (exc4 HD.out HB.out.size).mono ?_
  rintro e w5 ⟨rfl, hd, hw⟩
  replace HD := Lib.hid hd
  replace HB := Lib.hid (HB.out.trans (hw.below (fun k hk => hk.1) HB.out.size))
  clear hd hw
  have CU := Lib.hid (unsyncedX HD.out)
  rw [Dk.exu] at CU
  go_wp2_with fail
  with_reducible refine CU.out.mono ?_
  rintro e w6 ⟨ao, ac, rfl, hr, hb⟩
  have HR := Lib.hid (nsA_row5 (l := [5, 2]) hr)
  replace HD := Lib.hid (HD.out.below hb)
  replace HB := Lib.hid (below_step HB.out hb)
  clear hr hb CU
  have CI := Lib.hid (ex_ints5 ao ac w6 HR.out)
  have HDa := Lib.hid (HD.out.below ((Below.refl w6.heap.size w6).alloc (Nat.le_refl _) (.cells #[.int .i64 5, .int .i64 2] 3)))
  have HBa := Lib.hid (HB.out.alloc HB.out.size (.cells #[.int .i64 5, .int .i64 2] 3))
  go_wp2_with fail
  with_reducible refine CI.out.mono ?_
  rintro e w7 ⟨rfl, hb⟩
  replace HD := Lib.hid (HDa.out.below hb)
  replace HB := Lib.hid (below_step HBa.out hb)
  clear hb CI HDa HBa HR
  have CU := Lib.hid (namesX HD.out)
  rw [Dk.exn] at CU
  go_wp2_with fail
  with_reducible refine CU.out.mono ?_
  rintro e w8 ⟨bo, bc, rfl, hr, hb⟩
  have HR := Lib.hid (tsA_row5 (l := [[97], [98]]) hr)
  replace HD := Lib.hid (HD.out.below hb)
  replace HB := Lib.hid (below_step HB.out hb)
  clear hr hb CU
  have CI := Lib.hid (ex_texts5 bo bc w8 HR.out)
  have HDa := Lib.hid (HD.out.below ((Below.refl w8.heap.size w8).alloc (Nat.le_refl _) (.cells #[.string (S [97]), .string (S [98])] 9)))
  have HBa := Lib.hid (HB.out.alloc HB.out.size (.cells #[.string (S [97]), .string (S [98])] 9))
  go_wp2_with fail
  with_reducible refine CI.out.mono ?_
  rintro e w9 ⟨rfl, hb⟩
  replace HD := Lib.hid (HDa.out.below hb)
  replace HB := Lib.hid (below_step HBa.out hb)
  clear hb CI HDa HBa HR
  have CY := Lib.hid (syncedX HD.out [98] (by simp))
  rw [Dk.exs] at CY
  go_wp2_with fail
  with_reducible refine CY.out.mono ?_
  rintro e w10 ⟨rfl, rfl⟩
  clear CY
  go_wp2_with fail
  with_reducible refine (exc5 HD.out HB.out.size).mono ?_
  rintro e w11 ⟨rfl, hd, hw⟩
  replace HD := Lib.hid hd
  replace HB := Lib.hid ((HB.out.alloc HB.out.size _).trans (hw.below (fun k hk => hk.1) (Nat.le_trans HB.out.size (by simp))))
  clear hd hw
  go_wp2_with fail
  with_reducible refine (exc6 HD.out HB.out.size).mono ?_
  rintro e w12 ⟨rfl, hd, hw⟩
  replace HD := Lib.hid hd
  replace HB := Lib.hid ((HB.out).trans (hw.below (fun k hk => hk.1) HB.out.size))
  clear hd hw
  have CR := Lib.hid (readX HD.out [98] (by simp))
  rw [Dk.exr0] at CR
  go_wp2_with fail
  with_reducible refine CR.out.mono ?_
  rintro e w13 ⟨rfl, hb⟩
  replace HD := Lib.hid (HD.out.below hb)
  replace HB := Lib.hid (below_step HB.out hb)
  clear hb CR
  go_wp2_with fail
  with_reducible refine (exc7 HD.out HB.out.size).mono ?_
  rintro e w14 ⟨rfl, hd, hw⟩
  replace HD := Lib.hid hd
  replace HB := Lib.hid ((HB.out.alloc HB.out.size _).trans (hw.below (fun k hk => hk.1) (Nat.le_trans HB.out.size (by simp))))
  clear hd hw
  go_wp2_with fail
  with_reducible refine (exc8 HD.out HB.out.size).mono ?_
  rintro e w15 ⟨rfl, hd, hw⟩
  replace HD := Lib.hid hd
  replace HB := Lib.hid ((HB.out).trans (hw.below (fun k hk => hk.1) HB.out.size))
  clear hd hw
  go_wp2_with fail
  with_reducible refine (exc9 HD.out HB.out.size).mono ?_
  rintro e w16 ⟨rfl, hd, hw⟩
  replace HD := Lib.hid hd
  replace HB := Lib.hid ((HB.out).trans (hw.below (fun k hk => hk.1) HB.out.size))
  clear hd hw
  go_wp2_with fail
  with_reducible refine (exc10 HD.out HB.out.size).mono ?_
  rintro e w17 ⟨rfl, hd, hw⟩
  replace HD := Lib.hid hd
  replace HB := Lib.hid ((HB.out).trans (hw.below (fun k hk => hk.1) HB.out.size))
  clear hd hw
  have CR := Lib.hid (readX HD.out [98] (by simp))
  rw [Dk.exr1] at CR
  go_wp2_with fail
  with_reducible refine CR.out.mono ?_
  rintro e w18 ⟨rfl, hb⟩
  replace HD := Lib.hid (HD.out.below hb)
  replace HB := Lib.hid (below_step HB.out hb)
  clear hb CR
  have CS := Lib.hid (startsX HD.out)
  have hs2 : Dk.ex10.starts = 2 := rfl
  rw [hs2] at CS
  go_wp2_with fail
  with_reducible refine CS.out.mono ?_
  rintro e wz ⟨rfl, rfl⟩
  go_wp2_with fail
  go_ret
  exact ⟨rfl, HB.out⟩

end Go.Proofs.Ytekmnpmeienhhaa
