import Derived.Test.YtmammmjmipgmoaaGreatDoorZJc
import Derived.Deep.RegionHeld
import Derived.Test.YtmammmjmipgmoaaGreatDoorZQh
set_option linter.unusedVariables false
set_option maxRecDepth 100000
set_option maxHeartbeats 16000000
namespace Go.Proofs.YtmammmjmipgmoaaGreatDoor
section
open Go Go.RowKit Go.Maps
section
variable {P : Nat → Prop} {B a r : Nat} {D : Dk.St} {w : World}
theorem Pl5.cells (h : Pl5 P B a r D D w) : w.cell? ⟨r, 1, none⟩ = some (.int .i64 D.starts) ∧ w.cell? ⟨r, 2, none⟩ = some (.bool (!D.up)) := by
 obtain ⟨c, hc⟩ := h.ref;exact ⟨hc.s.2.1, hc.s.2.2.1⟩
theorem same5 (h : Pl5 P B a r D D w) : Calls Tryz.prog 50 #[.pointer (some ⟨a, 0, none⟩), .pointer (some ⟨r, 0, none⟩)] w fun e w' => e = .returned (.bool true) ∧ Below w.heap.size w w' := by
 have C1 := Qh (show Calls Tryz.prog 36 #[.pointer (some ⟨a, 0, none⟩)] w (RowT (Dk.names D.L) w) from by obtain ⟨X, hX⟩ := h.tell; exact Jd1 hX);have HP := Qh h;have HOK := Qh h.ok;have hfew := h.ok.few;have HNL := Qh (show (Dk.names D.L).length = D.L.length from by simp [Dk.names]);have HUL := Qh (show (Dk.unsynced D.L).length = D.L.length from by simp [Dk.unsynced]);clear h;go_enter Tryz.func50, Tryz.ntmps50;go_wp2_with fail;with_reducible refine C1.o.mono ?_
 rintro e w1 ⟨no, nc, rfl, hr, hb⟩;have HN := Qh (Jb6 hr);replace HP := Qh (HP.o.below hb);have HB := Qh hb;rw [HNL.o];clear hr hb C1;have s1 : ((Dk.size D.L : Int) != (Dk.size D.L : Int)) = false := by simp
 have s2 : (D.up == !D.up) = false := by cases D.up <;> rfl
 have s3 : ((D.starts : Int) != (D.starts : Int)) = false := by simp
 go_upto_region 2 with fail
 refine wp_region_held_drew (S := fun V => V.cell? ⟨r, 1, none⟩ = some (.int .i64 D.starts) ∧ V.cell? ⟨r, 2, none⟩ = some (.bool (!D.up))) (by kernel_rfl) ?_ (fun hQ => ?_)
 ·exact (HP.o.below (Below.refl _ _).drew).cells
 replace HP := Qh (HP.o.below (Below.refl _ _).drew);replace HN := Qh (HN.o.below (Below.refl _ _).drew);have HBX := Qh (Below.refl w1.heap.size w1).drew;obtain ⟨wd, hwd⟩ : ∃ x, x = World.drew w1 := ⟨_, rfl⟩
 rw [← hwd] at HP HN HBX hQ ⊢;clear hwd;refine tkH 0 ?_;refine tkH 1 ?_;refine tqH 2 fun K hK => ?_
 go_simp;have CJ := Qh (show Calls Tryz.prog 103 #[.pointer (some ⟨r, 0, none⟩)] wd (RowT (Dk.names D.L) wd) from by obtain ⟨c, hc⟩ := HP.o.ref; exact Jkp hc);go_simp;go_at_call 103;with_reducible refine (CJ.o).mono ?_
 rintro e v2 ⟨ov2, cv2, rfl, hr, hb⟩;have HRv2 := Qh (Jb6 hr);replace HP := Qh (HP.o.below hb);replace HN := Qh (HN.o.below hb);replace HBX := Qh (Jaa HBX.o hb);rw [HNL.o];clear hr hb CJ;go_wp2_with fail;refine hK.out _ _ ?_ (fun hQ => ?_)
 ·exact HP.o.cells
 clear hK K;refine tqH 3 fun K hK => ?_
 go_simp;have CJ := Jcc (Dk.names D.L) (Dk.names D.L) (by rw [HNL.o]; omega) (by rw [HNL.o]; omega) no ov2 nc cv2 v2 HN.o HRv2.o;rw [show decide (Dk.names D.L = Dk.names D.L) = true from by simp, HNL.o] at CJ;replace CJ := Qh CJ;go_simp;go_at_call 39;with_reducible refine (CJ.o).mono ?_
 rintro e v3 ⟨rfl, hb⟩;replace HP := Qh (HP.o.below hb);replace HN := Qh (HN.o.below hb);replace HBX := Qh (Jaa HBX.o hb);clear hb CJ HRv2;go_wp2_with fail;refine hK.out _ _ ?_ (fun hQ => ?_)
 ·exact HP.o.cells
 clear hK K;refine tkH 4 ?_;refine tkH 5 ?_;refine tkH 6 ?_;refine tkH 8 ?_;refine tqH 7 fun K hK => ?_
 go_simp;have CJ := Qh (show Calls Tryz.prog 37 #[.pointer (some ⟨a, 0, none⟩)] v3 (RowN (Dk.unsynced D.L) v3) from by obtain ⟨X, hX⟩ := HP.o.tell; exact Jmq hX);go_simp;go_at_call 37;with_reducible refine (CJ.o).mono ?_
 rintro e v7 ⟨ov7, cv7, rfl, hr, hb⟩;have HRv7 := Qh ((Jgl hr).1);replace HP := Qh (HP.o.below hb);replace HN := Qh (HN.o.below hb);replace HBX := Qh (Jaa HBX.o hb);rw [HUL.o];clear hr hb CJ;go_wp2_with fail;refine hK.out _ _ ?_ (fun hQ => ?_)
 ·exact HP.o.cells
 clear hK K;refine tqH 9 fun K hK => ?_
 go_simp;have CJ := Qh (show Calls Tryz.prog 104 #[.pointer (some ⟨r, 0, none⟩)] v7 (RowN (Dk.unsynced D.L) v7) from by obtain ⟨c, hc⟩ := HP.o.ref; exact Jlg hc);go_simp;go_at_call 104;with_reducible refine (CJ.o).mono ?_
 rintro e v9 ⟨ov9, cv9, rfl, hr, hb⟩;have HRv9 := Qh ((Jgl hr).1);replace HP := Qh (HP.o.below hb);replace HN := Qh (HN.o.below hb);replace HBX := Qh (Jaa HBX.o hb);rw [HUL.o];replace HRv7 := Qh (HRv7.o.below hb);clear hr hb CJ;go_wp2_with fail;refine hK.out _ _ ?_ (fun hQ => ?_)
 ·exact HP.o.cells
 clear hK K;refine tqH 10 fun K hK => ?_
 go_simp;have CJ := Jhs (Dk.unsynced D.L) (Dk.unsynced D.L) (by rw [HUL.o]; omega) (by rw [HUL.o]; omega) ov7 ov9 cv7 cv9 v9 HRv7.o HRv9.o;rw [show decide (Dk.unsynced D.L = Dk.unsynced D.L) = true from by simp, HUL.o] at CJ;replace CJ := Qh CJ;go_simp;go_at_call 40;with_reducible refine (CJ.o).mono ?_
 rintro e v10 ⟨rfl, hb⟩;replace HP := Qh (HP.o.below hb);replace HN := Qh (HN.o.below hb);replace HBX := Qh (Jaa HBX.o hb);clear hb CJ HRv7 HRv9;go_wp2_with fail;refine hK.out _ _ ?_ (fun hQ => ?_)
 ·exact HP.o.cells
 clear hK K;refine tkH 11 ?_;refine tkH 12 ?_;refine tkH 13 ?_;refine tkH 14 ?_;refine tkH 16 ?_;refine tqH 15 fun K hK => ?_
 go_simp;have CJ := Qh (show Calls Tryz.prog 38 #[.pointer (some ⟨a, 0, none⟩)] v10 (fun e w' => e = .returned (.int .i64 (Dk.size D.L)) ∧ v10 = w') from by obtain ⟨X, hX⟩ := HP.o.tell; exact sizeX hX);go_simp;go_at_call 38;with_reducible refine (CJ.o).mono ?_
 rintro e v15 ⟨rfl, rfl⟩;clear CJ;go_wp2_with fail;refine hK.out _ _ ?_ (fun hQ => ?_)
 ·exact HP.o.cells
 clear hK K;refine tqH 17 fun K hK => ?_
 go_simp;have CJ := Qh (show Calls Tryz.prog 105 #[.pointer (some ⟨r, 0, none⟩)] v10 (fun e w' => e = .returned (.int .i64 (Dk.size D.L)) ∧ v10 = w') from by obtain ⟨c, hc⟩ := HP.o.ref; exact Jmx hc);go_simp;go_at_call 105;with_reducible refine (CJ.o).mono ?_
 rintro e v17 ⟨rfl, rfl⟩;clear CJ;go_wp2_with fail;refine hK.out _ _ ?_ (fun hQ => ?_)
 ·exact HP.o.cells
 clear hK K;refine tkH 18 ?_;refine tkH 19 ?_;refine tkH 20 ?_;refine tkH 21 ?_;refine tkH 23 ?_;refine tkH 24 ?_;refine tkH 25 ?_;refine tkH 26 ?_;refine tqH 22 fun K hK => ?_
 go_simp;have CJ := Qh (show Calls Tryz.prog 30 #[.pointer (some ⟨a, 0, none⟩)] v10 (fun e w' => e = .returned (.bool D.up) ∧ v10 = w') from by obtain ⟨X, hX⟩ := HP.o.tell; exact upX hX);go_simp;go_at_call 30;with_reducible refine (CJ.o).mono ?_
 rintro e v22 ⟨rfl, rfl⟩;clear CJ;go_wp2_with fail;refine hK.out _ _ ?_ (fun hQ => ?_)
 ·exact HP.o.cells
 clear hK K;refine tkH 27 ?_;refine tkH 28 ?_;refine tkH 29 ?_;refine tkH 30 ?_;refine tkH 32 ?_;refine tkH 33 ?_;refine tkH 34 ?_;refine tkH 35 ?_;refine tqH 31 fun K hK => ?_
 go_simp;have CJ := Qh (show Calls Tryz.prog 106 #[.pointer (some ⟨a, 0, none⟩)] v10 (fun e w' => e = .returned (.int .i64 D.starts) ∧ v10 = w') from by obtain ⟨X, hX⟩ := HP.o.tell; exact Jgj hX);go_simp;go_at_call 106;with_reducible refine (CJ.o).mono ?_
 rintro e v31 ⟨rfl, rfl⟩;clear CJ;go_wp2_with fail;refine hK.out _ _ ?_ (fun hQ => ?_)
 ·exact HP.o.cells
 clear hK K;refine tkH 36 ?_;refine tkH 37 ?_;refine wpAnyH_done (by kernel_rfl) ?_ _;obtain ⟨wz, hwz⟩ : ∃ x, x = v10 := ⟨_, rfl⟩
 rw [← hwz] at HP HN HBX ⊢;clear hwz hQ s1 s2 s3;replace HB := Qh (Jaa HB.o HBX.o);go_wp2_with fail;clear HBX;go_loopw [6] (fun j wq => ∃ m : Nat, m ≤ D.L.length ∧ j = .int .i64 m ∧ Hid (Below wz.heap.size wz wq)) (fun j _ => D.L.length - (intOf j).toNat)
 case atStart => exact ⟨0, Nat.zero_le _, rfl, Qh (Below.refl _ _)⟩
 case round =>
  obtain ⟨wx, rfl⟩ : ∃ x, x = wr := ⟨_, rfl⟩
  obtain ⟨m, hm, rfl, HQ⟩ := hrel;by_cases hmt : m < D.L.length
  ·have d2 : decide (m < D.L.length) = true := by simpa using hmt
   have hi1 : (0 : Int) ≤ (m : Int) := by omega
   have hi2 : (m : Int) < (D.L.length : Int) := by omega
   obtain ⟨g, o, rfl, hc⟩ := (HN.o.below HQ.o) (fun e => by have := HNL.o; rw [e] at this; simp at this; omega)
   have k1 := hc m (by rw [HNL.o]; exact hmt)
   have hlen : ((Dk.names D.L).getD m []).length ≤ 16 := by
    have := (Dk.at5 HOK.o.l hmt).2.2;simpa [Dk.names, List.getD, hmt] using this
   have HC := Qh (fun wy (hy : Below wx.heap.size wx wy) => (show wy.cell? ⟨g, o + m, none⟩ = some (.string (S ((Dk.names D.L).getD m []))) from (hy.cell (p := ⟨g, o + m, none⟩) (Jaz k1)).trans k1));clear hc hm;generalize (Dk.names D.L).getD m [] = u at *;have HPx := Qh (HP.o.below HQ.o);have CR := Qh (show Calls Tryz.prog 107 #[.pointer (some ⟨a, 0, none⟩), .string (S u)] wx (fun e w' => e = .returned (.tuple #[.string (S (Dk.read u D).2), .int .i64 (Dk.read u D).1]) ∧ Below wx.heap.size wx w') from by obtain ⟨X, hX⟩ := HPx.o.tell; exact Jf2 hX u (by omega));have HRR := Qh (fun wy (hy : Below wx.heap.size wx wy) => (show Calls Tryz.prog 108 #[.pointer (some ⟨r, 0, none⟩), .string (S u)] wy (fun e w' => e = .returned (.tuple #[.string (S (Dk.read u D).2), .int .i64 (Dk.read u D).1]) ∧ wy = w') from by obtain ⟨c, hc⟩ := (HPx.o.below hy).ref; exact rRead5 hc u));have HS1 := Qh (fun wy (hy : Below wx.heap.size wx wy) q => (show Calls Tryz.prog 77 #[.pointer (some ⟨a, 0, none⟩), .string (S u)] (wy.drewN q) (fun e w' => e = .returned (.int .i64 (Dk.get u D.L).safe) ∧ ∃ j, w' = wy.drewN j) from by obtain ⟨X, hX⟩ := ((HPx.o.below hy).below (below_drewN (Below.refl _ _) q)).tell; exact (Jkn hX u (by omega)).mono fun e w' h => ⟨h.1, q, h.2.symm⟩));have HS2 := Qh (fun wy (hy : Below wx.heap.size wx wy) q => (show Calls Tryz.prog 109 #[.pointer (some ⟨r, 0, none⟩), .string (S u)] (wy.drewN q) (fun e w' => e = .returned (.int .i64 (Dk.get u D.L).safe) ∧ ∃ j, w' = wy.drewN j) from by obtain ⟨c, hc⟩ := ((HPx.o.below hy).below (below_drewN (Below.refl _ _) q)).ref; exact (Jiu hc u).mono fun e w' h => ⟨h.1, q, h.2.symm⟩))
   generalize (Dk.read u D).2 = rd at *;generalize (Dk.read u D).1 = re at *;generalize (Dk.get u D.L).safe = sf at *;go_wp2_with fail;with_reducible refine CR.o.mono ?_
   rintro e wy ⟨rfl, hy⟩;have k2 := HC.o _ hy;have CR2 := Qh (HRR.o _ hy);have CS1 := Qh (HS1.o _ hy);have CS2 := Qh (HS2.o _ hy);have HQ2 := Qh (Jaa HQ.o hy);clear hy CR HRR HS1 HS2 HC k1;go_wp2_with fail;with_reducible refine CR2.o.mono ?_
   rintro e wy2 ⟨rfl, rfl⟩;have q2 : (re != re) = false := by simp
   have q3 : ((sf : Int) != (sf : Int)) = false := by simp
   go_wp2_with fail;go_quiet (first | (go_at_call 77; exact CS1.o _) | (go_at_call 109; exact CS2.o _))
   go_wp2_with fail;go_roundw
   case rel => exact ⟨m + 1, by omega, by go_num, Qh (below_drewN HQ2.o _)⟩
   case measure => simp [intOf]; omega
  ·have d2 : decide (m < D.L.length) = false := by simpa using hmt
   go_wp2_with fail;go_ret;exact ⟨rfl, Jaa HB.o HQ.o⟩
end
end
section
open Go Go.RowKit Go.Maps
theorem Jp1 (n : Int) (w : World) (h : n < 1 ∨ 1048576 < n) : Calls Tryz.prog 12 #[.int .i64 n] w fun e w' => e = .returned (.tuple #[.pointer none, .int .i64 2]) ∧ w = w' := by
 by_cases h1 : n < 1
 ·have d1 : decide (n < (1 : Int)) = true := decide_eq_true h1
  go_enter Tryz.func12, Tryz.ntmps12;go_wp2_with fail;go_ret2
  exact ⟨rfl, rfl⟩
 ·have d1 : decide (n < (1 : Int)) = false := decide_eq_false h1
  have d2 : decide ((1048576 : Int) < n) = true := decide_eq_true (by omega);go_enter Tryz.func12, Tryz.ntmps12;go_wp2_with fail;go_ret2
  exact ⟨rfl, rfl⟩
section
variable {V w w' : World} {P P' : Nat → Prop} {B a r i : Nat} {D : Dk.St}
end
end
end Go.Proofs.YtmammmjmipgmoaaGreatDoor
