/- Texts of lower layers, as one. -/
import Derived.Test.YtmammmjmipgmoaaGreatDoorZHz
import Derived.Test.YtmammmjmipgmoaaGreatDoorZHr
/- Layer 6: HostlogTwice. By wip/tools/genhltwice.py. -/
namespace Go.Proofs.YtmammmjmipgmoaaGreatDoor
set_option linter.unusedVariables false
open Go Go.RowKit Go.Maps

open Hl in
set_option maxHeartbeats 16000000 in
set_option maxRecDepth 100000 in
theorem hostlogTwice_y (w : World) (hv : Vr w) (L : List Ra6) (ao : Option Addr) (cap : Nat) (hI : RasI6 L) (hA : RasAt6 w ao L) (ks : List Int) (ko : Option Addr) (kc : Nat) (hks : NsI5 ks) (hkA : NsA5 w ko ks) :
    Calls Tryz.prog 9 #[.slice ao L.length cap, .slice ko ks.length kc] w fun e w' => e = .returned (.bool true) ∧ Below w.heap.size w w' := by
  have hkn := hks.n
  have CG := Lib.hid (great6 L ao cap w hI hA)
  have CO := Lib.hid (show Calls Tryz.prog 28 #[.int .i64 1048576] w (Opd6 1048576 w) from opened6 1048576 (by decide) (by decide) hv)
  have HA := Lib.hid hA
  have HI := Lib.hid hI
  have HKA := Lib.hid hkA
  have HKS := Lib.hid hks
  clear hv hA hI hks hkA
  go_enter Tryz.func9, Tryz.ntmps9
  go_wp2_with fail
  with_reducible refine CG.out.mono ?_
  rintro e w0 (⟨rfl, rfl⟩ | ⟨rfl, hF, rfl⟩)
  · go_wp2_with fail
    go_ret
    exact ⟨rfl, Below.refl _ _⟩
  by_cases h100 : 100 < ks.length
  · have d1 : decide ((100 : Int) < (ks.length : Int)) = true := by simp; omega
    go_wp2_with fail
    go_ret
    exact ⟨rfl, Below.refl _ _⟩
  have d0 : decide ((100 : Int) < (ks.length : Int)) = false := by simp; omega
  have hL := hF.n
  have HF := Lib.hid hF
  replace HKS := Lib.hid (HKS.out.ks (by omega))
  clear hF CG hkn
  go_wp2_with fail
  with_reducible refine CO.out.mono ?_
  rintro e w1 ⟨d, b, rfl, hg, hb, -, -⟩
  have HK0 := Lib.hid (show Kept6 w b d [] (Dk.new 1048576) ⟨0, false, []⟩ w1 from ⟨fun _ => False, hg, fun k q => q.elim, hb, fun r hr => (by cases hr), List.Pairwise.nil⟩)
  clear hg hb CO
  go_wp2_with fail
  go_loopw [7] (fun i wr => ∃ (k : Nat) (D : Dk.St) (G : Lg), k ≤ L.length ∧ i = .int .i64 k ∧ Hid (Kept6 w b d [] D G wr ∧ St6 1048576 k D G)) (fun i _ => L.length - (intOf i).toNat)
  case atStart => exact ⟨0, _, _, Nat.zero_le _, rfl, Lib.hid ⟨HK0.out, rfl, rfl, Nat.le_refl _, 0, [], Nat.le_refl _, .inl (lv_new _)⟩⟩
  case round =>
  clear HK0
  obtain ⟨w2, rfl⟩ : ∃ x, x = wr := ⟨_, rfl⟩
  obtain ⟨k, D, G, hk, rfl, HH⟩ := hrel
  by_cases hlt : k < L.length
  · have d1 : decide ((k : Int) < (L.length : Int)) = true := by simp; omega
    have d1' : decide (k < L.length) = true := by simpa using hlt
    have hwi : IntKind.i64.wrap ((k : Int) + 1) = (k : Int) + 1 := IntWalk.i64_in _ (by omega)
    have hm : L.getD k ra06 ∈ L := by rw [show L.getD k ra06 = L[k] from by simp [List.getD, hlt]]; exact List.getElem_mem hlt
    have HW := Lib.hid (HI.out.each _ hm)
    have HX := Lib.hid (show (L.getD k ra06).s.fits from (HF.out.each k hlt).fits HW.out)
    have HFW := Lib.hid (HF.out.each k hlt)
    obtain ⟨g, off, rfl, ⟨c0, c1, c2, c3, c4, c5, c6, c7, c8, c9, c10, c11⟩, hkp⟩ := (HA.out.below HH.out.1.bel).off hlt
    have HKP := Lib.hid hkp
    have SP := Lib.hid (show ∀ W, Below w.heap.size w W → RaAt6 W g (off + k * 12) (L.getD k ra06) from fun W hb => by
      obtain ⟨g', off', e, hc⟩ := (HA.out.below hb).off hlt
      injection e with e
      injection e with e1 e2
      subst e1; subst e2
      exact hc)
    clear hm hkp
    generalize L.getD k ra06 = r at *
    obtain ⟨hk0, hk1⟩ := HW.out.kind
    have hrn := HW.out.n
    have HKR := Lib.hid (show Dk.KsOk r.keep from HW.out.keep.ks (by have := HFW.out.keep; omega))
    clear HW HFW
    obtain ⟨m, hm, hm13⟩ : ∃ m : Nat, r.kind % 13 = (m : Int) ∧ m < 13 := ⟨(r.kind % 13).toNat, by omega, by omega⟩
    have hk8 : k ≤ 800 := by omega
    rcases (show m = 5 ∨ m = 6 ∨ m = 7 ∨ m = 8 ∨ m = 11 ∨ (m ≠ 5 ∧ m ≠ 6 ∧ m ≠ 7 ∧ m ≠ 8 ∧ m ≠ 11) by omega) with rfl | rfl | rfl | rfl | rfl | ⟨n5, n6, n7, n8, n11⟩
    · have CA := Lib.hid (syn_st HH.out.1 HH.out.2)
      go_wp2_with fail
      with_reducible refine CA.out.mono ?_
      rintro e w3 ⟨rr, D', G', rfl, hk3, hs3⟩
      have HK3 := Lib.hid (show Kept6 w b d [] D' G' w3 ∧ St6 1048576 (k + 1) D' G' from ⟨hk3, hs3⟩)
      clear hk3 hs3 CA HH c0 c1 c2 c3 c4 c5 c6 c7 c8 c9 c10 c11
      go_wp2_with fail
      go_roundw
      case rel => exact ⟨k + 1, D', G', hlt, by go_num, HK3⟩
      case measure => simp [intOf]; omega
    · have CA := Lib.hid (syn_st HH.out.1 HH.out.2)
      go_wp2_with fail
      with_reducible refine CA.out.mono ?_
      rintro e w3 ⟨rr, D', G', rfl, hk3, hs3⟩
      have HK3 := Lib.hid (show Kept6 w b d [] D' G' w3 ∧ St6 1048576 (k + 1) D' G' from ⟨hk3, hs3⟩)
      clear hk3 hs3 CA HH c0 c1 c2 c3 c4 c5 c6 c7 c8 c9 c10 c11
      go_wp2_with fail
      go_roundw
      case rel => exact ⟨k + 1, D', G', hlt, by go_num, HK3⟩
      case measure => simp [intOf]; omega
    · have CA := Lib.hid (rot_st HH.out.1 HH.out.2 hk8)
      go_wp2_with fail
      with_reducible refine CA.out.mono ?_
      rintro e w3 ⟨rr, D', G', rfl, hk3, hs3⟩
      have HK3 := Lib.hid (show Kept6 w b d [] D' G' w3 ∧ St6 1048576 (k + 1) D' G' from ⟨hk3, hs3⟩)
      clear hk3 hs3 CA HH c0 c1 c2 c3 c4 c5 c6 c7 c8 c9 c10 c11
      go_wp2_with fail
      go_roundw
      case rel => exact ⟨k + 1, D', G', hlt, by go_num, HK3⟩
      case measure => simp [intOf]; omega
    · have CA := Lib.hid (ret_st HH.out.1 HH.out.2 r.n hrn.2)
      go_wp2_with fail
      with_reducible refine CA.out.mono ?_
      rintro e w3 ⟨rr, D', G', rfl, hk3, hs3⟩
      have HK3 := Lib.hid (show Kept6 w b d [] D' G' w3 ∧ St6 1048576 (k + 1) D' G' from ⟨hk3, hs3⟩)
      clear hk3 hs3 CA HH c0 c1 c2 c3 c4 c5 c6 c7 c8 c9 c10 c11
      go_wp2_with fail
      go_roundw
      case rel => exact ⟨k + 1, D', G', hlt, by go_num, HK3⟩
      case measure => simp [intOf]; omega
    · have CA := Lib.hid (show ∀ W, Below w2.heap.size w2 W → Calls Tryz.prog 29 #[.pointer (some ⟨d, 0, none⟩), .int .i64 r.n, .slice r.o r.keep.length r.k] W (StO w b d [] 1048576 (k + 1)) from fun W hb => fail_st (HH.out.1.below hb) HH.out.2 r.n r.keep r.o r.k hrn.2 HKR.out (HKP.out.below hb))
      go_wp2_with fail
      go_region_held3 (fun W => W.cell? ⟨g, off + k * 12 + 9, none⟩ = some (.int .i64 r.n) ∧ W.cell? ⟨g, off + k * 12 + 11, none⟩ = some (.slice r.o r.keep.length r.k)) (go_keep) (first
        | (go_at_call 29; refine (CA.out _ ((Below.refl _ w2).drew)).mono ?_; rintro e w3 ⟨rr, D', G', rfl, hk3, hs3⟩; have HK3 := Lib.hid (show Kept6 w b d [] D' G' w3 ∧ St6 1048576 (k + 1) D' G' from ⟨hk3, hs3⟩); obtain ⟨⟨z0, z1, z2, z3, z4, z5, z6, z7, z8, z9, z10, z11⟩, -⟩ := SP.out _ hk3.bel; clear hk3 hs3))
      clear CA HH c0 c1 c2 c3 c4 c5 c6 c7 c8 c9 c10 c11 z0 z1 z2 z3 z4 z5 z6 z7 z8 z9 z10 z11
      go_wp2_with fail
      go_roundw
      case rel => exact ⟨k + 1, D', G', hlt, by go_num, HK3⟩
      case measure => simp [intOf]; omega
    · have CA := Lib.hid (app_st HH.out.1 HH.out.2 r.s HX.out hk8)
      unfold spA6 at CA
      have t5 : ((m : Int) == 5) = false := by simp; omega
      have t6 : ((m : Int) == 6) = false := by simp; omega
      have t7 : ((m : Int) == 7) = false := by simp; omega
      have t8 : ((m : Int) == 8) = false := by simp; omega
      have t11 : ((m : Int) == 11) = false := by simp; omega

      go_wp2_with fail
      with_reducible refine CA.out.mono ?_
      rintro e w3 ⟨rr, D', G', rfl, hk3, hs3⟩
      have HK3 := Lib.hid (show Kept6 w b d [] D' G' w3 ∧ St6 1048576 (k + 1) D' G' from ⟨hk3, hs3⟩)
      clear hk3 hs3 CA HH c0 c1 c2 c3 c4 c5 c6 c7 c8 c9 c10 c11
      go_wp2_with fail
      go_roundw
      case rel => exact ⟨k + 1, D', G', hlt, by go_num, HK3⟩
      case measure => simp [intOf]; omega
  · obtain rfl : k = L.length := by omega
    have d1 : decide ((L.length : Int) < (L.length : Int)) = false := by simp
    obtain ⟨e1, e2, e3, F, Z, hi, hl | ⟨tl, hl, hu⟩⟩ := HH.out.2
    · obtain ⟨Z2, tl, hfe, hp1, hp2, hsn⟩ := fell_of hl.hz hl.f0 hl.len ks
      have hup := hl.up
      have hsz := size_fall hl.ok ks
      have CU := Lib.hid (show Calls Tryz.prog 30 #[.pointer (some ⟨d, 0, none⟩)] w2 fun e w' => e = .returned (.bool true) ∧ w2 = w' from by
        obtain ⟨X, h⟩ := HH.out.1.dk
        have := upX h
        rw [hup] at this
        exact this)
      have CC := Lib.hid (show Calls Tryz.prog 27 #[.pointer (some ⟨d, 0, none⟩), .slice ko ks.length kc] w2 fun e w' => e = .returned (.int .i64 0) ∧ Kept6 w b d [] (Dk.fall ks D) G w' from by
        have := HH.out.1.disk (fun X hd hX hB => crashX hd hX hB ks ko kc HKS.out (HKA.out.below HH.out.1.bel) (fun a hne e => .inr (nsA_lt6 HKA.out a hne e)))
        rw [crash_lv hl] at this
        exact this)
      have HFE := Lib.hid (show Fell F Z2 tl (Dk.fall ks D) ∧ (Dk.fall ks D).up = false ∧ (Dk.fall ks D).starts = 0 ∧ (Dk.fall ks D).room = 1048576 ∧ Dk.size (Dk.fall ks D).L ≤ 98 * 150 from ⟨hfe, rfl, e2, e1, by omega⟩)
      obtain ⟨D3, hD3⟩ : ∃ y, y = Dk.fall ks D := ⟨_, rfl⟩
      rw [← hD3] at HFE CC
      clear hD3 hfe hp1 hp2 hsn hup hsz hl e1 e2 e3 hi HH hk
      go_wp2_with fail
      with_reducible refine CU.out.mono ?_
      rintro e w3 ⟨rfl, rfl⟩
      clear CU
      go_wp2_with fail
      with_reducible refine CC.out.mono ?_
      rintro e w4 ⟨rfl, hk4⟩
      have HK4 := Lib.hid hk4
      clear hk4 CC
      have CT := Lib.hid (show Calls Tryz.prog 31 #[.pointer (some ⟨d, 0, none⟩)] w4 fun e w' => e = .returned (.int .i64 0) ∧ Kept6 w b d [] (up6 D3) G w' from by
        have := HK4.out.disk (fun X hd hX hB => startX hd hX hB (by rw [HFE.out.2.2.1]; omega))
        rw [start_up HFE.out.2.1] at this
        exact this)
      go_wp2_with fail
      with_reducible refine CT.out.mono ?_
      rintro e w6 ⟨rfl, hk6⟩
      have HK6 := Lib.hid hk6
      clear hk6 CT HK4
      obtain ⟨L', e1, e2, e3, e4⟩ := HFE.out.1.open (by rw [HFE.out.2.2.2.1]; have := HFE.out.2.2.2.2; omega)
      have CO := Lib.hid (HK6.out.open (by show D3.starts + 1 ≤ _; rw [HFE.out.2.2.1]; omega) HFE.out.1.hz rfl)
      rw [e1] at CO
      have HL := Lib.hid (show Lv F Z2 ⟨D3.starts + 1, false, Z2.map smOf⟩ { up6 D3 with set := none, L := L' } ∧ SafeZ Z2 L' ∧ D3.starts + 1 ≤ 1000000000 from ⟨e2, e3, by rw [HFE.out.2.2.1]; omega⟩)
      clear e1 e2 e3 e4 HFE
      go_wp2_with fail
      with_reducible refine CO.out.mono ?_
      rintro e w7 (⟨h0, _⟩ | ⟨-, b1, rfl, hk7⟩)
      · exact absurd rfl h0
      obtain ⟨D4, hD4⟩ : ∃ y, y = { up6 D3 with set := none, L := L' } := ⟨_, rfl⟩
      obtain ⟨G4, hG4⟩ : ∃ y : Lg, y = ⟨D3.starts + 1, false, Z2.map smOf⟩ := ⟨_, rfl⟩
      have hL4 : D4.L = L' := by rw [hD4]
      have hst4 : D4.starts = D3.starts + 1 := by rw [hD4]; rfl
      have HK7 := Lib.hid (show Kept6 w b1 d [] D4 G4 w7 from by rw [hD4, hG4]; exact hk7)
      replace HL := Lib.hid (show Lv F Z2 G4 D4 ∧ SafeZ Z2 D4.L ∧ D4.starts ≤ 1000000000 ∧ G4 = ⟨D4.starts, false, Z2.map smOf⟩ from by
        rw [hst4, hL4]
        refine ⟨?_, HL.out.2.1, HL.out.2.2, hG4⟩
        rw [hD4, hG4]
        exact HL.out.1)
      clear hk7 CO HK6 hD4 hG4 hL4 hst4
      have HT := Lib.hid (Kt6.of HK7.out)
      clear HK7
      have CN := Lib.hid (show Calls Tryz.prog 36 #[.pointer (some ⟨d, 0, none⟩)] w7 (RowT (Dk.names D4.L) w7) from by
        obtain ⟨X, h⟩ := HT.out.dk
        exact namesX h)
      go_wp2_with fail
      with_reducible refine CN.out.mono ?_
      rintro e w8 ⟨an, cn, rfl, hr, hb⟩
      replace HT := Lib.hid (HT.out.texts hb hr)
      clear hr hb CN
      have CI := Lib.hid (show Calls Tryz.prog 37 #[.pointer (some ⟨d, 0, none⟩)] w8 (RowN (Dk.unsynced D4.L) w8) from by
        obtain ⟨X, h⟩ := HT.out.dk
        exact unsyncedX h)
      go_wp2_with fail
      with_reducible refine CI.out.mono ?_
      rintro e w9 ⟨ai, ci, rfl, hr, hb⟩
      replace HT := Lib.hid (HT.out.ints hb hr)
      clear hr hb CI
      have CZ := Lib.hid (show Calls Tryz.prog 38 #[.pointer (some ⟨d, 0, none⟩)] w9 fun e w' => e = .returned (.int .i64 (Dk.size D4.L)) ∧ w9 = w' from by
        obtain ⟨X, h⟩ := HT.out.dk
        exact sizeX h)
      go_wp2_with fail
      with_reducible refine CZ.out.mono ?_
      rintro e w10 ⟨rfl, rfl⟩
      clear CZ
      have CO := Lib.hid (HT.out.open2 HL.out.1 HL.out.2.2.1 HL.out.2.2.2)
      go_wp2_with fail
      with_reducible refine CO.out.mono ?_
      rintro e w11 ⟨b2, rfl, hp⟩
      have HP := Lib.hid (fun W (hb : Below w11.heap.size w11 W) => hp.below hb)
      have hsafe := sureN_safe HL.out.1.hz HL.out.2.1
      have hlen := HL.out.1.len
      have CA := Lib.hid (show ∀ W, Below w11.heap.size w11 W → Calls Tryz.prog 32 #[.pointer (some ⟨b1, 0, none⟩)] W (AllR6 (flat Z2) W) from fun W hb => by
        obtain ⟨X, h⟩ := (HP.out W hb).1
        have := all6_any h HL.out.1
        rw [hsafe, List.take_of_length_le (by rw [cnt_flat]; exact Nat.le_refl _)] at this
        exact this)
      have CB := Lib.hid (show ∀ W, Below w11.heap.size w11 W → Calls Tryz.prog 32 #[.pointer (some ⟨b2, 0, none⟩)] W (AllR6 (flat Z2) W) from fun W hb => by
        obtain ⟨X, h⟩ := (HP.out W hb).2.1
        have := all6_any h HL.out.1
        rw [hsafe, List.take_of_length_le (by rw [cnt_flat]; exact Nat.le_refl _)] at this
        exact this)
      obtain ⟨fi, hfi⟩ : ∃ y, y = F := ⟨_, rfl⟩
      obtain ⟨en, hen⟩ : ∃ y, y = F + cnt Z2 := ⟨_, rfl⟩
      have C1 := Lib.hid (show ∀ x W, (x = b1 ∨ x = b2) → Below w11.heap.size w11 W → Calls Tryz.prog 23 #[.pointer (some ⟨x, 0, none⟩)] W fun e w' => e = .returned (.int .i64 (fi : Nat)) ∧ Below W.heap.size W w' from fun x W hx hb => by
        have key : ∀ X, HgX X w.heap.size x d D4 G4 W → _ := fun X h => first6_any h
        rw [HL.out.1.first, ← hfi] at key
        rcases hx with rfl | rfl
        · obtain ⟨X, h⟩ := (HP.out W hb).1; exact key X h
        · obtain ⟨X, h⟩ := (HP.out W hb).2.1; exact key X h)
      have C2 := Lib.hid (show ∀ x W, (x = b1 ∨ x = b2) → Below w11.heap.size w11 W → Calls Tryz.prog 25 #[.pointer (some ⟨x, 0, none⟩)] W fun e w' => e = .returned (.int .i64 (en : Nat)) ∧ Below W.heap.size W w' from fun x W hx hb => by
        have key : ∀ X, HgX X w.heap.size x d D4 G4 W → _ := fun X h => end6_any h
        rw [HL.out.1.end_, ← hen] at key
        rcases hx with rfl | rfl
        · obtain ⟨X, h⟩ := (HP.out W hb).1; exact key X h
        · obtain ⟨X, h⟩ := (HP.out W hb).2.1; exact key X h)
      have C3 := Lib.hid (show ∀ W, Below w11.heap.size w11 W → Calls Tryz.prog 24 #[.pointer (some ⟨b2, 0, none⟩)] W fun e w' => e = .returned (.int .i64 (en : Nat)) ∧ Below W.heap.size W w' from fun W hb => by
        obtain ⟨X, h⟩ := (HP.out W hb).2.1
        have := sure6_any h (srt_of HL.out.1.gs)
        rw [HL.out.1.sure, hsafe, ← hen] at this
        exact this)
      have C4 := Lib.hid (show ∀ x W, (x = b1 ∨ x = b2) → Below w11.heap.size w11 W → Calls Tryz.prog 26 #[.pointer (some ⟨x, 0, none⟩)] W fun e w' => e = .returned (.int .i64 (Z2.length : Nat)) ∧ Below W.heap.size W w' from fun x W hx hb => by
        have key : ∀ X, HgX X w.heap.size x d D4 G4 W → _ := fun X h => segments6_any h
        rw [HL.out.1.segments] at key
        rcases hx with rfl | rfl
        · obtain ⟨X, h⟩ := (HP.out W hb).1; exact key X h
        · obtain ⟨X, h⟩ := (HP.out W hb).2.1; exact key X h)
      have hdk : ∀ W, Below w11.heap.size w11 W → ∃ X, DkX X w.heap.size d D4 W := fun W hb => by
        obtain ⟨X, vs, P, h1, h2, _⟩ := (HP.out W hb).1
        exact ⟨_, h2⟩
      have C5 := Lib.hid (show ∀ W, Below w11.heap.size w11 W → Calls Tryz.prog 36 #[.pointer (some ⟨d, 0, none⟩)] W (RowT (Dk.names D4.L) W) from fun W hb => by
        obtain ⟨X, h⟩ := hdk W hb
        exact namesX h)
      have C6 := Lib.hid (show ∀ W, Below w11.heap.size w11 W → Calls Tryz.prog 37 #[.pointer (some ⟨d, 0, none⟩)] W (RowN (Dk.unsynced D4.L) W) from fun W hb => by
        obtain ⟨X, h⟩ := hdk W hb
        exact unsyncedX h)
      have C7 := Lib.hid (show ∀ W, Below w11.heap.size w11 W → Calls Tryz.prog 38 #[.pointer (some ⟨d, 0, none⟩)] W fun e w' => e = .returned (.int .i64 (Dk.size D4.L)) ∧ W = w' from fun W hb => by
        obtain ⟨X, h⟩ := hdk W hb
        exact sizeX h)
      have hnl : (Dk.names D4.L).length = Z2.length := by unfold Dk.names; rw [List.length_map]; exact hlen
      have hul : (Dk.unsynced D4.L).length = Z2.length := by unfold Dk.unsynced; rw [List.length_map]; exact hlen
      have hz9 : Z2.length ≤ 1000 := by have h1 := HL.out.1.small; have h2 := HL.out.1.hz.few; omega
      have hk9 : (flat Z2).length ≤ 1000 := by have h1 := HL.out.1.small; rw [cnt_flat]; omega
      have HNL := Lib.hid (show (Dk.names D4.L).length ≤ 1000000 ∧ (Dk.unsynced D4.L).length ≤ 1000000 ∧ (flat Z2).length ≤ 1000000 from ⟨by omega, by omega, by omega⟩)
      clear hp CO HT HL hsafe hlen hfi hen hdk hz9 hk9
      generalize Dk.size D4.L = sz at *
      generalize hNN : Dk.names D4.L = nl at *
      generalize hUU : Dk.unsynced D4.L = ul at *
      clear hNN hUU
      generalize Z2.length = zl at *
      generalize flat Z2 = K at *
      clear hul
      have t1 : ((fi : Int) == (fi : Int)) = true := by simp
      have t2 : ((en : Int) == (en : Int)) = true := by simp
      have t3 : ((zl : Int) == (zl : Int)) = true := by simp
      have t4 : ((sz : Int) == (sz : Int)) = true := by simp
      have HNZ := Lib.hid hnl
      rw [hnl]
      clear hnl
      go_wp2_with fail
      with_reducible refine (CA.out _ (Below.refl _ _)).mono ?_
      rintro e w12 ⟨a1, k1, rfl, hr, hb⟩
      have HS1 := Lib.hid (fun W (hb : Below w12.heap.size w12 W) => (spsAt_own hr rfl).below hb)
      have HB := Lib.hid hb
      clear hr hb CA
      go_wp2_with fail
      with_reducible refine (CB.out _ HB.out).mono ?_
      rintro e w13 ⟨a2, k2, rfl, hr, hb⟩
      have hs1 := HS1.out _ hb
      have HS2 := Lib.hid (spsAt_own hr rfl)
      replace HB := Lib.hid (below_step HB.out hb)
      clear hr hb CB HS1
      have CQ := Lib.hid (sameSpans_any k1 k2 hs1 HS2.out (by have := HNL.out; omega) (by have := HNL.out; omega))
      clear hs1 HS2
      go_wp2_with fail
      with_reducible refine CQ.out.mono ?_
      rintro e w14 ⟨hs, -, hb⟩
      obtain rfl := hs (by trivial)
      replace HB := Lib.hid (below_step HB.out hb)
      clear hs hb CQ
      go_wp2_with fail
      with_reducible refine (C1.out _ _ (.inl rfl) HB.out).mono ?_
      rintro e w15 ⟨rfl, hb⟩
      replace HB := Lib.hid (below_step HB.out hb)
      clear hb
      go_wp2_with fail
      with_reducible refine (C1.out _ _ (.inr rfl) HB.out).mono ?_
      rintro e w16 ⟨rfl, hb⟩
      replace HB := Lib.hid (below_step HB.out hb)
      clear hb C1
      go_wp2_with fail
      with_reducible refine (C2.out _ _ (.inl rfl) HB.out).mono ?_
      rintro e w17 ⟨rfl, hb⟩
      replace HB := Lib.hid (below_step HB.out hb)
      clear hb
      go_wp2_with fail
      with_reducible refine (C2.out _ _ (.inr rfl) HB.out).mono ?_
      rintro e w18 ⟨rfl, hb⟩
      replace HB := Lib.hid (below_step HB.out hb)
      clear hb
      go_wp2_with fail
      with_reducible refine (C3.out _ HB.out).mono ?_
      rintro e w19 ⟨rfl, hb⟩
      replace HB := Lib.hid (below_step HB.out hb)
      clear hb C3
      go_wp2_with fail
      with_reducible refine (C2.out _ _ (.inr rfl) HB.out).mono ?_
      rintro e w20 ⟨rfl, hb⟩
      replace HB := Lib.hid (below_step HB.out hb)
      clear hb C2
      go_wp2_with fail
      with_reducible refine (C4.out _ _ (.inl rfl) HB.out).mono ?_
      rintro e w21 ⟨rfl, hb⟩
      replace HB := Lib.hid (below_step HB.out hb)
      clear hb
      go_wp2_with fail
      with_reducible refine (C4.out _ _ (.inr rfl) HB.out).mono ?_
      rintro e w22 ⟨rfl, hb⟩
      replace HB := Lib.hid (below_step HB.out hb)
      clear hb
      go_wp2_with fail
      with_reducible refine (C4.out _ _ (.inr rfl) HB.out).mono ?_
      rintro e w23 ⟨rfl, hb⟩
      replace HB := Lib.hid (below_step HB.out hb)
      clear hb C4
      go_wp2_with fail
      with_reducible refine (C5.out _ HB.out).mono ?_
      rintro e w24 ⟨a3, k3, rfl, hr, hb⟩
      replace HB := Lib.hid (below_step HB.out hb)
      have CQ := Lib.hid (sameTexts5_any nl nl HNL.out.1 HNL.out.1 a3 an k3 cn w24 (tsK_row hr).1 (HP.out _ HB.out).2.2.2.1)
      rw [HNZ.out] at CQ
      rw [HNZ.out]
      clear hr hb C5
      simp only [decide_true] at CQ
      go_wp2_with fail
      with_reducible refine CQ.out.mono ?_
      rintro e w25 ⟨rfl, hb⟩
      replace HB := Lib.hid (below_step HB.out hb)
      clear hb CQ
      go_wp2_with fail
      with_reducible refine (C6.out _ HB.out).mono ?_
      rintro e w26 ⟨a4, k4, rfl, hr, hb⟩
      replace HB := Lib.hid (below_step HB.out hb)
      have CQ := Lib.hid (sameInts5_any ul ul HNL.out.2.1 HNL.out.2.1 a4 ai k4 ci w26 (nsK_row hr).1 (HP.out _ HB.out).2.2.2.2)
      clear hr hb C6
      simp only [decide_true] at CQ
      go_wp2_with fail
      with_reducible refine CQ.out.mono ?_
      rintro e w27 ⟨rfl, hb⟩
      replace HB := Lib.hid (below_step HB.out hb)
      clear hb CQ
      go_wp2_with fail
      with_reducible refine (C7.out _ HB.out).mono ?_
      rintro e w28 ⟨rfl, rfl⟩
      clear C7
      have HBE := Lib.hid (HP.out _ HB.out).2.2.1
      have hvr : Vr w27 := by obtain ⟨X, h⟩ := (HP.out _ HB.out).1; exact h.vr
      have CD := Lib.hid (does6 w27 hvr)
      clear hvr HB HP
      go_wp2_with fail
      with_reducible refine CD.out.mono ?_
      rintro e w29 ⟨rfl, hb⟩
      replace HBE := Lib.hid (below_step HBE.out hb)
      clear hb CD
      go_wp2_with fail
      go_ret
      exact ⟨rfl, HBE.out⟩
    · have CU := Lib.hid (show Calls Tryz.prog 30 #[.pointer (some ⟨d, 0, none⟩)] w2 fun e w' => e = .returned (.bool false) ∧ w2 = w' from by
        obtain ⟨X, h⟩ := HH.out.1.dk
        have := upX h
        rw [hu] at this
        exact this)
      obtain ⟨Z2, hZ2⟩ : ∃ y, y = Z := ⟨_, rfl⟩
      rw [← hZ2] at hl hi
      have HFE := Lib.hid (show Fell F Z2 tl D ∧ D.up = false ∧ D.starts = 0 ∧ D.room = 1048576 ∧ Dk.size D.L ≤ 98 * 150 from ⟨hl, hu, e2, e1, by omega⟩)
      have HK4 := Lib.hid HH.out.1
      obtain ⟨D3, rfl⟩ : ∃ y, y = D := ⟨_, rfl⟩
      clear hZ2 hl hu e1 e2 e3 hi HH hk
      go_wp2_with fail
      with_reducible refine CU.out.mono ?_
      rintro e w3 ⟨rfl, rfl⟩
      obtain ⟨w4, rfl⟩ : ∃ x, x = w2 := ⟨_, rfl⟩
      clear CU
      have CT := Lib.hid (show Calls Tryz.prog 31 #[.pointer (some ⟨d, 0, none⟩)] w4 fun e w' => e = .returned (.int .i64 0) ∧ Kept6 w b d [] (up6 D3) G w' from by
        have := HK4.out.disk (fun X hd hX hB => startX hd hX hB (by rw [HFE.out.2.2.1]; omega))
        rw [start_up HFE.out.2.1] at this
        exact this)
      go_wp2_with fail
      with_reducible refine CT.out.mono ?_
      rintro e w6 ⟨rfl, hk6⟩
      have HK6 := Lib.hid hk6
      clear hk6 CT HK4
      obtain ⟨L', e1, e2, e3, e4⟩ := HFE.out.1.open (by rw [HFE.out.2.2.2.1]; have := HFE.out.2.2.2.2; omega)
      have CO := Lib.hid (HK6.out.open (by show D3.starts + 1 ≤ _; rw [HFE.out.2.2.1]; omega) HFE.out.1.hz rfl)
      rw [e1] at CO
      have HL := Lib.hid (show Lv F Z2 ⟨D3.starts + 1, false, Z2.map smOf⟩ { up6 D3 with set := none, L := L' } ∧ SafeZ Z2 L' ∧ D3.starts + 1 ≤ 1000000000 from ⟨e2, e3, by rw [HFE.out.2.2.1]; omega⟩)
      clear e1 e2 e3 e4 HFE
      go_wp2_with fail
      with_reducible refine CO.out.mono ?_
      rintro e w7 (⟨h0, _⟩ | ⟨-, b1, rfl, hk7⟩)
      · exact absurd rfl h0
      obtain ⟨D4, hD4⟩ : ∃ y, y = { up6 D3 with set := none, L := L' } := ⟨_, rfl⟩
      obtain ⟨G4, hG4⟩ : ∃ y : Lg, y = ⟨D3.starts + 1, false, Z2.map smOf⟩ := ⟨_, rfl⟩
      have hL4 : D4.L = L' := by rw [hD4]
      have hst4 : D4.starts = D3.starts + 1 := by rw [hD4]; rfl
      have HK7 := Lib.hid (show Kept6 w b1 d [] D4 G4 w7 from by rw [hD4, hG4]; exact hk7)
      replace HL := Lib.hid (show Lv F Z2 G4 D4 ∧ SafeZ Z2 D4.L ∧ D4.starts ≤ 1000000000 ∧ G4 = ⟨D4.starts, false, Z2.map smOf⟩ from by
        rw [hst4, hL4]
        refine ⟨?_, HL.out.2.1, HL.out.2.2, hG4⟩
        rw [hD4, hG4]
        exact HL.out.1)
      clear hk7 CO HK6 hD4 hG4 hL4 hst4
      have HT := Lib.hid (Kt6.of HK7.out)
      clear HK7
      have CN := Lib.hid (show Calls Tryz.prog 36 #[.pointer (some ⟨d, 0, none⟩)] w7 (RowT (Dk.names D4.L) w7) from by
        obtain ⟨X, h⟩ := HT.out.dk
        exact namesX h)
      go_wp2_with fail
      with_reducible refine CN.out.mono ?_
      rintro e w8 ⟨an, cn, rfl, hr, hb⟩
      replace HT := Lib.hid (HT.out.texts hb hr)
      clear hr hb CN
      have CI := Lib.hid (show Calls Tryz.prog 37 #[.pointer (some ⟨d, 0, none⟩)] w8 (RowN (Dk.unsynced D4.L) w8) from by
        obtain ⟨X, h⟩ := HT.out.dk
        exact unsyncedX h)
      go_wp2_with fail
      with_reducible refine CI.out.mono ?_
      rintro e w9 ⟨ai, ci, rfl, hr, hb⟩
      replace HT := Lib.hid (HT.out.ints hb hr)
      clear hr hb CI
      have CZ := Lib.hid (show Calls Tryz.prog 38 #[.pointer (some ⟨d, 0, none⟩)] w9 fun e w' => e = .returned (.int .i64 (Dk.size D4.L)) ∧ w9 = w' from by
        obtain ⟨X, h⟩ := HT.out.dk
        exact sizeX h)
      go_wp2_with fail
      with_reducible refine CZ.out.mono ?_
      rintro e w10 ⟨rfl, rfl⟩
      clear CZ
      have CO := Lib.hid (HT.out.open2 HL.out.1 HL.out.2.2.1 HL.out.2.2.2)
      go_wp2_with fail
      with_reducible refine CO.out.mono ?_
      rintro e w11 ⟨b2, rfl, hp⟩
      have HP := Lib.hid (fun W (hb : Below w11.heap.size w11 W) => hp.below hb)
      have hsafe := sureN_safe HL.out.1.hz HL.out.2.1
      have hlen := HL.out.1.len
      have CA := Lib.hid (show ∀ W, Below w11.heap.size w11 W → Calls Tryz.prog 32 #[.pointer (some ⟨b1, 0, none⟩)] W (AllR6 (flat Z2) W) from fun W hb => by
        obtain ⟨X, h⟩ := (HP.out W hb).1
        have := all6_any h HL.out.1
        rw [hsafe, List.take_of_length_le (by rw [cnt_flat]; exact Nat.le_refl _)] at this
        exact this)
      have CB := Lib.hid (show ∀ W, Below w11.heap.size w11 W → Calls Tryz.prog 32 #[.pointer (some ⟨b2, 0, none⟩)] W (AllR6 (flat Z2) W) from fun W hb => by
        obtain ⟨X, h⟩ := (HP.out W hb).2.1
        have := all6_any h HL.out.1
        rw [hsafe, List.take_of_length_le (by rw [cnt_flat]; exact Nat.le_refl _)] at this
        exact this)
      obtain ⟨fi, hfi⟩ : ∃ y, y = F := ⟨_, rfl⟩
      obtain ⟨en, hen⟩ : ∃ y, y = F + cnt Z2 := ⟨_, rfl⟩
      have C1 := Lib.hid (show ∀ x W, (x = b1 ∨ x = b2) → Below w11.heap.size w11 W → Calls Tryz.prog 23 #[.pointer (some ⟨x, 0, none⟩)] W fun e w' => e = .returned (.int .i64 (fi : Nat)) ∧ Below W.heap.size W w' from fun x W hx hb => by
        have key : ∀ X, HgX X w.heap.size x d D4 G4 W → _ := fun X h => first6_any h
        rw [HL.out.1.first, ← hfi] at key
        rcases hx with rfl | rfl
        · obtain ⟨X, h⟩ := (HP.out W hb).1; exact key X h
        · obtain ⟨X, h⟩ := (HP.out W hb).2.1; exact key X h)
      have C2 := Lib.hid (show ∀ x W, (x = b1 ∨ x = b2) → Below w11.heap.size w11 W → Calls Tryz.prog 25 #[.pointer (some ⟨x, 0, none⟩)] W fun e w' => e = .returned (.int .i64 (en : Nat)) ∧ Below W.heap.size W w' from fun x W hx hb => by
        have key : ∀ X, HgX X w.heap.size x d D4 G4 W → _ := fun X h => end6_any h
        rw [HL.out.1.end_, ← hen] at key
        rcases hx with rfl | rfl
        · obtain ⟨X, h⟩ := (HP.out W hb).1; exact key X h
        · obtain ⟨X, h⟩ := (HP.out W hb).2.1; exact key X h)
      have C3 := Lib.hid (show ∀ W, Below w11.heap.size w11 W → Calls Tryz.prog 24 #[.pointer (some ⟨b2, 0, none⟩)] W fun e w' => e = .returned (.int .i64 (en : Nat)) ∧ Below W.heap.size W w' from fun W hb => by
        obtain ⟨X, h⟩ := (HP.out W hb).2.1
        have := sure6_any h (srt_of HL.out.1.gs)
        rw [HL.out.1.sure, hsafe, ← hen] at this
        exact this)
      have C4 := Lib.hid (show ∀ x W, (x = b1 ∨ x = b2) → Below w11.heap.size w11 W → Calls Tryz.prog 26 #[.pointer (some ⟨x, 0, none⟩)] W fun e w' => e = .returned (.int .i64 (Z2.length : Nat)) ∧ Below W.heap.size W w' from fun x W hx hb => by
        have key : ∀ X, HgX X w.heap.size x d D4 G4 W → _ := fun X h => segments6_any h
        rw [HL.out.1.segments] at key
        rcases hx with rfl | rfl
        · obtain ⟨X, h⟩ := (HP.out W hb).1; exact key X h
        · obtain ⟨X, h⟩ := (HP.out W hb).2.1; exact key X h)
      have hdk : ∀ W, Below w11.heap.size w11 W → ∃ X, DkX X w.heap.size d D4 W := fun W hb => by
        obtain ⟨X, vs, P, h1, h2, _⟩ := (HP.out W hb).1
        exact ⟨_, h2⟩
      have C5 := Lib.hid (show ∀ W, Below w11.heap.size w11 W → Calls Tryz.prog 36 #[.pointer (some ⟨d, 0, none⟩)] W (RowT (Dk.names D4.L) W) from fun W hb => by
        obtain ⟨X, h⟩ := hdk W hb
        exact namesX h)
      have C6 := Lib.hid (show ∀ W, Below w11.heap.size w11 W → Calls Tryz.prog 37 #[.pointer (some ⟨d, 0, none⟩)] W (RowN (Dk.unsynced D4.L) W) from fun W hb => by
        obtain ⟨X, h⟩ := hdk W hb
        exact unsyncedX h)
      have C7 := Lib.hid (show ∀ W, Below w11.heap.size w11 W → Calls Tryz.prog 38 #[.pointer (some ⟨d, 0, none⟩)] W fun e w' => e = .returned (.int .i64 (Dk.size D4.L)) ∧ W = w' from fun W hb => by
        obtain ⟨X, h⟩ := hdk W hb
        exact sizeX h)
      have hnl : (Dk.names D4.L).length = Z2.length := by unfold Dk.names; rw [List.length_map]; exact hlen
      have hul : (Dk.unsynced D4.L).length = Z2.length := by unfold Dk.unsynced; rw [List.length_map]; exact hlen
      have hz9 : Z2.length ≤ 1000 := by have h1 := HL.out.1.small; have h2 := HL.out.1.hz.few; omega
      have hk9 : (flat Z2).length ≤ 1000 := by have h1 := HL.out.1.small; rw [cnt_flat]; omega
      have HNL := Lib.hid (show (Dk.names D4.L).length ≤ 1000000 ∧ (Dk.unsynced D4.L).length ≤ 1000000 ∧ (flat Z2).length ≤ 1000000 from ⟨by omega, by omega, by omega⟩)
      clear hp CO HT HL hsafe hlen hfi hen hdk hz9 hk9
      generalize Dk.size D4.L = sz at *
      generalize hNN : Dk.names D4.L = nl at *
      generalize hUU : Dk.unsynced D4.L = ul at *
      clear hNN hUU
      generalize Z2.length = zl at *
      generalize flat Z2 = K at *
      clear hul
      have t1 : ((fi : Int) == (fi : Int)) = true := by simp
      have t2 : ((en : Int) == (en : Int)) = true := by simp
      have t3 : ((zl : Int) == (zl : Int)) = true := by simp
      have t4 : ((sz : Int) == (sz : Int)) = true := by simp
      have HNZ := Lib.hid hnl
      rw [hnl]
      clear hnl
      go_wp2_with fail
      with_reducible refine (CA.out _ (Below.refl _ _)).mono ?_
      rintro e w12 ⟨a1, k1, rfl, hr, hb⟩
      have HS1 := Lib.hid (fun W (hb : Below w12.heap.size w12 W) => (spsAt_own hr rfl).below hb)
      have HB := Lib.hid hb
      clear hr hb CA
      go_wp2_with fail
      with_reducible refine (CB.out _ HB.out).mono ?_
      rintro e w13 ⟨a2, k2, rfl, hr, hb⟩
      have hs1 := HS1.out _ hb
      have HS2 := Lib.hid (spsAt_own hr rfl)
      replace HB := Lib.hid (below_step HB.out hb)
      clear hr hb CB HS1
      have CQ := Lib.hid (sameSpans_any k1 k2 hs1 HS2.out (by have := HNL.out; omega) (by have := HNL.out; omega))
      clear hs1 HS2
      go_wp2_with fail
      with_reducible refine CQ.out.mono ?_
      rintro e w14 ⟨hs, -, hb⟩
      obtain rfl := hs (by trivial)
      replace HB := Lib.hid (below_step HB.out hb)
      clear hs hb CQ
      go_wp2_with fail
      with_reducible refine (C1.out _ _ (.inl rfl) HB.out).mono ?_
      rintro e w15 ⟨rfl, hb⟩
      replace HB := Lib.hid (below_step HB.out hb)
      clear hb
      go_wp2_with fail
      with_reducible refine (C1.out _ _ (.inr rfl) HB.out).mono ?_
      rintro e w16 ⟨rfl, hb⟩
      replace HB := Lib.hid (below_step HB.out hb)
      clear hb C1
      go_wp2_with fail
      with_reducible refine (C2.out _ _ (.inl rfl) HB.out).mono ?_
      rintro e w17 ⟨rfl, hb⟩
      replace HB := Lib.hid (below_step HB.out hb)
      clear hb
      go_wp2_with fail
      with_reducible refine (C2.out _ _ (.inr rfl) HB.out).mono ?_
      rintro e w18 ⟨rfl, hb⟩
      replace HB := Lib.hid (below_step HB.out hb)
      clear hb
      go_wp2_with fail
      with_reducible refine (C3.out _ HB.out).mono ?_
      rintro e w19 ⟨rfl, hb⟩
      replace HB := Lib.hid (below_step HB.out hb)
      clear hb C3
      go_wp2_with fail
      with_reducible refine (C2.out _ _ (.inr rfl) HB.out).mono ?_
      rintro e w20 ⟨rfl, hb⟩
      replace HB := Lib.hid (below_step HB.out hb)
      clear hb C2
      go_wp2_with fail
      with_reducible refine (C4.out _ _ (.inl rfl) HB.out).mono ?_
      rintro e w21 ⟨rfl, hb⟩
      replace HB := Lib.hid (below_step HB.out hb)
      clear hb
      go_wp2_with fail
      with_reducible refine (C4.out _ _ (.inr rfl) HB.out).mono ?_
      rintro e w22 ⟨rfl, hb⟩
      replace HB := Lib.hid (below_step HB.out hb)
      clear hb
      go_wp2_with fail
      with_reducible refine (C4.out _ _ (.inr rfl) HB.out).mono ?_
      rintro e w23 ⟨rfl, hb⟩
      replace HB := Lib.hid (below_step HB.out hb)
      clear hb C4
      go_wp2_with fail
      with_reducible refine (C5.out _ HB.out).mono ?_
      rintro e w24 ⟨a3, k3, rfl, hr, hb⟩
      replace HB := Lib.hid (below_step HB.out hb)
      have CQ := Lib.hid (sameTexts5_any nl nl HNL.out.1 HNL.out.1 a3 an k3 cn w24 (tsK_row hr).1 (HP.out _ HB.out).2.2.2.1)
      rw [HNZ.out] at CQ
      rw [HNZ.out]
      clear hr hb C5
      simp only [decide_true] at CQ
      go_wp2_with fail
      with_reducible refine CQ.out.mono ?_
      rintro e w25 ⟨rfl, hb⟩
      replace HB := Lib.hid (below_step HB.out hb)
      clear hb CQ
      go_wp2_with fail
      with_reducible refine (C6.out _ HB.out).mono ?_
      rintro e w26 ⟨a4, k4, rfl, hr, hb⟩
      replace HB := Lib.hid (below_step HB.out hb)
      have CQ := Lib.hid (sameInts5_any ul ul HNL.out.2.1 HNL.out.2.1 a4 ai k4 ci w26 (nsK_row hr).1 (HP.out _ HB.out).2.2.2.2)
      clear hr hb C6
      simp only [decide_true] at CQ
      go_wp2_with fail
      with_reducible refine CQ.out.mono ?_
      rintro e w27 ⟨rfl, hb⟩
      replace HB := Lib.hid (below_step HB.out hb)
      clear hb CQ
      go_wp2_with fail
      with_reducible refine (C7.out _ HB.out).mono ?_
      rintro e w28 ⟨rfl, rfl⟩
      clear C7
      have HBE := Lib.hid (HP.out _ HB.out).2.2.1
      have hvr : Vr w27 := by obtain ⟨X, h⟩ := (HP.out _ HB.out).1; exact h.vr
      have CD := Lib.hid (does6 w27 hvr)
      clear hvr HB HP
      go_wp2_with fail
      with_reducible refine CD.out.mono ?_
      rintro e w29 ⟨rfl, hb⟩
      replace HBE := Lib.hid (below_step HBE.out hb)
      clear hb CD
      go_wp2_with fail
      go_ret
      exact ⟨rfl, HBE.out⟩
/-- The law, for any opened arguments. -/
theorem hostlogTwice_calls (w : World) (hv : Vr w) (u : Value) (hu : URas6 w u) (k : Value) (hk : UNs5 w k) : Calls Tryz.prog 9 #[u, k] w fun e w' => e = .returned (.bool true) ∧ Below w.heap.size w w' := by
  obtain ⟨L, ao, cap, rfl, hI, hA⟩ := hu
  obtain ⟨ks, ko, kc, rfl, h1, h2⟩ := hk
  exact hostlogTwice_y w hv L ao cap hI hA ks ko kc h1 h2

end Go.Proofs.YtmammmjmipgmoaaGreatDoor
