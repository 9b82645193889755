/- Texts of lower layers, as one. -/
import Derived.Test.YtmammmjmipgmoaaGreatDoorZHz
import Derived.Deep.CutBlock
import Derived.Test.YtmammmjmipgmoaaGreatDoorZHr
/- Layer 6: HostlogKeep. By wip/tools/genhlkeep.py. -/
namespace Go.Proofs.YtmammmjmipgmoaaGreatDoor
set_option linter.unusedVariables false
open Go Go.RowKit Go.Maps

namespace Hl
/-- What is known of so many records of what is sure now. -/
def kj6 (K : List M.Sp) (F : Nat) (T : List M.Sp) (j : Nat) : List M.Sp := K ++ (T.take j).drop (K.length - F)
section
variable {K T : List M.Sp} {F j : Nat}
theorem kj6_zero : kj6 K F T 0 = K := by unfold kj6; rw [List.take_zero, List.drop_nil, List.append_nil]
theorem kj6_old (h : j ≤ K.length - F) : kj6 K F T j = K := by
  unfold kj6
  rw [List.drop_eq_nil_of_le (by rw [List.length_take]; omega), List.append_nil]
theorem kj6_end (h : T.length ≤ j) : kj6 K F T j = K ++ T.drop (K.length - F) := by unfold kj6; rw [List.take_of_length_le h]
theorem kj6_len (hF : F ≤ K.length) (h : K.length ≤ F + j) (hj : j ≤ T.length) : (kj6 K F T j).length = F + j := by
  unfold kj6
  rw [List.length_append, List.length_drop, List.length_take]
  omega
theorem kj6_new (hF : F ≤ K.length) (h : K.length ≤ F + j) (hj : j < T.length) : kj6 K F T (j + 1) = kj6 K F T j ++ [T.getD j M.sp0] := by
  unfold kj6
  rw [List.take_succ_eq_append_getElem hj, List.drop_append_of_le_length (by rw [List.length_take]; omega), List.append_assoc]
  simp [List.getD, hj]
theorem kj6_same (hp : K.drop F <+: T) (h : F + j < K.length) : T.getD j M.sp0 = K.getD (F + j) M.sp0 := by
  obtain ⟨R, rfl⟩ := hp
  have hj : j < (K.drop F).length := by rw [List.length_drop]; omega
  simp [List.getD, List.getElem?_append_left hj, List.getElem?_drop]
end
end Hl
section
open Hl
variable {w0 w w' : World} {b d : Nat} {D : Dk.St} {G : Lg} {R : List (Value × List M.Sp)} {x y : Value × List M.Sp}
theorem Kept6.swap (h : Kept6 w0 b d (x :: y :: R) D G w) : Kept6 w0 b d (y :: x :: R) D G w := by
  obtain ⟨X, h1, h2, h3, h4, h5⟩ := h
  obtain ⟨q1, q2⟩ := List.pairwise_cons.1 h5
  obtain ⟨q3, q4⟩ := List.pairwise_cons.1 q2
  refine ⟨X, h1, h2, h3, fun r hr => h4 r (by simp only [List.mem_cons] at hr ⊢; rcases hr with h | h | h; exact .inr (.inl h); exact .inl h; exact .inr (.inr h)), List.pairwise_cons.2 ⟨fun s hs q hq hq2 => ?_, List.pairwise_cons.2 ⟨fun s hs => q1 s (List.mem_cons_of_mem _ hs), q4⟩⟩⟩
  rcases List.mem_cons.1 hs with rfl | hs
  · exact q1 y (List.mem_cons_self ..) q hq2 hq
  · exact q3 s hs q hq hq2
theorem Kept6.tail2 (h : Kept6 w0 b d (x :: y :: R) D G w) : Kept6 w0 b d (x :: R) D G w := by
  obtain ⟨X, h1, h2, h3, h4, h5⟩ := h
  obtain ⟨q1, q2⟩ := List.pairwise_cons.1 h5
  refine ⟨X, h1, h2, h3, fun r hr => h4 r ?_, List.pairwise_cons.2 ⟨fun s hs => q1 s (List.mem_cons_of_mem _ hs), (List.pairwise_cons.1 q2).2⟩⟩
  rcases List.mem_cons.1 hr with rfl | hr
  · exact List.mem_cons_self ..
  · exact List.mem_cons_of_mem _ (List.mem_cons_of_mem _ hr)
end
namespace Hl
/-- What holds ahead of each act. -/
structure KeS (n k : Nat) (K : List M.Sp) (F : Nat) (Z : List Sg) (G : Lg) (D : Dk.St) : Prop where
  lv : Lv F Z G D
  kn : KnwE K F Z D.L
  room : D.room = n
  st : D.starts ≤ k
  num : F + cnt Z ≤ k
/-- What holds behind it, once the log is open. -/
structure KeT (n k : Nat) (K : List M.Sp) (F0 F : Nat) (Z : List Sg) (G : Lg) (D : Dk.St) : Prop where
  lv : Lv F Z G D
  kn : Knw K F Z D.L
  room : D.room = n
  st : D.starts ≤ k
  num : F + cnt Z ≤ k
  lo : F0 ≤ F
end Hl
open Hl in
set_option maxHeartbeats 16000000 in
set_option maxRecDepth 100000 in
theorem hostlogKeep_y (w : World) (hv : Vr w) (room : Int) (hroom : 0 ≤ room ∧ room ≤ 65535) (L : List Ra6) (ao : Option Addr) (cap : Nat) (hI : RasI6 L) (hA : RasAt6 w ao L) :
    Calls Tryz.prog 5 #[.int .u16 room, .slice ao L.length cap] w fun e w' => e = .returned (.bool true) ∧ Below w.heap.size w w' := by
  have CG := Lib.hid (great6 L ao cap w hI hA)
  obtain ⟨n, hn⟩ : ∃ n : Nat, (500 : Int) + room = (n : Int) := ⟨(500 + room).toNat, by omega⟩
  have hcv : IntKind.i64.wrap room = room := IntWalk.i64_in _ (by omega)
  have had : IntKind.i64.wrap (500 + room) = (n : Int) := by rw [IntWalk.i64_in _ (by omega)]; omega
  have hn1 : 1 ≤ n ∧ n ≤ 1048576 := by omega
  have CO := Lib.hid (show Calls Tryz.prog 28 #[.int .i64 (n : Nat)] w (Opd6 n w) from opened6 n hn1.1 hn1.2 hv)
  have HA := Lib.hid hA
  have HI := Lib.hid hI
  obtain ⟨i0, z0, hi0, hz0, h01, h02, h03⟩ := infoSp_parts
  clear hv hA hI hn
  go_enter Tryz.func5, Tryz.ntmps5
  go_wp2_with fail
  with_reducible refine CG.out.mono ?_
  rintro e w0 (⟨rfl, rfl⟩ | ⟨rfl, hF, rfl⟩)
  · go_wp2_with fail
    go_ret
    exact ⟨rfl, Below.refl _ _⟩
  have hL := hF.n
  have HF := Lib.hid hF
  clear hF CG
  go_wp2_with fail
  with_reducible refine CO.out.mono ?_
  rintro e w1 ⟨d, b0, rfl, hg, hb, -, -⟩
  have HK0 := Lib.hid (show Kept6 w b0 d [(.slice none 0 0, [])] (Dk.new n) ⟨0, false, []⟩ w1 ∧ KeS n 0 [] 0 [] ⟨0, false, []⟩ (Dk.new n) from ⟨Kept6.row ⟨fun _ => False, hg, fun k q => q.elim, hb, fun r hr => (by cases hr), List.Pairwise.nil⟩, lv_new n, ⟨Nat.le_refl _, rfl⟩, rfl, Nat.le_refl _, Nat.le_refl _⟩)
  clear hg hb CO hcv had
  go_wp2_with fail
  go_loopw [6, 7, 8, 9] (fun lp u fv iv wr => ∃ (k b : Nat) (D : Dk.St) (G : Lg) (F : Nat) (Z : List Sg) (K : List M.Sp), k ≤ L.length ∧ lp = .pointer (some ⟨b, 0, none⟩) ∧ fv = .int .i64 F ∧ iv = .int .i64 k ∧ Hid (Kept6 w b d [(u, K)] D G wr ∧ KeS n k K F Z G D)) (fun _ _ _ i _ => L.length - (intOf i).toNat)
  case atStart => exact ⟨0, b0, _, _, 0, [], [], Nat.zero_le _, rfl, rfl, rfl, HK0⟩
  case round =>
  clear HK0
  obtain ⟨w2, rfl⟩ : ∃ x, x = wr := ⟨_, rfl⟩
  obtain ⟨k, b, D, G, F, Z, K, hk, rfl, rfl, rfl, HH⟩ := hrel
  obtain ⟨au, cu, rfl⟩ := row_shape5 (HH.out.1.own (List.mem_cons_self ..))
  by_cases hlt : k < L.length
  · have d1 : decide ((k : Int) < (L.length : Int)) = true := by simp; omega
    have d1' : decide (k < L.length) = true := by simpa using hlt
    have hwi : IntKind.i64.wrap ((k : Int) + 1) = (k : Int) + 1 := IntWalk.i64_in _ (by omega)
    have hm : L.getD k ra06 ∈ L := by rw [show L.getD k ra06 = L[k] from by simp [List.getD, hlt]]; exact List.getElem_mem hlt
    have HW := Lib.hid (HI.out.each _ hm)
    have HX := Lib.hid (show (L.getD k ra06).s.fits from (HF.out.each k hlt).fits HW.out)
    have HFW := Lib.hid (HF.out.each k hlt)
    have HNA := Lib.hid (show NsA5 w (L.getD k ra06).o (L.getD k ra06).keep from by obtain ⟨g, off, _, _, q⟩ := HA.out.off hlt; exact q)
    obtain ⟨g, off, rfl, ⟨c0, c1, c2, c3, c4, c5, c6, c7, c8, c9, c10, c11⟩, -⟩ := (HA.out.below HH.out.1.bel).off hlt
    clear hm
    generalize L.getD k ra06 = r at *
    obtain ⟨hk0, hk1⟩ := HW.out.kind
    have hrn := HW.out.n
    have HKR := Lib.hid (show Dk.KsOk r.keep from HW.out.keep.ks (by have := HFW.out.keep; omega))
    clear HW HFW
    obtain ⟨m, hm, hm13⟩ : ∃ m : Nat, r.kind % 13 = (m : Int) ∧ m < 13 := ⟨(r.kind % 13).toNat, by omega, by omega⟩
    have hk8 : k ≤ 800 := by omega
    have hb3 := (Below.refl w2.heap.size w2).alloc (Nat.le_refl _) (.cells (raA6 r) 42)
    have hbx := bk_new (raA6 r) 42 w2
    have HK3 := Lib.hid (HH.out.1.below hb3)
    have HBX := Lib.hid hbx
    have HS := Lib.hid HH.out.2
    unfold raA6 at HK3 HBX
    clear hb3 hbx HH
    go_upto_region 12 with fail
    obtain ⟨xb, hxb⟩ : ∃ x, x = w2.heap.size := ⟨_, rfl⟩
    obtain ⟨w3, hw3⟩ : ∃ x, x = w2.alloc (.cells #[.int .u8 r.kind, .int .i64 r.s.trace, .int .i64 r.s.id, .int .i64 r.s.parent, .string (S r.s.svc), .string (S r.s.host), .int .i64 r.s.start, .int .i64 r.s.dur, .string (S r.s.note), .int .i64 r.n, .int .i64 r.m, .slice r.o r.keep.length r.k] 42) := ⟨_, rfl⟩
    rw [← hw3] at HK3
    rw [← hw3, ← hxb] at HBX
    simp only [← hw3, ← hxb]
    clear hw3 hxb c0 c1 c2 c3 c4 c5 c6 c7 c8 c9 c10 c11
    have x0 : w3.cell? ⟨xb, 0, none⟩ = some (.int .u8 r.kind) := HBX.out.cell 0
    go_upto_block 2 with fail
    clear x0
    go_cut [40] from 28 to 176 (fun c wx => ∃ D' G', Hid (Kept6 w b d [(.slice au K.length cu, K)] D' G' wx ∧ Nxt F Z D (k + 1) D' G'))
    case first =>
      rcases (show m = 5 ∨ m = 6 ∨ m = 7 ∨ m = 8 ∨ m = 10 ∨ m = 11 ∨ (m ≠ 5 ∧ m ≠ 6 ∧ m ≠ 7 ∧ m ≠ 8 ∧ m ≠ 10 ∧ m ≠ 11) by omega) with rfl | rfl | rfl | rfl | rfl | rfl | ⟨n5, n6, n7, n8, n10, n11⟩
      · have CA := Lib.hid (syn_nx HK3.out HS.out.lv HS.out.num)
        go_wp2_with fail
        with_reducible refine CA.out.mono ?_
        rintro e w4 ⟨rr, D', G', rfl, hk3, hs3⟩
        have HK4 := Lib.hid (show Kept6 w b d [(.slice au K.length cu, K)] D' G' w4 ∧ Nxt F Z D (k + 1) D' G' from ⟨hk3, hs3⟩)
        clear hk3 hs3 CA
        go_wp2_with fail
        go_meet
        exact ⟨D', G', HK4⟩
      · have CA := Lib.hid (syn_nx HK3.out HS.out.lv HS.out.num)
        go_wp2_with fail
        with_reducible refine CA.out.mono ?_
        rintro e w4 ⟨rr, D', G', rfl, hk3, hs3⟩
        have HK4 := Lib.hid (show Kept6 w b d [(.slice au K.length cu, K)] D' G' w4 ∧ Nxt F Z D (k + 1) D' G' from ⟨hk3, hs3⟩)
        clear hk3 hs3 CA
        go_wp2_with fail
        go_meet
        exact ⟨D', G', HK4⟩
      · have CA := Lib.hid (rot_nx HK3.out HS.out.lv HS.out.num hk8)
        go_wp2_with fail
        with_reducible refine CA.out.mono ?_
        rintro e w4 ⟨rr, D', G', rfl, hk3, hs3⟩
        have HK4 := Lib.hid (show Kept6 w b d [(.slice au K.length cu, K)] D' G' w4 ∧ Nxt F Z D (k + 1) D' G' from ⟨hk3, hs3⟩)
        clear hk3 hs3 CA
        go_wp2_with fail
        go_meet
        exact ⟨D', G', HK4⟩
      · have CA := Lib.hid (ret_nx HK3.out HS.out.lv r.n hrn.2 HS.out.num)
        have x9 : w3.cell? ⟨xb, 9, none⟩ = some (.int .i64 r.n) := HBX.out.cell 9
        go_wp2_with fail
        with_reducible refine CA.out.mono ?_
        rintro e w4 ⟨rr, D', G', rfl, hk3, hs3⟩
        have HK4 := Lib.hid (show Kept6 w b d [(.slice au K.length cu, K)] D' G' w4 ∧ Nxt F Z D (k + 1) D' G' from ⟨hk3, hs3⟩)
        clear hk3 hs3 CA
        go_wp2_with fail
        go_meet
        exact ⟨D', G', HK4⟩
      · have CA := Lib.hid (crash_nx HK3.out HS.out.lv r.keep r.o r.k HKR.out HNA.out HS.out.num)
        have x11 : w3.cell? ⟨xb, 11, none⟩ = some (.slice r.o r.keep.length r.k) := HBX.out.cell 11
        go_wp2_with fail
        with_reducible refine CA.out.mono ?_
        rintro e w4 ⟨rr, D', G', rfl, hk3, hs3⟩
        have HK4 := Lib.hid (show Kept6 w b d [(.slice au K.length cu, K)] D' G' w4 ∧ Nxt F Z D (k + 1) D' G' from ⟨hk3, hs3⟩)
        clear hk3 hs3 CA
        go_wp2_with fail
        go_meet
        exact ⟨D', G', HK4⟩
      · have CA := Lib.hid (fail_nx HK3.out HS.out.lv r.n r.keep r.o r.k hrn.2 HKR.out (HNA.out.below HK3.out.bel) HS.out.num)
        have x9 : w3.cell? ⟨xb, 9, none⟩ = some (.int .i64 r.n) := HBX.out.cell 9
        have x11 : w3.cell? ⟨xb, 11, none⟩ = some (.slice r.o r.keep.length r.k) := HBX.out.cell 11
        go_wp2_with fail
        with_reducible refine CA.out.mono ?_
        rintro e w4 ⟨rr, D', G', rfl, hk3, hs3⟩
        have HK4 := Lib.hid (show Kept6 w b d [(.slice au K.length cu, K)] D' G' w4 ∧ Nxt F Z D (k + 1) D' G' from ⟨hk3, hs3⟩)
        clear hk3 hs3 CA
        go_wp2_with fail
        go_meet
        exact ⟨D', G', HK4⟩
      · have CA := Lib.hid (app_nx HK3.out HS.out.lv r.s HX.out HS.out.num hk8)
        unfold spA6 at CA
        have x1 : w3.cell? ⟨xb, 1, none⟩ = some (.int .i64 r.s.trace) := HBX.out.cell 1
        have x2 : w3.cell? ⟨xb, 2, none⟩ = some (.int .i64 r.s.id) := HBX.out.cell 2
        have x3 : w3.cell? ⟨xb, 3, none⟩ = some (.int .i64 r.s.parent) := HBX.out.cell 3
        have x4 : w3.cell? ⟨xb, 4, none⟩ = some (.string (S r.s.svc)) := HBX.out.cell 4
        have x5 : w3.cell? ⟨xb, 5, none⟩ = some (.string (S r.s.host)) := HBX.out.cell 5
        have x6 : w3.cell? ⟨xb, 6, none⟩ = some (.int .i64 r.s.start) := HBX.out.cell 6
        have x7 : w3.cell? ⟨xb, 7, none⟩ = some (.int .i64 r.s.dur) := HBX.out.cell 7
        have x8 : w3.cell? ⟨xb, 8, none⟩ = some (.string (S r.s.note)) := HBX.out.cell 8
        have t5 : ((m : Int) == 5) = false := by simp; omega
        have t6 : ((m : Int) == 6) = false := by simp; omega
        have t7 : ((m : Int) == 7) = false := by simp; omega
        have t8 : ((m : Int) == 8) = false := by simp; omega
        have t10 : ((m : Int) == 10) = false := by simp; omega
        have t11 : ((m : Int) == 11) = false := by simp; omega
        go_wp2_with fail
        with_reducible refine CA.out.mono ?_
        rintro e w4 ⟨rr, D', G', rfl, hk3, hs3⟩
        have HK4 := Lib.hid (show Kept6 w b d [(.slice au K.length cu, K)] D' G' w4 ∧ Nxt F Z D (k + 1) D' G' from ⟨hk3, hs3⟩)
        clear hk3 hs3 CA
        go_wp2_with fail
        go_meet
        exact ⟨D', G', HK4⟩
    case rest =>
    obtain ⟨D', G', HN⟩ := hcut
    obtain ⟨w5, rfl⟩ : ∃ x, x = wc := ⟨_, rfl⟩
    clear HK3 HBX hk0 hk1 hm hm13 hrn HKR HNA HX
    obtain ⟨hN1, hN2, -, F', Z', hlo, hnu, hkn, hl⟩ := HN.out.2
    have hkn' := hkn K HS.out.kn
    have hroom' : D'.room = n := hN1.trans HS.out.room
    have hst' : D'.starts ≤ k := by rw [hN2]; exact HS.out.st
    have HKN := Lib.hid HN.out.1
    clear HN hN1 hN2 hkn HS
    rcases hl with hl | ⟨tl, hl, hu⟩
    · have hup := hl.up
      have CU := Lib.hid (show Calls Tryz.prog 30 #[.pointer (some ⟨d, 0, none⟩)] w5 fun e w' => e = .returned (.bool true) ∧ w5 = w' from by
        obtain ⟨X, h⟩ := HKN.out.dk
        have := upX h
        rw [hup] at this
        exact this)
      have HT := Lib.hid (show KeT n (k + 1) K F F' Z' G' D' from ⟨hl, hkn', hroom', by omega, hnu, hlo⟩)
      clear hl hkn' hroom' hst' hnu hlo hup
      go_wp2_with fail
      with_reducible refine CU.out.mono ?_
      rintro e w6 ⟨rfl, rfl⟩
      obtain ⟨w6, rfl⟩ : ∃ x, x = w5 := ⟨_, rfl⟩
      obtain ⟨bb, rfl⟩ : ∃ x, x = b := ⟨_, rfl⟩
      have HK6 := HKN
      clear CU HKN
      have CA := Lib.hid (show Calls Tryz.prog 32 #[.pointer (some ⟨bb, 0, none⟩)] w6 (AllR6 ((flat Z').take (sureN Z' D'.L)) w6) from by
        obtain ⟨X, h⟩ := HK6.out.hg
        exact all6_any h HT.out.lv)
      obtain ⟨T, hT⟩ : ∃ y, y = (flat Z').take (sureN Z' D'.L) := ⟨_, rfl⟩
      rw [← hT] at CA
      have hTl : T.length = sureN Z' D'.L := by rw [hT, List.length_take, cnt_flat]; have := sureN_le Z' D'.L; omega
      have HTT := Lib.hid hT
      clear hT
      go_wp2_with fail
      with_reducible refine CA.out.mono ?_
      rintro e w7 ⟨as_, cs, rfl, hr, hb⟩
      have HK7 := Lib.hid (fun W (hb2 : Below w7.heap.size w7 W) => (HK6.out.add hb hr).below hb2)
      clear hr hb CA HK6
      have hkp := HT.out.kn.1
      have hkl := HT.out.kn.le
      have hsl := sureN_le Z' D'.L
      have hnum := HT.out.num
      have hlo := HT.out.lo
      obtain ⟨su, hsu⟩ : ∃ y, y = F' + sureN Z' D'.L := ⟨_, rfl⟩
      obtain ⟨en, hen⟩ : ∃ y, y = F' + cnt Z' := ⟨_, rfl⟩
      have C1 := Lib.hid (show ∀ W, Below w7.heap.size w7 W → Calls Tryz.prog 23 #[.pointer (some ⟨bb, 0, none⟩)] W fun e w' => e = .returned (.int .i64 (F' : Nat)) ∧ Below W.heap.size W w' from fun W hb => by
        obtain ⟨X, h⟩ := (HK7.out W hb).hg
        have := first6_any h
        rw [HT.out.lv.first] at this
        exact this)
      have C2 := Lib.hid (show ∀ W, Below w7.heap.size w7 W → Calls Tryz.prog 25 #[.pointer (some ⟨bb, 0, none⟩)] W fun e w' => e = .returned (.int .i64 (en : Nat)) ∧ Below W.heap.size W w' from fun W hb => by
        obtain ⟨X, h⟩ := (HK7.out W hb).hg
        have := end6_any h
        rw [HT.out.lv.end_, ← hen] at this
        exact this)
      have C3 := Lib.hid (show ∀ W, Below w7.heap.size w7 W → Calls Tryz.prog 24 #[.pointer (some ⟨bb, 0, none⟩)] W fun e w' => e = .returned (.int .i64 (su : Nat)) ∧ Below W.heap.size W w' from fun W hb => by
        obtain ⟨X, h⟩ := (HK7.out W hb).hg
        have := sure6_any h (srt_of HT.out.lv.gs)
        rw [HT.out.lv.sure, ← hsu] at this
        exact this)
      have t1 : decide ((F' : Int) < (F : Int)) = false := by simp; omega
      have t1' : decide (F' < F) = false := by simp; omega
      have t2 : decide ((su : Int) < (K.length : Int)) = false := by simp; omega
      have t2' : decide (su < K.length) = false := by simp; omega
      have t3 : decide ((en : Int) < (su : Int)) = false := by simp; omega
      have t3' : decide (en < su) = false := by simp; omega
      have HNU := Lib.hid (show F' ≤ K.length ∧ K.length ≤ F' + T.length ∧ T.length ≤ 900 ∧ F' ≤ 900 from ⟨hkp, by omega, by omega, by omega⟩)
      clear hkp hkl hsl hnum hlo hsu hen hTl
      go_wp2_with fail
      with_reducible refine (C1.out _ (Below.refl _ _)).mono ?_
      rintro e w8 ⟨rfl, hb⟩
      have HB := Lib.hid hb
      clear hb
      go_wp2_with fail
      with_reducible refine (C3.out _ HB.out).mono ?_
      rintro e w9 ⟨rfl, hb⟩
      replace HB := Lib.hid (below_step HB.out hb)
      clear hb
      go_wp2_with fail
      with_reducible refine (C2.out _ HB.out).mono ?_
      rintro e w10 ⟨rfl, hb⟩
      replace HB := Lib.hid (below_step HB.out hb)
      clear hb C2
      go_wp2_with fail
      with_reducible refine (C3.out _ HB.out).mono ?_
      rintro e w11 ⟨rfl, hb⟩
      replace HB := Lib.hid (below_step HB.out hb)
      clear hb C3
      go_wp2_with fail
      with_reducible refine (C1.out _ HB.out).mono ?_
      rintro e w12 ⟨rfl, hb⟩
      replace HB := Lib.hid (below_step HB.out hb)
      clear hb C1 t1 t1' t2 t2' t3 t3'
      have HJ0 := Lib.hid (show Kept6 w bb d [(.slice au K.length cu, kj6 K F' T 0), (.slice as_ T.length cs, T)] D' G' w12 from by rw [kj6_zero]; exact (HK7.out _ HB.out).swap)
      clear HB HK7
      go_wp2_with fail
      go_loopw [7, 15] (fun u jv wr => ∃ j : Nat, j ≤ T.length ∧ jv = .int .i64 j ∧ Hid (Kept6 w bb d [(u, kj6 K F' T j), (.slice as_ T.length cs, T)] D' G' wr)) (fun _ jv _ => T.length - (intOf jv).toNat)
      case atStart => exact ⟨0, Nat.zero_le _, rfl, HJ0⟩
      case round =>
      clear HJ0
      obtain ⟨w9, rfl⟩ : ∃ x, x = wr := ⟨_, rfl⟩
      obtain ⟨j, hj, rfl, HJ⟩ := hrel
      by_cases hjl : j < T.length
      · have e1 : decide ((j : Int) < (T.length : Int)) = true := by simp; omega
        have e1' : decide (j < T.length) = true := by simpa using hjl
        have hwj : IntKind.i64.wrap ((j : Int) + 1) = (j : Int) + 1 := IntWalk.i64_in _ (by have := HNU.out; omega)
        obtain ⟨nn, hnn⟩ : ∃ y, y = F' + j := ⟨_, rfl⟩
        have hwn : IntKind.i64.wrap ((F' : Int) + (j : Int)) = (nn : Int) := by rw [IntWalk.i64_in _ (by have := HNU.out; omega)]; omega
        obtain ⟨ak, ck, rfl⟩ := row_shape5 (HJ.out.own (List.mem_cons_self ..))
        obtain ⟨gs, os, rfl, y0, y1, y2, y3, y4, y5, y6, y7⟩ := (spsAt_own (HJ.out.own (v := .slice as_ T.length cs) (K := T) (by simp)) rfl).off j hjl
        by_cases hold : nn < K.length
        · have hkj : kj6 K F' T j = K := kj6_old (by omega)
          have HK1 := Lib.hid (show kj6 K F' T (j + 1) = K from kj6_old (by omega))
          have hsame : T.getD j M.sp0 = K.getD nn M.sp0 := by rw [hnn]; exact kj6_same (by rw [HTT.out]; exact HT.out.kn.2) (by omega)
          rw [hkj] at HJ ⊢
          obtain ⟨gk, ok, rfl, x0, x1, x2, x3, x4, x5, x6, x7⟩ := (spsAt_own (HJ.out.own (List.mem_cons_self ..)) rfl).off nn hold
          rw [hsame] at y0 y1 y2 y3 y4 y5 y6 y7
          clear hkj hsame hnn
          generalize K.getD nn M.sp0 = x at *
          have f1 : decide ((nn : Int) < (K.length : Int)) = true := by simp; omega
          have f1' : decide (nn < K.length) = true := by simpa using hold
          have f2 : decide ((K.length : Int) < (nn : Int)) = false := by simp; omega
          have f2' : decide (K.length < nn) = false := by simp; omega
          have f3 : ((nn : Int) == (K.length : Int)) = false := by simp; omega
          have hnK : (nn : Int) < (K.length : Int) := by omega
          go_wp2_with fail
          go_region
          go_wp2_with fail
          go_roundw
          case rel => exact ⟨j + 1, hjl, by go_num, Lib.hid (by rw [HK1.out]; exact HJ.out.below ((Below.refl _ _).drew))⟩
          case measure => simp [intOf]; omega
        · have hkl : (kj6 K F' T j).length = nn := by rw [hnn]; have := HNU.out; exact kj6_len this.1 (by omega) hj
          have HK1 := Lib.hid (show kj6 K F' T (j + 1) = kj6 K F' T j ++ [T.getD j M.sp0] from by have := HNU.out; exact kj6_new this.1 (by omega) hjl)
          have HNN := Lib.hid (show nn ≤ 2000 from by have := HNU.out; omega)
          generalize T.getD j M.sp0 = x at *
          generalize kj6 K F' T j = KJ at *
          rw [hkl] at HJ ⊢
          have HKL := Lib.hid hkl
          clear hkl hnn
          have f1 : decide ((nn : Int) < (nn : Int)) = false := by simp
          have f3 : ((nn : Int) == (nn : Int)) = true := by simp
          have HY := Lib.hid (show SpOff x w9 gs (os + j * 8) from ⟨y0, y1, y2, y3, y4, y5, y6, y7⟩)
          have HJD := Lib.hid (show Kept6 w bb d [(.slice ak nn ck, KJ), (.slice (some ⟨gs, os, none⟩) T.length cs, T)] D' G' w9.drew from HJ.out.below ((Below.refl _ _).drew))
          clear HJ
          go_wp2_with fail
          go_region
          go_upto_region 47 with fail
          obtain ⟨w13, hw13⟩ : ∃ y, y = w9.drew := ⟨_, rfl⟩
          have HY2 := Lib.hid (show SpOff x w13 gs (os + j * 8) from by rw [hw13]; exact HY.out)
          rw [← hw13] at HJD ⊢
          clear y0 y1 y2 y3 y4 y5 y6 y7 HY hw13
          obtain ⟨y0, y1, y2, y3, y4, y5, y6, y7⟩ := HY2.out
          have hown := HJD.out.own (List.mem_cons_self ..)
          rw [HKL.out] at hown
          have hwl := HJD.out.bel.size
          go_wp2_with (at_builtin; go_loud (refine wpList_append_own_at _ rfl _ _ 52 rfl w.heap.size 39 i0 z0 8 88 Tryz.underlying52 hi0 hz0 h01 h02 h03 (by decide) (.slice ak nn ck) nn (sps KJ) rfl (hown.alloc _) ⟨w13.heap.size, 0, none⟩ 1 1 (spL x) rfl rfl (sp_new w13 x _) (spL_one x) (by have := HNN.out; unfold maxLen; omega) (by have := HNN.out; omega) (by rw [World.size_alloc]; omega) ?_; intro v4 w4 ho4 hg4 _ h4; have HK4 := Lib.hid (show Kept6 w bb d [(v4, KJ ++ [x]), (.slice (some ⟨gs, os, none⟩) T.length cs, T)] D' G' w4 from Kept6.grow (K := KJ) (HJD.out.below ((Below.refl _ _).alloc (Nat.le_refl _) _)) (by rw [List.length_append, List.length_singleton, sps_append, sps_one, HKL.out]; exact ho4) hg4 (h4.elim .inl fun q => .inr ⟨_, q, Nat.le_refl _⟩)); clear ho4 hg4 h4 hown hwl y0 y1 y2 y3 y4 y5 y6 y7))
          go_roundw
          case rel => exact ⟨j + 1, hjl, by go_num, Lib.hid (by rw [HK1.out]; exact HK4.out)⟩
          case measure => simp [intOf]; omega
      · obtain rfl : j = T.length := by omega
        have e1 : decide ((T.length : Int) < (T.length : Int)) = false := by simp
        go_wp2_with fail
        go_roundw
        case rel => exact ⟨k + 1, bb, D', G', F', Z', kj6 K F' T T.length, hlt, rfl, rfl, by go_num, Lib.hid ⟨HJ.out.tail2, HT.out.lv, by rw [kj6_end (Nat.le_refl _), HTT.out]; exact HT.out.kn.next_, HT.out.room, HT.out.st, HT.out.num⟩⟩
        case measure => simp [intOf]; omega
    · have CU := Lib.hid (show Calls Tryz.prog 30 #[.pointer (some ⟨d, 0, none⟩)] w5 fun e w' => e = .returned (.bool false) ∧ w5 = w' from by
        obtain ⟨X, h⟩ := HKN.out.dk
        have := upX h
        rw [hu] at this
        exact this)
      have CT := Lib.hid (show Calls Tryz.prog 31 #[.pointer (some ⟨d, 0, none⟩)] w5 fun e w' => e = .returned (.int .i64 0) ∧ Kept6 w b d [(.slice au K.length cu, K)] (up6 D') G' w' from by
        have := HKN.out.disk (fun X hd hX hB => startX hd hX hB (by omega))
        rw [start_up hu] at this
        exact this)
      go_wp2_with fail
      with_reducible refine CU.out.mono ?_
      rintro e w6 ⟨rfl, rfl⟩
      clear CU HKN
      go_wp2_with fail
      with_reducible refine CT.out.mono ?_
      rintro e w7 ⟨rfl, hk7⟩
      have HK7 := Lib.hid hk7
      clear hk7 CT
      have CO := Lib.hid (HK7.out.open (by show D'.starts + 1 ≤ _; omega) hl.hz rfl)
      have hsure := sureN_safe hl.hz hl.safe
      rcases open_lv (D := up6 D') hl.hz hl.f0 rfl hl.set (by show D'.L.length = Z'.length + (if Dk.has nD D'.L = true then 1 else 0); rw [nod_of hl.hz hl.len, if_neg (by simp)]; exact hl.len) with ⟨L', e1, e2, e3, -, -⟩ | ⟨D2, e1, -⟩
      rotate_left
      · rw [e1] at CO
        clear e1 HK7 hl hu hkn' hroom' hst' hnu hlo hsure
        go_wp2_with fail
        with_reducible refine CO.out.mono ?_
        rintro e w8 (⟨-, rfl, X, hd, hb, hvr⟩ | ⟨h0, _⟩)
        rotate_left
        · cases h0
        have HB8 := Lib.hid hb
        have HV8 := Lib.hid hvr
        clear hd hb hvr CO
        go_wp2_with fail
        go_loopw [12] (fun q wr => q = .int .i64 50 ∧ wr = w8) (fun _ _ => 0)
        case atStart => exact ⟨rfl, rfl⟩
        case round =>
        obtain ⟨rfl, rfl⟩ := hrel
        go_wp2_with fail
        with_reducible refine (does6 _ HV8.out).mono ?_
        rintro e w9 ⟨rfl, hb⟩
        have HBE := Lib.hid (below_step HB8.out hb)
        clear hb
        go_wp2_with fail
        go_ret
        exact ⟨rfl, HBE.out⟩
      rw [e1] at CO
      have HT0 := Lib.hid (show KeT n (k + 1) K F F' Z' ⟨(up6 D').starts, false, Z'.map smOf⟩ { up6 D' with set := none, L := L' } from ⟨e2, hkn'.to (List.take_prefix _ _) (sureN_safe e2.hz (e3 hl.safe)), hroom', by show D'.starts + 1 ≤ _; omega, hnu, hlo⟩)
      clear e1 e2 e3 HK7 hl hu hkn' hroom' hst' hnu hlo hsure
      go_wp2_with fail
      with_reducible refine CO.out.mono ?_
      rintro e w8 (⟨h0, _⟩ | ⟨-, bb, rfl, hk8'⟩)
      · exact absurd rfl h0
      obtain ⟨D2, hD2⟩ : ∃ y, y = { up6 D' with set := none, L := L' } := ⟨_, rfl⟩
      obtain ⟨G2, hG2⟩ : ∃ y : Lg, y = ⟨(up6 D').starts, false, Z'.map smOf⟩ := ⟨_, rfl⟩
      have HK8 := Lib.hid (show Kept6 w bb d [(.slice au K.length cu, K)] D2 G2 w8 from by rw [hD2, hG2]; exact hk8')
      have HT := Lib.hid (show KeT n (k + 1) K F F' Z' G2 D2 from by rw [hD2, hG2]; exact HT0.out)
      clear hD2 hG2 hk8' HT0 CO
      go_wp2_with fail
      go_loopw [11, 12] (fun pv qv wr => pv = .pointer (some ⟨bb, 0, none⟩) ∧ qv = .int .i64 0 ∧ wr = w8) (fun _ _ _ => 0)
      case atStart => exact ⟨rfl, rfl, rfl⟩
      case round =>
      obtain ⟨rfl, rfl, rfl⟩ := hrel
      obtain ⟨w6, rfl⟩ : ∃ x, x = wr := ⟨_, rfl⟩
      have HK6 := HK8
      clear HK8
      obtain ⟨D', rfl⟩ : ∃ x, x = D2 := ⟨_, rfl⟩
      obtain ⟨G', rfl⟩ : ∃ x, x = G2 := ⟨_, rfl⟩
      have CA := Lib.hid (show Calls Tryz.prog 32 #[.pointer (some ⟨bb, 0, none⟩)] w6 (AllR6 ((flat Z').take (sureN Z' D'.L)) w6) from by
        obtain ⟨X, h⟩ := HK6.out.hg
        exact all6_any h HT.out.lv)
      obtain ⟨T, hT⟩ : ∃ y, y = (flat Z').take (sureN Z' D'.L) := ⟨_, rfl⟩
      rw [← hT] at CA
      have hTl : T.length = sureN Z' D'.L := by rw [hT, List.length_take, cnt_flat]; have := sureN_le Z' D'.L; omega
      have HTT := Lib.hid hT
      clear hT
      go_wp2_with fail
      with_reducible refine CA.out.mono ?_
      rintro e w7 ⟨as_, cs, rfl, hr, hb⟩
      have HK7 := Lib.hid (fun W (hb2 : Below w7.heap.size w7 W) => (HK6.out.add hb hr).below hb2)
      clear hr hb CA HK6
      have hkp := HT.out.kn.1
      have hkl := HT.out.kn.le
      have hsl := sureN_le Z' D'.L
      have hnum := HT.out.num
      have hlo := HT.out.lo
      obtain ⟨su, hsu⟩ : ∃ y, y = F' + sureN Z' D'.L := ⟨_, rfl⟩
      obtain ⟨en, hen⟩ : ∃ y, y = F' + cnt Z' := ⟨_, rfl⟩
      have C1 := Lib.hid (show ∀ W, Below w7.heap.size w7 W → Calls Tryz.prog 23 #[.pointer (some ⟨bb, 0, none⟩)] W fun e w' => e = .returned (.int .i64 (F' : Nat)) ∧ Below W.heap.size W w' from fun W hb => by
        obtain ⟨X, h⟩ := (HK7.out W hb).hg
        have := first6_any h
        rw [HT.out.lv.first] at this
        exact this)
      have C2 := Lib.hid (show ∀ W, Below w7.heap.size w7 W → Calls Tryz.prog 25 #[.pointer (some ⟨bb, 0, none⟩)] W fun e w' => e = .returned (.int .i64 (en : Nat)) ∧ Below W.heap.size W w' from fun W hb => by
        obtain ⟨X, h⟩ := (HK7.out W hb).hg
        have := end6_any h
        rw [HT.out.lv.end_, ← hen] at this
        exact this)
      have C3 := Lib.hid (show ∀ W, Below w7.heap.size w7 W → Calls Tryz.prog 24 #[.pointer (some ⟨bb, 0, none⟩)] W fun e w' => e = .returned (.int .i64 (su : Nat)) ∧ Below W.heap.size W w' from fun W hb => by
        obtain ⟨X, h⟩ := (HK7.out W hb).hg
        have := sure6_any h (srt_of HT.out.lv.gs)
        rw [HT.out.lv.sure, ← hsu] at this
        exact this)
      have t1 : decide ((F' : Int) < (F : Int)) = false := by simp; omega
      have t1' : decide (F' < F) = false := by simp; omega
      have t2 : decide ((su : Int) < (K.length : Int)) = false := by simp; omega
      have t2' : decide (su < K.length) = false := by simp; omega
      have t3 : decide ((en : Int) < (su : Int)) = false := by simp; omega
      have t3' : decide (en < su) = false := by simp; omega
      have HNU := Lib.hid (show F' ≤ K.length ∧ K.length ≤ F' + T.length ∧ T.length ≤ 900 ∧ F' ≤ 900 from ⟨hkp, by omega, by omega, by omega⟩)
      clear hkp hkl hsl hnum hlo hsu hen hTl
      go_wp2_with fail
      with_reducible refine (C1.out _ (Below.refl _ _)).mono ?_
      rintro e w8 ⟨rfl, hb⟩
      have HB := Lib.hid hb
      clear hb
      go_wp2_with fail
      with_reducible refine (C3.out _ HB.out).mono ?_
      rintro e w9 ⟨rfl, hb⟩
      replace HB := Lib.hid (below_step HB.out hb)
      clear hb
      go_wp2_with fail
      with_reducible refine (C2.out _ HB.out).mono ?_
      rintro e w10 ⟨rfl, hb⟩
      replace HB := Lib.hid (below_step HB.out hb)
      clear hb C2
      go_wp2_with fail
      with_reducible refine (C3.out _ HB.out).mono ?_
      rintro e w11 ⟨rfl, hb⟩
      replace HB := Lib.hid (below_step HB.out hb)
      clear hb C3
      go_wp2_with fail
      with_reducible refine (C1.out _ HB.out).mono ?_
      rintro e w12 ⟨rfl, hb⟩
      replace HB := Lib.hid (below_step HB.out hb)
      clear hb C1 t1 t1' t2 t2' t3 t3'
      have HJ0 := Lib.hid (show Kept6 w bb d [(.slice au K.length cu, kj6 K F' T 0), (.slice as_ T.length cs, T)] D' G' w12 from by rw [kj6_zero]; exact (HK7.out _ HB.out).swap)
      clear HB HK7
      go_wp2_with fail
      go_loopw [7, 15] (fun u jv wr => ∃ j : Nat, j ≤ T.length ∧ jv = .int .i64 j ∧ Hid (Kept6 w bb d [(u, kj6 K F' T j), (.slice as_ T.length cs, T)] D' G' wr)) (fun _ jv _ => T.length - (intOf jv).toNat)
      case atStart => exact ⟨0, Nat.zero_le _, rfl, HJ0⟩
      case round =>
      clear HJ0
      obtain ⟨w9, rfl⟩ : ∃ x, x = wr := ⟨_, rfl⟩
      obtain ⟨j, hj, rfl, HJ⟩ := hrel
      by_cases hjl : j < T.length
      · have e1 : decide ((j : Int) < (T.length : Int)) = true := by simp; omega
        have e1' : decide (j < T.length) = true := by simpa using hjl
        have hwj : IntKind.i64.wrap ((j : Int) + 1) = (j : Int) + 1 := IntWalk.i64_in _ (by have := HNU.out; omega)
        obtain ⟨nn, hnn⟩ : ∃ y, y = F' + j := ⟨_, rfl⟩
        have hwn : IntKind.i64.wrap ((F' : Int) + (j : Int)) = (nn : Int) := by rw [IntWalk.i64_in _ (by have := HNU.out; omega)]; omega
        obtain ⟨ak, ck, rfl⟩ := row_shape5 (HJ.out.own (List.mem_cons_self ..))
        obtain ⟨gs, os, rfl, y0, y1, y2, y3, y4, y5, y6, y7⟩ := (spsAt_own (HJ.out.own (v := .slice as_ T.length cs) (K := T) (by simp)) rfl).off j hjl
        by_cases hold : nn < K.length
        · have hkj : kj6 K F' T j = K := kj6_old (by omega)
          have HK1 := Lib.hid (show kj6 K F' T (j + 1) = K from kj6_old (by omega))
          have hsame : T.getD j M.sp0 = K.getD nn M.sp0 := by rw [hnn]; exact kj6_same (by rw [HTT.out]; exact HT.out.kn.2) (by omega)
          rw [hkj] at HJ ⊢
          obtain ⟨gk, ok, rfl, x0, x1, x2, x3, x4, x5, x6, x7⟩ := (spsAt_own (HJ.out.own (List.mem_cons_self ..)) rfl).off nn hold
          rw [hsame] at y0 y1 y2 y3 y4 y5 y6 y7
          clear hkj hsame hnn
          generalize K.getD nn M.sp0 = x at *
          have f1 : decide ((nn : Int) < (K.length : Int)) = true := by simp; omega
          have f1' : decide (nn < K.length) = true := by simpa using hold
          have f2 : decide ((K.length : Int) < (nn : Int)) = false := by simp; omega
          have f2' : decide (K.length < nn) = false := by simp; omega
          have f3 : ((nn : Int) == (K.length : Int)) = false := by simp; omega
          have hnK : (nn : Int) < (K.length : Int) := by omega
          go_wp2_with fail
          go_region
          go_wp2_with fail
          go_roundw
          case rel => exact ⟨j + 1, hjl, by go_num, Lib.hid (by rw [HK1.out]; exact HJ.out.below ((Below.refl _ _).drew))⟩
          case measure => simp [intOf]; omega
        · have hkl : (kj6 K F' T j).length = nn := by rw [hnn]; have := HNU.out; exact kj6_len this.1 (by omega) hj
          have HK1 := Lib.hid (show kj6 K F' T (j + 1) = kj6 K F' T j ++ [T.getD j M.sp0] from by have := HNU.out; exact kj6_new this.1 (by omega) hjl)
          have HNN := Lib.hid (show nn ≤ 2000 from by have := HNU.out; omega)
          generalize T.getD j M.sp0 = x at *
          generalize kj6 K F' T j = KJ at *
          rw [hkl] at HJ ⊢
          have HKL := Lib.hid hkl
          clear hkl hnn
          have f1 : decide ((nn : Int) < (nn : Int)) = false := by simp
          have f3 : ((nn : Int) == (nn : Int)) = true := by simp
          have HY := Lib.hid (show SpOff x w9 gs (os + j * 8) from ⟨y0, y1, y2, y3, y4, y5, y6, y7⟩)
          have HJD := Lib.hid (show Kept6 w bb d [(.slice ak nn ck, KJ), (.slice (some ⟨gs, os, none⟩) T.length cs, T)] D' G' w9.drew from HJ.out.below ((Below.refl _ _).drew))
          clear HJ
          go_wp2_with fail
          go_region
          go_upto_region 47 with fail
          obtain ⟨w13, hw13⟩ : ∃ y, y = w9.drew := ⟨_, rfl⟩
          have HY2 := Lib.hid (show SpOff x w13 gs (os + j * 8) from by rw [hw13]; exact HY.out)
          rw [← hw13] at HJD ⊢
          clear y0 y1 y2 y3 y4 y5 y6 y7 HY hw13
          obtain ⟨y0, y1, y2, y3, y4, y5, y6, y7⟩ := HY2.out
          have hown := HJD.out.own (List.mem_cons_self ..)
          rw [HKL.out] at hown
          have hwl := HJD.out.bel.size
          go_wp2_with (at_builtin; go_loud (refine wpList_append_own_at _ rfl _ _ 52 rfl w.heap.size 39 i0 z0 8 88 Tryz.underlying52 hi0 hz0 h01 h02 h03 (by decide) (.slice ak nn ck) nn (sps KJ) rfl (hown.alloc _) ⟨w13.heap.size, 0, none⟩ 1 1 (spL x) rfl rfl (sp_new w13 x _) (spL_one x) (by have := HNN.out; unfold maxLen; omega) (by have := HNN.out; omega) (by rw [World.size_alloc]; omega) ?_; intro v4 w4 ho4 hg4 _ h4; have HK4 := Lib.hid (show Kept6 w bb d [(v4, KJ ++ [x]), (.slice (some ⟨gs, os, none⟩) T.length cs, T)] D' G' w4 from Kept6.grow (K := KJ) (HJD.out.below ((Below.refl _ _).alloc (Nat.le_refl _) _)) (by rw [List.length_append, List.length_singleton, sps_append, sps_one, HKL.out]; exact ho4) hg4 (h4.elim .inl fun q => .inr ⟨_, q, Nat.le_refl _⟩)); clear ho4 hg4 h4 hown hwl y0 y1 y2 y3 y4 y5 y6 y7))
          go_roundw
          case rel => exact ⟨j + 1, hjl, by go_num, Lib.hid (by rw [HK1.out]; exact HK4.out)⟩
          case measure => simp [intOf]; omega
      · obtain rfl : j = T.length := by omega
        have e1 : decide ((T.length : Int) < (T.length : Int)) = false := by simp
        go_wp2_with fail
        go_roundw
        case rel => exact ⟨k + 1, bb, D', G', F', Z', kj6 K F' T T.length, hlt, rfl, rfl, by go_num, Lib.hid ⟨HJ.out.tail2, HT.out.lv, by rw [kj6_end (Nat.le_refl _), HTT.out]; exact HT.out.kn.next_, HT.out.room, HT.out.st, HT.out.num⟩⟩
        case measure => simp [intOf]; omega
  · obtain rfl : k = L.length := by omega
    have d1 : decide ((L.length : Int) < (L.length : Int)) = false := by simp
    have CD := Lib.hid (does6 w2 HH.out.1.vr)
    go_wp2_with fail
    with_reducible refine CD.out.mono ?_
    rintro e w3 ⟨rfl, hb⟩
    have HBE := Lib.hid (below_step HH.out.1.bel hb)
    clear hb CD
    go_wp2_with fail
    go_ret
    exact ⟨rfl, HBE.out⟩
/-- The law, for any opened arguments. -/
theorem hostlogKeep_calls (w : World) (hv : Vr w) (n : Int) (wn : (Lit.int .u16 n).wf = true) (u : Value) (hu : URas6 w u) : Calls Tryz.prog 5 #[.int .u16 n, u] w fun e w' => e = .returned (.bool true) ∧ Below w.heap.size w w' := by
  obtain ⟨L, ao, cap, rfl, hI, hA⟩ := hu
  have hr : 0 ≤ n ∧ n ≤ 65535 := by
    simp [Lit.wf, IntKind.min, IntKind.max, IntKind.signed, IntKind.bits] at wn
    omega
  exact hostlogKeep_y w hv n hr L ao cap hI hA

end Go.Proofs.YtmammmjmipgmoaaGreatDoor
