/- Layer 5: DiskMany, walked. -/
import Derived.Test.YtekmnpmeienhhaaDiskY
namespace Go.Proofs.Ytekmnpmeienhhaa
set_option linter.unusedVariables false
open Go Go.RowKit Go.Maps

namespace Dk
def nm5 (i : Nat) : List UInt8 := [UInt8.ofNat (i / 256), UInt8.ofNat (i % 256)]
theorem nm5_inj {i j : Nat} (hi : i < 65536) (hj : j < 65536) (h : nm5 i = nm5 j) : i = j := by
  unfold nm5 at h
  injection h with h1 h2
  injection h2 with h2 _
  have e1 := congrArg UInt8.toNat h1
  have e2 := congrArg UInt8.toNat h2
  simp at e1 e2
  omega
/-- So many files were laid. -/
structure Mn5 (i : Nat) (D : St) : Prop where
  room : D.room = 100
  up : D.up = true
  set : D.set = none
  size : size D.L = 0
  len : D.L.length = min i 1024
  has : ∀ j, j < min i 1024 → Dk.has (nm5 j) D.L = true
  no : ∀ j, min i 1024 ≤ j → j < 65536 → Dk.has (nm5 j) D.L = false
  new : Dk.has [110, 101, 119] D.L = false
theorem mn5_new : Mn5 0 (Dk.new 100) := ⟨rfl, rfl, rfl, rfl, rfl, fun j hj => by simp at hj, fun j _ _ => rfl, rfl⟩
theorem struck_none5 {D : St} (h : D.set = none) : struck D = (false, D) := by unfold struck; rw [h]
theorem nm5_named (i : Nat) : named (nm5 i) = true := rfl
theorem nm5_new (i : Nat) : ¬ (nm5 i = [110, 101, 119]) := by unfold nm5; simp
theorem mn5_app {i : Nat} {D : St} (h : Mn5 i D) (hO : OkL D.L) (hi : i < 65536) : (append (nm5 i) [] D).1 = (if i < 1024 then 0 else 50) ∧ Mn5 (i + 1) (append (nm5 i) [] D).2 := by
  have hno := h.no i (by omega) hi
  by_cases hl : i < 1024
  · have hg : get (nm5 i) D.L = fl0 := get_none hno
    have e : append (nm5 i) [] D = (0, { D with L := put ⟨nm5 i, [], 0⟩ D.L }) := by
      unfold append
      rw [if_neg (by rw [h.up]; decide), if_neg (by rw [nm5_named]; decide), if_neg (by rw [h.len, h.size, h.room]; simp; omega), hg]
      unfold struck
      rw [h.set]
      rfl
    have hlen := len_put hO ⟨nm5 i, [], 0⟩
    have hsz := size_put hO ⟨nm5 i, [], 0⟩
    simp only at hlen hsz
    rw [hno, h.len] at hlen
    rw [hg, h.size] at hsz
    rw [e, if_pos hl]
    refine ⟨rfl, h.room, h.up, h.set, ?_, ?_, fun j hj => ?_, fun j hj hj2 => ?_, ?_⟩
    · simp [fl0] at hsz; simpa using hsz
    · simp at hlen; simp only; omega
    · simp only
      rw [has_put]
      by_cases he : j = i
      · subst he; simp
      · rw [h.has j (by omega)]; simp
    · simp only
      rw [has_put, h.no j (by omega) hj2]
      have : ¬ (nm5 i = nm5 j) := fun e => by have := nm5_inj hi hj2 e; omega
      simp [this]
    · simp only
      rw [has_put, h.new]
      simp [nm5_new i]
  · have e : append (nm5 i) [] D = (50, D) := by
      unfold append
      rw [if_neg (by rw [h.up]; decide), if_neg (by rw [nm5_named]; decide), if_pos (.inl ⟨hno, by rw [h.len]; omega⟩)]
    rw [e, if_neg hl]
    have hm : min (i + 1) 1024 = min i 1024 := by omega
    exact ⟨rfl, h.room, h.up, h.set, h.size, by rw [hm]; exact h.len, by rw [hm]; exact h.has, by rw [hm]; exact h.no, h.new⟩
/-- One of them gets a byte, goes, and another is laid. -/
theorem mn5_end {n k : Nat} {D : St} (h : Mn5 n D) (hO : OkL D.L) (hk : k < min n 1024) :
    ∃ E F G, append (nm5 k) [120] D = (0, E) ∧ (OkL E.L → remove (nm5 k) E = (0, F)) ∧ (OkL E.L → OkL F.L → append [110, 101, 119] [] F = (0, G)) ∧ (OkL E.L → OkL F.L → G.L.length = min n 1024 ∧ size G.L = 0) := by
  have hh := h.has k hk
  have hg0 : (get (nm5 k) D.L).dat = [] := by
    have := get_size hO (nm5 k)
    rw [h.size] at this
    exact List.length_eq_zero_iff.1 (by omega)
  let E : St := { D with L := put ⟨nm5 k, [120], (get (nm5 k) D.L).safe⟩ D.L }
  let F : St := { E with L := del (nm5 k) E.L }
  let G : St := { F with L := put ⟨[110, 101, 119], [], 0⟩ F.L }
  have e1 : append (nm5 k) [120] D = (0, E) := by
    unfold append
    rw [if_neg (by rw [h.up]; decide), if_neg (by rw [nm5_named]; decide), if_neg (by rw [h.size, h.room, hh]; simp), hg0]
    show ((if (struck E).1 = true then (51 : Int) else 0), (struck E).2) = _
    rw [struck_none5 (show E.set = none from h.set)]
    rfl
  have hE : has (nm5 k) E.L = true := by show has _ (put _ _) = true; rw [has_put]; simp
  have hnE : has [110, 101, 119] E.L = false := by show has _ (put _ _) = false; rw [has_put, h.new]; simp [nm5_new k]
  have hnF : has [110, 101, 119] F.L = false := by show has _ (del _ _) = false; rw [has_del, hnE]; simp
  have lE : E.L.length = min n 1024 := by
    have := len_put hO ⟨nm5 k, [120], (get (nm5 k) D.L).safe⟩
    simp only at this
    rw [hh, h.len] at this
    simp at this
    exact this
  have sE : size E.L = 1 := by
    have := size_put hO ⟨nm5 k, [120], (get (nm5 k) D.L).safe⟩
    simp only at this
    rw [hg0, h.size] at this
    simpa using this
  have gE : OkL E.L → get (nm5 k) E.L = ⟨nm5 k, [120], (get (nm5 k) D.L).safe⟩ := fun hOE => by
    have := get_put (nm := nm5 k) hOE
    rw [if_pos rfl] at this
    exact this
  have lF : OkL E.L → F.L.length + 1 = min n 1024 := fun hOE => by
    have := len_del (nm := nm5 k) hOE.ne
    rw [hE, lE] at this
    simpa using this
  have sF : OkL E.L → size F.L = 0 := fun hOE => by
    have := size_del (nm := nm5 k) hOE.ne
    rw [gE hOE, sE] at this
    simpa using this
  refine ⟨E, F, G, e1, fun hOE => ?_, fun hOE hOF => ?_, fun hOE hOF => ⟨?_, ?_⟩⟩
  · unfold remove
    rw [if_neg (by show ¬ D.up = false; rw [h.up]; decide), if_neg (by rw [hE]; decide)]
    rw [struck_none5 (show E.set = none from h.set)]
    rfl
  · unfold append
    have hg : get [110, 101, 119] F.L = fl0 := get_none hnF
    rw [if_neg (by show ¬ D.up = false; rw [h.up]; decide), if_neg (by decide), if_neg (by rw [sF hOE, show F.room = 100 from h.room]; have := lF hOE; simp; omega), hg]
    show ((if (struck G).1 = true then (51 : Int) else 0), (struck G).2) = _
    rw [struck_none5 (show G.set = none from h.set)]
    rfl
  · have := len_put hOF ⟨[110, 101, 119], [], 0⟩
    simp only at this
    rw [hnF] at this
    have h2 := lF hOE
    simp at this
    show (put _ _).length = _
    omega
  · have := size_put hOF ⟨[110, 101, 119], [], 0⟩
    simp only at this
    rw [get_none hnF, sF hOE] at this
    simpa [fl0] using this
end Dk
set_option maxRecDepth 100000 in
set_option maxHeartbeats 8000000 in
theorem diskMany_calls (W : World) (over : Int) (hov : (Lit.int .u8 over).wf = true) (which : Int) (hwh : (Lit.int .u16 which).wf = true) : Calls Try.prog 9 #[.int .u8 over, .int .u16 which] W fun e w' => e = .returned (.bool true) ∧ Below W.heap.size W w' := by
  have ho := u8_wf5 hov
  have hw : 0 ≤ which ∧ which ≤ 65535 := by
    simp [Lit.wf, IntKind.min, IntKind.max, IntKind.signed, IntKind.bits] at hwh
    omega
  obtain ⟨n, hn, hn0, hn1⟩ : ∃ n : Nat, (1021 : Int) + over % 6 = (n : Int) ∧ 1021 ≤ n ∧ n ≤ 1026 := ⟨(1021 + over % 6).toNat, by omega, by omega, by omega⟩
  obtain ⟨c, hc⟩ : ∃ c, c = min n 1024 := ⟨_, rfl⟩
  obtain ⟨k, hk, hkc⟩ : ∃ k : Nat, which % (c : Int) = (k : Int) ∧ k < c := by
    have h1 := Int.emod_nonneg which (show (c : Int) ≠ 0 by omega)
    have h2 := Int.emod_lt_of_pos which (show (0 : Int) < (c : Int) by omega)
    exact ⟨(which % (c : Int)).toNat, by omega, by omega⟩
  have CN := Lib.hid (show Calls Try.prog 17 #[.int .i64 100] W (NewXd5 100 W) from newXd5 100 W (by decide) (by decide))
  have CD := Lib.hid does5
  have HMIN := Lib.hid hc
  clear hov hwh hc
  go_enter Try.func9, Try.ntmps9
  go_wp2_with fail
  with_reducible refine CN.out.mono ?_
  rintro e w1 ⟨d, rfl, hd, hb, -⟩
  have H0 := Lib.hid (show ∃ D, DkX (fun _ => False) W.heap.size d D w1 ∧ Dk.Mn5 0 D ∧ Below W.heap.size W w1 from ⟨_, hd, Dk.mn5_new, hb⟩)
  clear hd hb CN
  go_wp2_with fail
  go_loopw [8] (fun v wr => ∃ i : Nat, i ≤ n ∧ v = .int .i64 i ∧ Hid (∃ D, DkX (fun _ => False) W.heap.size d D wr ∧ Dk.Mn5 i D ∧ Below W.heap.size W wr)) (fun v _ => n - (intOf v).toNat)
  case atStart => exact ⟨0, Nat.zero_le _, rfl, H0⟩
  case round =>
    rename_i wr
    obtain ⟨i, hi, rfl, HH⟩ := hrel
    by_cases hlt : i < n
    · have d1 : decide ((i : Int) < (n : Int)) = true := by simp; omega
      have d1' : decide (i < n) = true := by simp; omega
      obtain ⟨D, hD, hM, hB⟩ := HH.out
      have hq := Dk.mn5_app hM hD.ok.l (by omega)
      obtain ⟨qa, hqa⟩ : ∃ x, x = i / 256 := ⟨_, rfl⟩
      obtain ⟨qb, hqb⟩ : ∃ x, x = i % 256 := ⟨_, rfl⟩
      have hnm : Dk.nm5 i = [UInt8.ofNat qa, UInt8.ofNat qb] := by rw [hqa, hqb]; rfl
      have hal := (Below.refl wr.heap.size wr).alloc (Nat.le_refl _) (.cells #[.int .u8 (qa : Int), .int .u8 (qb : Int)] 5)
      have CA := appendX (hD.below hal) (fun q h => h.elim) (Nat.le_trans hB.size hal.size) (Dk.nm5 i) [] (by show 2 ≤ _; decide) (by decide)
      obtain ⟨r, hr⟩ : ∃ r, r = Dk.append (Dk.nm5 i) [] D := ⟨_, rfl⟩
      rw [← hr] at CA hq
      have CA := Lib.hid CA
      have HQ := Lib.hid hq.2
      have hr1 : r.1 = if i < 1024 then 0 else 50 := hq.1
      have HBA := Lib.hid (below_step hB hal)
      rw [hnm] at CA
      have hcv := run_string_two (P := Try.prog) 68 9 5 Try.underlying68 Try.underlying5 Try.underlying9 wr (qa : Int) (qb : Int)
      simp only [Int.toNat_natCast] at hcv
      have e1 : (i : Int) / 256 = (qa : Int) := by omega
      have e2 : (i : Int) % 256 = (qb : Int) := by omega
      have b1 : qa ≤ 255 := by omega
      have b2 : qb ≤ 255 := by omega
      have e3 : IntKind.u8.wrap (qa : Int) = (qa : Int) := by simp [IntKind.wrap, IntKind.bits, IntKind.signed]; omega
      have e4 : IntKind.u8.wrap (qb : Int) = (qb : Int) := by simp [IntKind.wrap, IntKind.bits, IntKind.signed]; omega
      clear hD hM hB hq hal hnm HH H0 hqa hqb
      go_wp2_with fail
      with_reducible refine CA.out.mono ?_
      rintro e w2 ⟨rfl, hd2, hw2⟩
      have HN := Lib.hid (show ∃ D, DkX (fun _ => False) W.heap.size d D w2 ∧ Dk.Mn5 (i + 1) D ∧ Below W.heap.size W w2 from ⟨_, hd2, HQ.out, HBA.out.trans (hw2.below (fun q hq => hq.1) HBA.out.size)⟩)
      clear hd2 hw2 CA HQ HBA hcv e1 e2 e3 e4 b1 b2
      rw [hr1]
      clear hr1 hr
      by_cases h24 : i < 1024
      · have f1 : decide ((i : Int) < (1024 : Int)) = true := by simp; omega
        have f2 : decide (i < 1024) = true := by simp; omega
        rw [if_pos h24]
        go_wp2_with fail
        go_roundw
        case rel => exact ⟨i + 1, by omega, by go_num, HN⟩
        case measure => simp [intOf]; omega
      · have f1 : decide ((i : Int) < (1024 : Int)) = false := by simp; omega
        have f2 : decide (i < 1024) = false := by simp; omega
        rw [if_neg h24]
        go_wp2_with fail
        go_roundw
        case rel => exact ⟨i + 1, by omega, by go_num, HN⟩
        case measure => simp [intOf]; omega
    · have d1 : decide ((i : Int) < (n : Int)) = false := by simp; omega
      have d1' : decide (i < n) = false := by simp; omega
      obtain rfl : i = n := by omega
      obtain ⟨D, hD, hM, hB⟩ := HH.out
      have hk2 : k < min i 1024 := by rw [← HMIN.out]; exact hkc
      obtain ⟨E, F, G, q1, q2, q3, q4⟩ := Dk.mn5_end hM hD.ok.l hk2
      have hlc : (Dk.names D.L).length = c := by rw [HMIN.out, ← hM.len]; simp [Dk.names]
      have emin : min (i : Int) (1024 : Int) = (c : Int) := by have := HMIN.out; omega
      have HD := Lib.hid hD
      have HB := Lib.hid hB
      obtain ⟨qa, hqa⟩ : ∃ x, x = k / 256 := ⟨_, rfl⟩
      obtain ⟨qb, hqb⟩ : ∃ x, x = k % 256 := ⟨_, rfl⟩
      have hnm : Dk.nm5 k = [UInt8.ofNat qa, UInt8.ofNat qb] := by rw [hqa, hqb]; rfl
      have hal := (Below.refl wr.heap.size wr).alloc (Nat.le_refl _) (.cells #[.int .u8 (qa : Int), .int .u8 (qb : Int)] 5)
      have HD1 := Lib.hid (hD.below hal)
      have HB1 := Lib.hid (below_step hB hal)
      have CM := namesX HD1.out
      have Q1 := Lib.hid q1
      have Q2 := Lib.hid q2
      have Q3 := Lib.hid q3
      have Q4 := Lib.hid q4
      have CM := Lib.hid CM
      have hcv := run_string_two (P := Try.prog) 68 9 5 Try.underlying68 Try.underlying5 Try.underlying9 wr (qa : Int) (qb : Int)
      simp only [Int.toNat_natCast] at hcv
      have e1 : (k : Int) / 256 = (qa : Int) := by omega
      have e2 : (k : Int) % 256 = (qb : Int) := by omega
      have hk9 : k < 1024 := by omega
      have b1 : qa ≤ 255 := by omega
      have b2 : qb ≤ 255 := by omega
      have e3 : IntKind.u8.wrap (qa : Int) = (qa : Int) := by simp [IntKind.wrap, IntKind.bits, IntKind.signed]; omega
      have e4 : IntKind.u8.wrap (qb : Int) = (qb : Int) := by simp [IntKind.wrap, IntKind.bits, IntKind.signed]; omega
      have HNM := Lib.hid hnm
      have hc0 : (c : Int) ≠ 0 := by omega
      clear hD hM hB hal hnm HH H0 hqa hqb q1 q2 q3 q4 hk2
      go_wp2_with fail
      with_reducible refine CM.out.mono ?_
      rintro e w2 ⟨no, nc, rfl, -, hb⟩
      have HD2 := Lib.hid (HD1.out.below hb)
      have HB2 := Lib.hid (below_step HB1.out hb)
      have CA := appendX HD2.out (fun q h => h.elim) HB2.out.size (Dk.nm5 k) [120] (by show 2 ≤ _; decide) (by decide)
      rw [Q1.out, HNM.out] at CA
      have CA := Lib.hid CA
      have ecc : ((c : Int) != (c : Int)) = false := by simp
      rw [hlc]
      clear hb CM HD HB HD1 HB1 hcv e1 e2 e3 e4
      go_wp2_with fail
      with_reducible refine CA.out.mono ?_
      rintro e w3 ⟨rfl, hd, hw⟩
      have HD3 := Lib.hid hd
      have HB3 := Lib.hid (HB2.out.trans (hw.below (fun q hq => hq.1) HB2.out.size))
      have HOE := Lib.hid hd.ok.l
      have CA := removeX HD3.out (fun q h => h.elim) HB3.out.size (Dk.nm5 k) (by show 2 ≤ _; decide)
      rw [Q2.out HOE.out, HNM.out] at CA
      have CA := Lib.hid CA
      clear hd hw HD2 HB2
      go_wp2_with fail
      with_reducible refine CA.out.mono ?_
      rintro e w4 ⟨rfl, hd, hw⟩
      have HD4 := Lib.hid hd
      have HB4 := Lib.hid (HB3.out.trans (hw.below (fun q hq => hq.1) HB3.out.size))
      have HOF := Lib.hid hd.ok.l
      have CA := appendX HD4.out (fun q h => h.elim) HB4.out.size [110, 101, 119] [] (by decide) (by decide)
      rw [Q3.out HOE.out HOF.out] at CA
      have CA := Lib.hid CA
      clear hd hw HD3 HB3
      go_wp2_with fail
      with_reducible refine CA.out.mono ?_
      rintro e w5 ⟨rfl, hd, hw⟩
      have HD5 := Lib.hid hd
      have HB5 := Lib.hid (HB4.out.trans (hw.below (fun q hq => hq.1) HB4.out.size))
      have CM := Lib.hid (namesX hd)
      have hlg : (Dk.names G.L).length = c := by rw [HMIN.out, ← (Q4.out HOE.out HOF.out).1]; simp [Dk.names]
      have hzg := (Q4.out HOE.out HOF.out).2
      clear hd hw HD4 HB4 CA
      have ecc2 : ((c : Int) == (c : Int)) = true := by simp
      go_wp2_with fail
      with_reducible refine CM.out.mono ?_
      rintro e w6 ⟨no2, nc2, rfl, -, hb⟩
      have HD6 := Lib.hid (HD5.out.below hb)
      have HB6 := Lib.hid (below_step HB5.out hb)
      have CZ := sizeX HD6.out
      rw [hzg] at CZ
      have CZ := Lib.hid CZ
      rw [hlg]
      clear hb CM
      go_wp2_with fail
      with_reducible refine CZ.out.mono ?_
      rintro e w7 ⟨rfl, rfl⟩
      go_wp2_with fail
      with_reducible refine (CD.out _).mono ?_
      rintro e w8 ⟨rfl, hb⟩
      have HF := Lib.hid (below_step HB6.out hb)
      clear hb
      go_wp2_with fail
      go_ret
      exact ⟨rfl, HF.out⟩

end Go.Proofs.Ytekmnpmeienhhaa
