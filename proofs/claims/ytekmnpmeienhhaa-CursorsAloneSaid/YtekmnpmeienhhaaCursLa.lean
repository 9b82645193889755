/- Layer 13: CursorsAlone, walked. -/
import Derived.Test.YtekmnpmeienhhaaCursQ
import Derived.Test.YtekmnpmeienhhaaCursO
namespace Go.Proofs.Ytekmnpmeienhhaa
set_option linter.unusedVariables false
open Go Go.RowKit Go.Maps

namespace Dk
theorem rename_has {D D' : St} {a b : List UInt8} (h : rename a b D = (0, D')) (hn : a ≠ b) : has b D'.L = true ∧ has a D'.L = false := by
  unfold rename at h
  split at h
  · cases h
  · split at h
    · cases h
    · split at h
      · cases h
      · dsimp only at h
        split at h
        · cases h
        · cases h
          unfold ren
          simp only [if_neg hn]
          rw [has_put, has_put, has_del, has_del]
          simp only [decide_true, Bool.true_or, Bool.not_true, Bool.false_and, Bool.or_false, true_and]
          simpa using fun e => hn e.symm
theorem run_three {f g h : St → Int × St} {D D' : St} (e : run [f, g, h] D = (0, D')) : ∃ D3, h D3 = (0, D') := by
  have e1 : next_ (f D) (run [g, h]) = (0, D') := e
  by_cases h1 : (f D).1 = 0
  · rw [next_ok h1] at e1
    have e2 : next_ (g (f D).2) (run [h]) = (0, D') := e1
    by_cases h2 : (g (f D).2).1 = 0
    · rw [next_ok h2] at e2
      exact ⟨(g (f D).2).2, by rw [← e2]; exact (run_snoc [] _ _).symm⟩
    · rw [next_no h2] at e2
      exact absurd (by rw [e2]) h2
  · rw [next_no h1] at e1
    exact absurd (by rw [e1]) h1
end Dk
namespace Cu
theorem save_has {D D' : Dk.St} {c : C} (h : save c D = (0, D')) : Dk.has nC D'.L = true ∧ Dk.has nD D'.L = false := by
  unfold save at h
  split at h
  · cases h
  · split at h
    · cases h
    · have e : Dk.next_ (Dk.clear nD D) (Dk.lay nD nC (enc c)) = (0, D') := h
      by_cases h1 : (Dk.clear nD D).1 = 0
      · rw [Dk.next_ok h1] at e
        obtain ⟨D3, h3⟩ := Dk.run_three e
        exact Dk.rename_has h3 nDC
      · rw [Dk.next_no h1] at e
        exact absurd (by rw [e]) h1
/-- What CursorsAlone keeps. -/
structure Al (E L : List Dk.Fl) (saved : Bool) : Prop where
  q : ∃ c, Q E L c
  nd : Dk.has nD L = false
  nc : Dk.has nC L = saved
theorem Al.save {E L : List Dk.Fl} {saved : Bool} (h : Al E L saved) (hl : E.length ≤ 1000) (hz : Dk.size E ≤ 900) (c : C) :
    (may c = true ∧ ∃ L', save c ⟨1000, 0, true, none, L⟩ = (0, ⟨1000, 0, true, none, L'⟩) ∧ Al E L' true) ∨ (may c = false ∧ save c ⟨1000, 0, true, none, L⟩ = (2, ⟨1000, 0, true, none, L⟩)) := by
  cases hm : may c with
  | false => exact .inr ⟨rfl, save_no rfl hm⟩
  | true =>
    obtain ⟨c0, hq⟩ := h.q
    rcases save_two (D := ⟨1000, 0, true, none, L⟩) hq rfl (.inl rfl) hl (by show Dk.size E + 22 ≤ 1000; omega) hm with ⟨s, L', h1, h2, h3⟩ | ⟨h1, _⟩
    · rw [h3 rfl] at h1
      have h4 := save_has h1
      exact .inl ⟨rfl, L', h1, ⟨c, h2⟩, h4.2, h4.1⟩
    · exact absurd rfl h1
theorem Al.len {E L : List Dk.Fl} {saved : Bool} (h : Al E L saved) : L.length = E.length + (if saved then 1 else 0) := by
  obtain ⟨c, hq⟩ := h.q
  have h1 := Dk.len_del (nm := nC) hq.ok.ne
  have h2 := Dk.len_del (nm := nD) (hq.ok.del nC).ne
  rw [hq.oth] at h2
  rw [Dk.has_del, h.nd] at h2
  rw [h.nc] at h1
  simp only [Bool.and_false, Bool.false_eq_true, if_false] at h2
  omega
theorem Al.get {E L : List Dk.Fl} {saved : Bool} (h : Al E L saved) {nm : List UInt8} (h1 : nm ≠ nC) (h2 : nm ≠ nD) : Dk.has nm L = Dk.has nm E ∧ Dk.get nm L = Dk.get nm E := by
  obtain ⟨c, hq⟩ := h.q
  rw [← hq.oth]
  refine ⟨?_, ?_⟩
  · rw [Dk.has_del, Dk.has_del]
    simp [h1, h2]
  · rw [Dk.get_del13 (fun e => h2 e.symm), Dk.get_del13 (fun e => h1 e.symm)]
def alE (nm dt : List UInt8) : List Dk.Fl := if Dk.named nm then [⟨nm, dt, 0⟩] else []
theorem al_app {nm dt : List UInt8} (hd : dt.length ≤ 300) : Dk.append nm dt (Dk.new 1000) = (if Dk.named nm then 0 else 2, ⟨1000, 0, true, none, alE nm dt⟩) := by
  unfold Dk.append alE
  cases hn : Dk.named nm with
  | false => rfl
  | true =>
    rw [if_neg (by decide), if_neg (by simp), if_neg (by
      rintro (⟨_, h⟩ | h)
      · cases h
      · have : 1000 < 0 + dt.length := h
        omega)]
    rfl
theorem al_start {nm dt : List UInt8} (h1 : nm ≠ nC) (h2 : nm ≠ nD) (hd : dt.length ≤ 300) : Al (alE nm dt) (alE nm dt) false ∧ (alE nm dt).length ≤ 1000 ∧ Dk.size (alE nm dt) ≤ 900 := by
  unfold alE
  cases hn : Dk.named nm with
  | false =>
    simp only [Bool.false_eq_true, if_false]
    exact ⟨⟨⟨c0, q_new 0⟩, rfl, rfl⟩, Nat.zero_le _, Nat.zero_le _⟩
  | true =>
    simp only [if_true]
    have e1 : (nm == nC) = false := by simpa using h1
    have e2 : (nm == nD) = false := by simpa using h2
    have k1 : Dk.has nC [⟨nm, dt, 0⟩] = false := by unfold Dk.has; simp only [List.any_cons, e1, List.any_nil, Bool.or_false]
    have k2 : Dk.has nD [⟨nm, dt, 0⟩] = false := by unfold Dk.has; simp only [List.any_cons, e2, List.any_nil, Bool.or_false]
    refine ⟨⟨⟨c0, ⟨⟨List.pairwise_singleton _ _, fun f hf => ?_, fun f hf => ?_⟩, ?_, .inr ⟨k1, rfl⟩, ?_⟩⟩, k2, k1⟩, by simp, ?_⟩
    · rw [List.mem_singleton.1 hf]; exact hn
    · rw [List.mem_singleton.1 hf]; exact Nat.zero_le _
    · rw [Dk.del_none k1, Dk.del_none k2]
    · rw [Dk.get_none k2]; exact Nat.zero_le _
    · show dt.length + 0 ≤ 900; omega
end Cu
section
variable {W w w' : World} {bs : List (Nat × Array Value × TypeId)} {B d : Nat} {D : Dk.St}
theorem DB.read (h : DB W bs B d D w) (nm : List UInt8) (hl : nm.length ≤ 140737488351232) : Calls Try.prog 26 #[.pointer (some ⟨d, 0, none⟩), .string (S nm)] w fun e w' => e = .returned (.tuple #[.string (S (Dk.read nm D).2), .int .i64 (Dk.read nm D).1]) ∧ DB W bs B d D w' :=
  (readX h.dk nm hl).mono fun e w' ho => ⟨ho.1, h.below ho.2⟩
theorem DB.synced (h : DB W bs B d D w) (nm : List UInt8) (hl : nm.length ≤ 140737488351232) : Calls Try.prog 23 #[.pointer (some ⟨d, 0, none⟩), .string (S nm)] w fun e w' => e = .returned (.int .i64 (Dk.get nm D.L).safe) ∧ w = w' := syncedX h.dk nm hl
end
set_option maxRecDepth 100000 in
set_option maxHeartbeats 16000000 in
theorem cursorsAlone_calls (W : World) (nm : List UInt8) (hnl : nm.length ≤ 140737488351232) (dt : List UInt8) (hdl : dt.length ≤ 140737488351232) (u : Value) (hu : UCus W u) : Calls Try.prog 15 #[.string (S nm), .string (S dt), u] W fun e w' => e = .returned (.bool true) ∧ Below W.heap.size W w' := by
  obtain ⟨L, lo, lc, rfl, hLI, hLA⟩ := hu
  have hln := hLI.n
  have CD := Lib.hid (fun w => does13 w)
  have HLA := Lib.hid hLA
  clear hLI hLA
  by_cases hg : 100 < nm.length ∨ 300 < dt.length ∨ 30 < L.length ∨ nm = Cu.nC ∨ nm = Cu.nD
  · have CDW := Lib.hid (CD.out W)
    have FIN := Lib.hid (fun (e : Ending) (w' : World) (h : e = .returned (.bool true) ∧ Below W.heap.size W w') => h)
    by_cases h1 : 100 < nm.length
    · have d1 : decide ((100 : Int) < (nm.length : Int)) = true := by simp; omega
      clear hg
      go_enter Try.func15, Try.ntmps15
      go_wp2_with fail
      with_reducible refine CDW.out.mono ?_
      rintro e w1 ⟨rfl, hb⟩
      have HB := Lib.hid hb
      clear hb
      go_wp2_with fail
      go_ret
      exact ⟨rfl, HB.out⟩
    have d1 : decide ((100 : Int) < (nm.length : Int)) = false := by simp; omega
    by_cases h2 : 300 < dt.length
    · have d2 : decide ((300 : Int) < (dt.length : Int)) = true := by simp; omega
      clear hg
      go_enter Try.func15, Try.ntmps15
      go_wp2_with fail
      with_reducible refine CDW.out.mono ?_
      rintro e w1 ⟨rfl, hb⟩
      have HB := Lib.hid hb
      clear hb
      go_wp2_with fail
      go_ret
      exact ⟨rfl, HB.out⟩
    have d2 : decide ((300 : Int) < (dt.length : Int)) = false := by simp; omega
    by_cases h3 : 30 < L.length
    · have d3 : decide ((30 : Int) < (L.length : Int)) = true := by simp; omega
      clear hg
      go_enter Try.func15, Try.ntmps15
      go_wp2_with fail
      with_reducible refine CDW.out.mono ?_
      rintro e w1 ⟨rfl, hb⟩
      have HB := Lib.hid hb
      clear hb
      go_wp2_with fail
      go_ret
      exact ⟨rfl, HB.out⟩
    have d3 : decide ((30 : Int) < (L.length : Int)) = false := by simp; omega
    have h4 : nm = Cu.nC ∨ nm = Cu.nD := by
      rcases hg with q | q | q | q
      · exact absurd q h1
      · exact absurd q h2
      · exact absurd q h3
      · exact q
    clear hg h1 h2 h3
    rcases h4 with rfl | rfl
    · go_enter Try.func15, Try.ntmps15
      go_wp2_with fail
      with_reducible refine CDW.out.mono ?_
      rintro e w1 ⟨rfl, hb⟩
      have HB := Lib.hid hb
      clear hb
      go_wp2_with fail
      go_ret
      exact ⟨rfl, HB.out⟩
    · go_enter Try.func15, Try.ntmps15
      go_wp2_with fail
      with_reducible refine CDW.out.mono ?_
      rintro e w1 ⟨rfl, hb⟩
      have HB := Lib.hid hb
      clear hb
      go_wp2_with fail
      go_ret
      exact ⟨rfl, HB.out⟩
  · have hn1 : nm ≠ Cu.nC := fun e => hg (.inr (.inr (.inr (.inl e))))
    have hn2 : nm ≠ Cu.nD := fun e => hg (.inr (.inr (.inr (.inr e))))
    have d1 : decide ((100 : Int) < (nm.length : Int)) = false := by simp; omega
    have d2 : decide ((300 : Int) < (dt.length : Int)) = false := by simp; omega
    have d3 : decide ((30 : Int) < (L.length : Int)) = false := by simp; omega
    have e1 : (nm == [99, 117, 114, 115, 111, 114]) = false := by simpa using hn1
    have e2 : (nm == [99, 117, 114, 115, 111, 114, 43]) = false := by simpa using hn2
    have hd3 : dt.length ≤ 300 := by omega
    have HAPP := Lib.hid (Cu.al_app (nm := nm) hd3)
    have HST := Lib.hid (Cu.al_start (nm := nm) hn1 hn2 hd3)
    have HN1 := Lib.hid hn1
    have HN2 := Lib.hid hn2
    have hl30 : L.length ≤ 30 := by omega
    clear hg hn1 hn2 hd3
    have CN := Lib.hid (show Calls Try.prog 17 #[.int .i64 1000] W _ from newDB 1000 W (by decide) (by decide) (W := W) (Below.refl _ _))
    go_enter Try.func15, Try.ntmps15
    go_wp2_with fail
    with_reducible refine CN.out.mono ?_
    rintro e w1 ⟨d, rfl, hd, -⟩
    have HD := Lib.hid hd
    clear hd CN
    have HDL := Lib.hid (show dt.length ≤ 140737488351232 ∧ nm.length ≤ 140737488351232 from ⟨hdl, hnl⟩)
    have CA := Lib.hid (HD.out.append nm dt hnl hdl)
    rw [HAPP.out] at CA
    have HFE := Lib.hid (show ((if Dk.named nm then (0 : Int) else 2) = 0 ∧ Cu.alE nm dt = [⟨nm, dt, 0⟩]) ∨ ((if Dk.named nm then (0 : Int) else 2) = 2 ∧ Cu.alE nm dt = []) from by
      unfold Cu.alE
      cases Dk.named nm
      · exact .inr ⟨rfl, rfl⟩
      · exact .inl ⟨rfl, rfl⟩)
    clear hnl hdl HAPP HD
    generalize (if Dk.named nm then (0 : Int) else 2) = fe at *
    generalize Cu.alE nm dt = E at *
    obtain ⟨hA0, hE1, hE2⟩ := HST.out
    have HA0 := Lib.hid hA0
    have HE := Lib.hid (show E.length ≤ 1000 ∧ Dk.size E ≤ 900 from ⟨hE1, hE2⟩)
    clear hA0 hE1 hE2 HST
    go_wp2_with fail
    with_reducible refine CA.out.mono ?_
    rintro e w2 ⟨rfl, hd⟩
    have H0 := Lib.hid (show ∃ L', Cu.Al E L' (decide ((0 : Nat) = 1)) ∧ DB W [] W.heap.size d ⟨1000, 0, true, none, L'⟩ w2 from ⟨E, HA0.out, hd⟩)
    clear hd CA HA0
    go_wp2_with fail
    go_loopw [10, 11] (fun sv v wr => ∃ (i m : Nat), i ≤ L.length ∧ v = .int .i64 i ∧ sv = .int .i64 m ∧ m ≤ 1 ∧ Hid (∃ L', Cu.Al E L' (decide (m = 1)) ∧ DB W [] W.heap.size d ⟨1000, 0, true, none, L'⟩ wr)) (fun _ v _ => L.length - (intOf v).toNat)
    case atStart => exact ⟨0, 0, Nat.zero_le _, rfl, rfl, Nat.zero_le _, H0⟩
    case round =>
      clear H0
      obtain ⟨w3, rfl⟩ : ∃ x, x = wr := ⟨_, rfl⟩
      obtain ⟨i, m, hi, rfl, rfl, hm, HH⟩ := hrel
      obtain ⟨L1, hA1, hD1⟩ := HH.out
      have HA1 := Lib.hid hA1
      have HD := Lib.hid hD1
      clear HH hA1 hD1
      by_cases hlt : i < L.length
      · have dl : decide (i < L.length) = true := by simpa using hlt
        have hne : L ≠ [] := fun e => by rw [e] at hlt; simp at hlt
        obtain ⟨g, off, rfl, hcell⟩ := HLA.out hne
        obtain ⟨k0, k1⟩ := hcell i hlt
        have c0 : w3.cell? ⟨g, off + i * 2, none⟩ = some (.int .i64 (L.getD i Cu.c0).next) := (HD.out.bel.cell (p := ⟨g, off + i * 2, none⟩) (cell_lt5 k0)).trans k0
        have c1 : w3.cell? ⟨g, off + i * 2 + 1, none⟩ = some (.int .i64 (L.getD i Cu.c0).gap) := (HD.out.bel.cell (p := ⟨g, off + i * 2 + 1, none⟩) (cell_lt5 k1)).trans k1
        have CS := Lib.hid (HD.out.save (L.getD i Cu.c0))
        have HSV := Lib.hid (HA1.out.save HE.out.1 HE.out.2 (L.getD i Cu.c0))
        have hi1 : (0 : Int) ≤ (i : Int) := by omega
        have hi2 : (i : Int) < (L.length : Int) := by omega
        clear hcell k0 k1 hne HD
        generalize L.getD i Cu.c0 = cu at *
        obtain ⟨a, b⟩ := cu
        simp only at c0 c1 CS
        go_wp2_with fail
        with_reducible refine CS.out.mono ?_
        rintro e w4 ⟨rfl, hd⟩
        rcases HSV.out with ⟨_, L2, e2, hA2⟩ | ⟨_, e2⟩
        · rw [e2] at hd ⊢
          have H2 := Lib.hid (show ∃ L', Cu.Al E L' (decide ((1 : Nat) = 1)) ∧ DB W [] W.heap.size d ⟨1000, 0, true, none, L'⟩ w4 from ⟨L2, hA2, hd⟩)
          clear hd hA2 e2 CS HSV HA1 c0 c1
          go_wp2_with fail
          go_roundw
          case rel => exact ⟨i + 1, 1, by omega, by go_num, by go_num, Nat.le_refl _, H2⟩
          case measure => simp [intOf]; omega
        · rw [e2] at hd ⊢
          have H2 := Lib.hid (show ∃ L', Cu.Al E L' (decide (m = 1)) ∧ DB W [] W.heap.size d ⟨1000, 0, true, none, L'⟩ w4 from ⟨L1, HA1.out, hd⟩)
          clear hd e2 CS HSV HA1 c0 c1
          go_wp2_with fail
          go_roundw
          case rel => exact ⟨i + 1, m, by omega, by go_num, rfl, hm, H2⟩
          case measure => simp [intOf]; omega
      · have dl : decide (i < L.length) = false := by simpa using hlt
        have hlen := HA1.out.len
        have HGET := Lib.hid (HA1.out.get HN1.out HN2.out)
        have hsv : (if decide (m = 1) = true then 1 else 0) = m := by
          rcases (show m = 0 ∨ m = 1 by omega) with rfl | rfl <;> rfl
        rw [hsv] at hlen
        clear hsv HA1 HN1 HN2 HLA HE
        rcases HFE.out with ⟨rfl, hE⟩ | ⟨rfl, hE⟩
        · rw [hE] at hlen HGET
          have HRD := Lib.hid (show Dk.read nm ⟨1000, 0, true, none, L1⟩ = (0, dt) from by
            unfold Dk.read
            rw [if_neg (by simp)]
            simp only
            rw [HGET.out.1, HGET.out.2]
            have hh : Dk.has nm [⟨nm, dt, 0⟩] = true := by unfold Dk.has; simp
            have hg : Dk.get nm [⟨nm, dt, 0⟩] = ⟨nm, dt, 0⟩ := by unfold Dk.get; simp
            rw [if_neg (by rw [hh]; simp), hg])
          have HSY := Lib.hid (show (Dk.get nm (⟨1000, 0, true, none, L1⟩ : Dk.St).L).safe = 0 from by
            show (Dk.get nm L1).safe = 0
            rw [HGET.out.2]
            have hg : Dk.get nm [⟨nm, dt, 0⟩] = ⟨nm, dt, 0⟩ := by unfold Dk.get; simp
            rw [hg])
          have CR := Lib.hid (HD.out.read nm HDL.out.2)
          rw [HRD.out] at CR
          obtain ⟨n9, hn9⟩ : ∃ x : Nat, x = L1.length := ⟨_, rfl⟩
          have HN9 := Lib.hid hn9
          have dn : ((n9 : Int) == 1 + (m : Int)) = true := by simp at hlen ⊢; omega
          have ew : IntKind.i64.wrap (1 + (m : Int)) = 1 + (m : Int) := IntWalk.i64_in _ (by omega)
          clear hE hlen HGET HRD hn9 HFE
          go_wp2_with fail
          with_reducible refine CR.out.mono ?_
          rintro e w4 ⟨rfl, hd⟩
          replace HD := Lib.hid hd
          clear hd CR
          have CY := Lib.hid (HD.out.synced nm HDL.out.2)
          rw [HSY.out] at CY
          have dd : (dt == dt) = true := by simp
          go_wp2_with fail
          with_reducible refine CY.out.mono ?_
          rintro e w5 ⟨rfl, rfl⟩
          clear CY
          have CN := Lib.hid HD.out.names
          have e9 : (⟨1000, 0, true, none, L1⟩ : Dk.St).L.length = n9 := HN9.out.symm
          rw [e9] at CN
          clear e9
          go_wp2_with fail
          with_reducible refine CN.out.mono ?_
          rintro e w6 ⟨ao, ac, rfl, -, hd, -⟩
          replace HD := Lib.hid hd
          clear hd CN
          go_wp2_with fail
          with_reducible refine (CD.out _).mono ?_
          rintro e w7 ⟨rfl, hb⟩
          have HB := Lib.hid (below_step HD.out.bel hb)
          clear hb CD
          go_wp2_with fail
          go_ret
          exact ⟨rfl, HB.out⟩
        · rw [hE] at hlen
          have e9 : (⟨1000, 0, true, none, L1⟩ : Dk.St).L.length = m := by show L1.length = m; rw [hlen]; simp
          have CN := Lib.hid HD.out.names
          rw [e9] at CN
          clear hE hlen HGET HFE e9
          have dm : ((m : Int) == (m : Int)) = true := by simp
          go_wp2_with fail
          with_reducible refine CN.out.mono ?_
          rintro e w6 ⟨ao, ac, rfl, -, hd, -⟩
          replace HD := Lib.hid hd
          clear hd CN
          go_wp2_with fail
          with_reducible refine (CD.out _).mono ?_
          rintro e w7 ⟨rfl, hb⟩
          have HB := Lib.hid (below_step HD.out.bel hb)
          clear hb CD
          go_wp2_with fail
          go_ret
          exact ⟨rfl, HB.out⟩

end Go.Proofs.Ytekmnpmeienhhaa
