/- Layer 5: the document's disk: Rename. -/
import Derived.Test.YtekmnpmeienhhaaDkrI
namespace Go.Proofs.Ytekmnpmeienhhaa
set_option linter.unusedVariables false
open Go Go.RowKit Go.Maps

section
variable {B r : Nat} {c : Rc} {D : Dk.St} {w w' : World}
/-- Two calls one behind the other. -/
def St5 (r : Nat) (c : Rc) (w : World) (c' : Rc) (w' : World) : Prop := (∀ b, Fr r c' b → Fr r c b ∨ w.heap.size ≤ b) ∧ Wr (Fr r c) w w'
theorem St5.refl (r : Nat) (c : Rc) (w : World) : St5 r c w c w := ⟨fun b hb => .inl hb, Wr.refl _ _⟩
theorem St5.trans {r : Nat} {c c1 c2 : Rc} {w w1 w2 : World} (h : St5 r c w c1 w1) (k : St5 r c1 w1 c2 w2) : St5 r c w c2 w2 :=
  ⟨fun b hb => by
    rcases k.1 b hb with q | q
    · exact h.1 b q
    · exact .inr (Nat.le_trans h.2.size q), h.2.step k.2 (fun x hx => h.1 x hx)⟩
theorem St5.below {r : Nat} {c c1 : Rc} {w w1 w2 : World} (h : St5 r c w c1 w1) (hb : Below w1.heap.size w1 w2) : St5 r c w c1 w2 := ⟨h.1, h.2.trans (wr_below hb)⟩
theorem bk_op5 {C : Array Value} {T : TypeId} {fb : Nat} {v : Value} {D' : Dk.St} {e : Ending} {c' : Rc} (hb : Bk C T w fb) (hI : RfIn B r c D w) (hne : ¬ Fr r c fb) (h : Wr (Fr r c) w w') : Bk C T w' fb := hb.wr h hne
set_option maxRecDepth 100000 in
set_option maxHeartbeats 8000000 in
theorem rRename5 (h : RfIn B r c D w) (hB : B ≤ w.heap.size) (a b : List UInt8) (hlb : b.length ≤ 140737488351232) (hn : ∀ p, D.set = some p → (p.1 : Int) ≤ 9223372036854775807) (hks : ∀ p, D.set = some p → Dk.KsOk p.2) :
    Calls Try.prog 59 #[.pointer (some ⟨r, 0, none⟩), .string (S a), .string (S b)] w (OpI B r c (.int .i64 (Dk.rename a b D).1) (Dk.rename a b D).2 w) := by
  have CA := Lib.hid (rAsks5 h a)
  have CC := Lib.hid (fun hu => rChanges5 h hu hn hks)
  have CB := Lib.hid (rBad5 b hlb w)
  have HI := Lib.hid h
  have hfew := h.few
  clear h hn hks
  go_enter Try.func59, Try.ntmps59
  go_wp2_with fail
  with_reducible refine CA.out.mono ?_
  rintro e w1 ⟨⟨hu, rfl⟩ | ⟨hu, hh, rfl⟩ | ⟨k, hk, hu, he, rfl⟩, rfl⟩
  · have HQ := Lib.hid (show OpI B r c (.int .i64 (Dk.rename a b D).1) (Dk.rename a b D).2 w (.returned (.int .i64 51)) w from by
      rw [show Dk.rename a b D = (51, D) from by unfold Dk.rename; rw [if_pos hu]]; exact OpI.same HI.out)
    go_wp2_with fail
    go_ret
    exact HQ.out
  · have HQ := Lib.hid (show OpI B r c (.int .i64 (Dk.rename a b D).1) (Dk.rename a b D).2 w (.returned (.int .i64 4)) w from by
      rw [show Dk.rename a b D = (4, D) from by unfold Dk.rename; rw [if_neg (by rw [hu]; decide), if_pos hh]]; exact OpI.same HI.out)
    go_wp2_with fail
    go_ret
    exact HQ.out
  · obtain ⟨q1, q2⟩ := get_at5 HI.out.ok hk he
    have HHE := Lib.hid he
    have HG := Lib.hid (show Dk.get a D.L = D.L[k] ∧ Dk.has a D.L = true from ⟨q1, q2⟩)
    clear he q1 q2
    cases hnb : Dk.named b with
    | false =>
      have HQ := Lib.hid (show OpI B r c (.int .i64 (Dk.rename a b D).1) (Dk.rename a b D).2 w (.returned (.int .i64 2)) w from by
        rw [show Dk.rename a b D = (2, D) from by unfold Dk.rename; rw [if_neg (by rw [hu]; decide), if_neg (by rw [HG.out.2]; decide), if_pos hnb]]; exact OpI.same HI.out)
      rw [hnb] at CB
      replace CB := Lib.hid (show Calls Try.prog 83 #[.string (S b)] w fun e w' => e = .returned (.bool true) ∧ w = w' from CB.out)
      go_wp2_with fail
      with_reducible refine CB.out.mono ?_
      rintro e w2 ⟨rfl, rfl⟩
      go_wp2_with fail
      go_ret
      exact HQ.out
    | true =>
      rw [hnb] at CB
      replace CB := Lib.hid (show Calls Try.prog 83 #[.string (S b)] w fun e w' => e = .returned (.bool false) ∧ w = w' from CB.out)
      have HD := Lib.hid (show Dk.rename a b D = if (Dk.struck D).1 = true then (51, (Dk.struck D).2) else (0, { (Dk.struck D).2 with L := Dk.ren a b D.L }) from by
        unfold Dk.rename; rw [if_neg (by rw [hu]; decide), if_neg (by rw [HG.out.2]; decide), if_neg (by rw [hnb]; decide)] <;> rfl)
      replace CC := Lib.hid (CC.out hu)
      go_wp2_with fail
      with_reducible refine CB.out.mono ?_
      rintro e w2 ⟨rfl, rfl⟩
      go_wp2_with fail
      with_reducible refine CC.out.mono ?_
      rintro e w2 ho
      have HO := Lib.hid ho
      obtain ⟨rfl, c2, hI2, hF2, hW2⟩ := ho
      cases hst : (Dk.struck D).1 with
      | true =>
        have hch : Dk.chg D = 51 := by unfold Dk.chg; rw [hst]; rfl
        rw [hch]
        have HQ := Lib.hid (show OpI B r c (.int .i64 (Dk.rename a b D).1) (Dk.rename a b D).2 w (.returned (.int .i64 51)) w2 from by
          rw [HD.out, if_pos hst]; have := HO.out; exact ⟨rfl, this.2⟩)
        clear hI2 hF2 hW2 hch
        go_wp2_with fail
        go_ret
        exact HQ.out
      | false =>
        have hch : Dk.chg D = 0 := by unfold Dk.chg; rw [hst]; rfl
        rw [hch]
        have hL := struck_L5 hst
        obtain ⟨D1, hD1⟩ : ∃ x, x = (Dk.struck D).2 := ⟨_, rfl⟩
        rw [← hD1] at hI2 hL HD
        have HF2 := Lib.hid hF2
        have HW2 := Lib.hid hW2
        have HI2 := Lib.hid hI2
        have HL := Lib.hid hL
        have hk1 : k < D1.L.length := by rw [hL]; exact hk
        have hget : D1.L[k] = D.L[k] := by simp only [hL]
        obtain ⟨g, hg, y0, y1, y2⟩ := row_file5 hI2.row rfl hk1
        rw [hget] at y0 y1 y2
        have HGE := Lib.hid hget
        have x4 : w2.cell? ⟨r, 4, none⟩ = some (.slice c2.a D1.L.length c2.c) := hI2.box.cell 4
        rw [hg] at x4
        have hfew1 : D1.L.length ≤ 1024 := hI2.few
        have hi1 : (0 : Int) ≤ (k : Int) := by omega
        have hi2 : (k : Int) < (D1.L.length : Int) := by omega
        have HFL := Lib.hid (show (D.L[k]).safe ≤ (D.L[k]).dat.length ∧ (D.L[k]).dat.length ≤ Dk.size D.L from ⟨HI.out.ok.safe _ (List.getElem_mem hk), Dk.mem_size HI.out.ok (List.getElem_mem hk)⟩)
        have HREN := Lib.hid (show Dk.ren a b D.L = Dk.put ⟨b, (D.L[k]).dat, (D.L[k]).safe⟩ (Dk.del a D.L) from by rw [Dk.ren_eq5 HI.out.ok HG.out.2, HG.out.1])
        have HNK := Lib.hid (show (D1.L[k]).name = a from by rw [HGE.out]; exact HHE.out)
        clear hI2 hF2 hW2 hL hget hg hD1 hch
        obtain ⟨fl, hfl⟩ : ∃ x, x = D.L[k] := ⟨_, rfl⟩
        rw [← hfl] at y0 y1 y2 HFL HREN
        have HFE0 := Lib.hid hfl
        clear hfl
        obtain ⟨fnm, dt, sf⟩ := fl
        simp only at y0 y1 y2 HFL HREN
        have HFE := Lib.hid (show (⟨fnm, dt, sf⟩ : Dk.Fl) = D.L[k] from HFE0.out)
        have HS2 := Lib.hid (show St5 r c w c2 w2 from ⟨HF2.out, HW2.out⟩)
        obtain ⟨fb, hfb⟩ : ∃ x, x = w2.heap.size := ⟨_, rfl⟩
        obtain ⟨w3, hw3⟩ : ∃ x, x = w2.alloc (.cells #[.string (S b), .string (S dt), .int .i64 sf] 95) := ⟨_, rfl⟩
        have HB3 := Lib.hid (show Below w2.heap.size w2 w3 from by rw [hw3]; exact (Below.refl w2.heap.size w2).alloc (Nat.le_refl _) _)
        have HX3 := Lib.hid (show Bk #[.string (S b), .string (S dt), .int .i64 sf] 95 w3 fb from by rw [hw3, hfb]; exact bk_new _ _ _)
        have HI3 := Lib.hid (HI2.out.below HB3.out)
        have HS3 := Lib.hid (HS2.out.below HB3.out)
        have HNF := Lib.hid (show ¬ Fr r c2 fb from fun q => by have := (HI2.out.fr fb q).2; omega)
        have HFW := Lib.hid (show fb < w3.heap.size from HX3.out.lt)
        have CT := rCut5 HI3.out (Nat.le_trans hB HS3.out.2.size) hk1
        rw [HNK.out, HL.out] at CT
        have CT := Lib.hid CT
        obtain ⟨K, hK⟩ : ∃ x, x = Dk.del a D.L := ⟨_, rfl⟩
        have HKl := Lib.hid (show K.length + 1 = D.L.length ∧ Dk.size K + dt.length = Dk.size D.L from by
          have h1 := Dk.len_del (nm := a) HI.out.ok.ne
          have h2 := Dk.size_del (nm := a) HI.out.ok.ne
          rw [HG.out.2] at h1
          rw [HG.out.1, ← HFE.out] at h2
          rw [hK]
          exact ⟨by simpa using h1, h2⟩)
        have HSM := Lib.hid HI.out.small
        rw [← hK] at CT HREN
        have hres : ∀ c6 w6 L6, L6 = Dk.put ⟨b, dt, sf⟩ K → RfIn B r c6 { D1 with L := L6 } w6 → St5 r c w c6 w6 → OpI B r c (.int .i64 (Dk.rename a b D).1) (Dk.rename a b D).2 w (.returned (.int .i64 0)) w6 := fun c6 w6 L6 e hI6 hs6 => by
          rw [HD.out, if_neg (by rw [hst]; decide), HREN.out, ← e]
          exact ⟨rfl, c6, hI6, hs6.1, hs6.2⟩
        have HRES := Lib.hid hres
        go_upto_region 11 with fail
        rw [← hw3, ← hfb]
        clear hw3 hfb x4 y0 y1 y2 hres hK
        go_wp2_with fail
        with_reducible refine CT.out.mono ?_
        rintro e w4 ⟨rfl, c4, hI4, hf4, hw4⟩
        have HI4 := Lib.hid (show RfIn B r c4 { D1 with L := K } w4 from hI4)
        have HS4 := Lib.hid (HS3.out.trans ⟨hf4, hw4⟩)
        have HX4 := Lib.hid (HX3.out.wr hw4 HNF.out)
        have HNF4 := Lib.hid (show ¬ Fr r c4 fb from fun q => by
          rcases hf4 fb q with h | h
          · exact HNF.out h
          · have := HFW.out; omega)
        have CT4 := Lib.hid (rAt5 hI4 b)
        clear hI4 hf4 hw4 CT HX3 HNF HI3 HS3 HS2
        go_wp2_with fail
        with_reducible refine CT4.out.mono ?_
        rintro e w5 ⟨⟨hh, rfl⟩ | ⟨j, hj, he, rfl⟩, rfl⟩
        · obtain ⟨z0, z1, z2⟩ : w4.cell? ⟨fb, 0, none⟩ = some (.string (S b)) ∧ w4.cell? ⟨fb, 1, none⟩ = some (.string (S dt)) ∧ w4.cell? ⟨fb, 2, none⟩ = some (.int .i64 sf) := ⟨HX4.out.cell 0, HX4.out.cell 1, HX4.out.cell 2⟩
          have CLY := Lib.hid (rLay5 HI4.out (Nat.le_trans hB HS4.out.2.size) ⟨b, dt, sf⟩ (by exact hh) hnb HFL.out.1 (by have := HKl.out.1; show K.length < 1024; omega) (by have := HKl.out.2; have := HSM.out; show Dk.size K + dt.length ≤ _; omega))
          have HQ := Lib.hid (fun c6 w6 hI6 hs6 => HRES.out c6 w6 (Dk.ins ⟨b, dt, sf⟩ K) (by unfold Dk.put; rw [Dk.del_none (by exact hh)]) hI6 hs6)
          clear hh
          go_wp2_with fail
          with_reducible refine CLY.out.mono ?_
          rintro e w6 ⟨rfl, c6, hI6, hf6, hw6⟩
          have HQ6 := Lib.hid (HQ.out c6 w6 hI6 (HS4.out.trans ⟨hf6, hw6⟩))
          clear hI6 hf6 hw6 CLY z0 z1 z2
          go_wp2_with fail
          go_ret
          exact HQ6.out
        · have d5 : decide ((0 : Int) ≤ (j : Int)) = true := decide_eq_true (by omega)
          have CT5 := rCut5 HI4.out (Nat.le_trans hB HS4.out.2.size) (k := j) hj
          rw [show ((({ D1 with L := K } : Dk.St)).L[j]).name = b from he] at CT5
          have HK5 := Lib.hid (show Dk.has b (Dk.del b K) = false from by rw [Dk.has_del]; simp)
          have HKd := Lib.hid (show (Dk.del b K).length ≤ K.length ∧ Dk.size (Dk.del b K) ≤ Dk.size K from by
            have h1 := Dk.len_del (nm := b) HI4.out.ok.ne
            have h2 := Dk.size_del (nm := b) HI4.out.ok.ne
            simp only at h1 h2
            exact ⟨by omega, by omega⟩)
          have CT5 := Lib.hid CT5
          have HJ := Lib.hid (show AtR5 b K w4 (.returned (.int .i64 j)) w4 from ⟨.inr ⟨j, hj, he, rfl⟩, rfl⟩)
          clear he
          go_wp2_with fail
          with_reducible refine CT4.out.mono ?_
          rintro e w5 ⟨⟨hh2, rfl⟩ | ⟨j2, hj2, he2, rfl⟩, rfl⟩
          · exfalso
            obtain ⟨h9 | ⟨j3, hj3, he3, _⟩, _⟩ := HJ.out
            · cases h9.2
            · have h8 := (get_at5 HI4.out.ok hj3 he3).2
              rw [hh2] at h8
              cases h8
          have HJ2 := Lib.hid (show j2 = j from by
            obtain ⟨h9 | ⟨j3, hj3, he3, e3⟩, _⟩ := HJ.out
            · cases h9.2
            · injection e3 with e3
              injection e3 with _ e3
              have : j = j3 := by omega
              subst this
              exact (List.pairwise_iff_getElem.1 HI4.out.ok.ne |> fun hp => by
                rcases Nat.lt_trichotomy j2 j with q | q | q
                · exact absurd (he2.trans he3.symm) (hp j2 j hj2 hj3 q)
                · exact q
                · exact absurd (he3.trans he2.symm) (hp j j2 hj3 hj2 q)))
          obtain rfl := HJ2.out
          clear he2 HJ HJ2
          go_wp2_with fail
          with_reducible refine CT5.out.mono ?_
          rintro e w5 ⟨rfl, c5, hI5, hf5, hw5⟩
          have HI5 := Lib.hid (show RfIn B r c5 { D1 with L := Dk.del b K } w5 from hI5)
          have HS5 := Lib.hid (HS4.out.trans ⟨hf5, hw5⟩)
          have HX5 := Lib.hid (HX4.out.wr hw5 HNF4.out)
          clear hI5 hf5 hw5 CT5 HX4 HNF4 HI4 HS4
          obtain ⟨z0, z1, z2⟩ : w5.cell? ⟨fb, 0, none⟩ = some (.string (S b)) ∧ w5.cell? ⟨fb, 1, none⟩ = some (.string (S dt)) ∧ w5.cell? ⟨fb, 2, none⟩ = some (.int .i64 sf) := ⟨HX5.out.cell 0, HX5.out.cell 1, HX5.out.cell 2⟩
          have CLY := Lib.hid (rLay5 HI5.out (Nat.le_trans hB HS5.out.2.size) ⟨b, dt, sf⟩ HK5.out hnb HFL.out.1 (by have := HKl.out.1; have := HKd.out.1; show (Dk.del b K).length < 1024; omega) (by have := HKl.out.2; have := HSM.out; have := HKd.out.2; show Dk.size (Dk.del b K) + dt.length ≤ _; omega))
          have HQ := Lib.hid (fun c6 w6 hI6 hs6 => HRES.out c6 w6 (Dk.ins ⟨b, dt, sf⟩ (Dk.del b K)) rfl hI6 hs6)
          go_wp2_with fail
          with_reducible refine CLY.out.mono ?_
          rintro e w6 ⟨rfl, c6, hI6, hf6, hw6⟩
          have HQ6 := Lib.hid (HQ.out c6 w6 hI6 (HS5.out.trans ⟨hf6, hw6⟩))
          clear hI6 hf6 hw6 CLY z0 z1 z2
          go_wp2_with fail
          go_ret
          exact HQ6.out
end

end Go.Proofs.Ytekmnpmeienhhaa
