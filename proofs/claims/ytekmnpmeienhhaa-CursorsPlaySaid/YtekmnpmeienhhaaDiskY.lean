/- Layer 5: Played, texts. -/
import Derived.Test.YtekmnpmeienhhaaDiskH
namespace Go.Proofs.Ytekmnpmeienhhaa
set_option linter.unusedVariables false
open Go Go.RowKit Go.Maps

/-- A row of one's own: a cell of it is stored. -/
theorem row_store5 {w : World} {B : Nat} {e : TypeId} {g n cap : Nat} {xs : List Value} (h : w.ownsRow B e 1 (.slice (some ⟨g, 0, none⟩) n cap) n xs) (j : Nat) (v : Value) :
    (w.setCell ⟨g, j, none⟩ v).ownsRow B e 1 (.slice (some ⟨g, 0, none⟩) n cap) n (xs.set j v) := by
  refine ⟨by rw [List.length_set]; exact h.1, ?_⟩
  rcases h.2 with ⟨e', _⟩ | ⟨g', cap', cur, e', hB, hg, hc, hm, hs, ht⟩
  · cases e'
  · injection e' with e1 e2 e3
    injection e1 with e1
    injection e1 with e1
    subst e1; subst e3
    have hr : Bk cur e w g := hg
    refine .inr ⟨g, cap, cur.setIfInBounds j v, rfl, hB, hr.set j v, hc, hm, by simpa using hs, ?_⟩
    rw [← ht, Array.toList_setIfInBounds, List.take_set]
theorem row_free5 {w : World} {B : Nat} {e : TypeId} {g n cap : Nat} {xs : List Value} (h : w.ownsRow B e 1 (.slice (some ⟨g, 0, none⟩) n cap) n xs) (j : Nat) : w.frozen? ⟨g, j, none⟩ = false := by
  rcases h.2 with ⟨e', _⟩ | ⟨g', cap', cur, e', hB, hg, hc, hm, hs, ht⟩
  · cases e'
  · injection e' with e1 e2 e3
    injection e1 with e1
    injection e1 with e1
    subst e1; subst e3
    have hr : Bk cur e w g := hg
    exact hr.free j
/-- A disk with acts done. -/
def PlayR (L : List Ra) (n : Nat) (w : World) (e : Ending) (w' : World) : Prop := ∃ d, e = .returned (.pointer (some ⟨d, 0, none⟩)) ∧ DkX (fun _ => False) w.heap.size d (Dk.acts L (Dk.new n)) w' ∧ Below w.heap.size w w' ∧ w.heap.size ≤ d
set_option maxRecDepth 100000 in
set_option maxHeartbeats 4000000 in
theorem played5 (L : List Ra) (ao : Option Addr) (cap : Nat) (w : World) (room : Int) (n : Nat) (hI : RasI L) (hF : Few5 L) (hA : RasAt w ao L) (hr0 : 0 ≤ room ∧ room ≤ 65535) (hn : (1 : Int) + room % 4000 = (n : Int) ∧ 1 ≤ n ∧ n ≤ 4000) :
    Calls Try.prog 34 #[.int .u16 room, .slice ao L.length cap] w (PlayR L n w) := by
  have hn1 := hn.2
  have hL := hF.n
  have CN := Lib.hid (newXd5 n w hn1.1 (by omega))
  have HN := Lib.hid hn.1
  have HI := Lib.hid hI
  have HA := Lib.hid hA
  have HF := Lib.hid hF
  clear hI hA hn hF
  go_enter Try.func34, Try.ntmps34
  go_wp2_with fail
  rw [HN.out]
  with_reducible refine CN.out.mono ?_
  rintro e w1 ⟨d, rfl, hd, hb, hd0⟩
  have H0 := Lib.hid (show DkX (fun _ => False) w.heap.size d (Dk.acts (L.take 0) (Dk.new n)) w1 ∧ Below w.heap.size w w1 from ⟨by rw [List.take_zero]; exact hd, hb⟩)
  have HD0 := Lib.hid hd0
  clear hd hb CN hd0
  go_wp2_with fail
  go_loopw [7] (fun i wr => ∃ k : Nat, k ≤ L.length ∧ i = .int .i64 k ∧ Hid (DkX (fun _ => False) w.heap.size d (Dk.acts (L.take k) (Dk.new n)) wr ∧ Below w.heap.size w wr)) (fun i _ => L.length - (intOf i).toNat)
  case atStart => exact ⟨0, Nat.zero_le _, rfl, H0⟩
  case round =>
    rename_i wr
    obtain ⟨k, hk, rfl, HH⟩ := hrel
    by_cases hlt : k < L.length
    · have d1 : decide (k < L.length) = true := by simpa using hlt
      have HD := Lib.hid HH.out.1
      have HB := Lib.hid HH.out.2
      have HAT := Lib.hid (Dk.acts_take hlt (Dk.new n))
      have HST := Lib.hid (show (Dk.acts (L.take k) (Dk.new n)).starts ≤ 1000000000 from by have h1 := (Dk.acts_kin (L.take k) (Dk.new n)).2; have h2 : (Dk.new n).starts = 0 := rfl; rw [List.length_take] at h1; omega)
      have HRI := Lib.hid (show RaIn (L.getD k ra0) from ra_in5 (HI.out.each _ (by rw [show L.getD k ra0 = L[k] from by simp [List.getD, hlt]]; exact List.getElem_mem hlt)) (HF.out.each k hlt))
      obtain ⟨g, off, hao, hra⟩ := actAt_of HA.out hlt
      subst hao
      have HRA := Lib.hid (hra.below HB.out)
      clear hra HH H0
      generalize L.getD k ra0 = r at *
      generalize Dk.acts (L.take k) (Dk.new n) = D at *
      have CA := Lib.hid (HRA.out.done HD.out (fun q hq => hq.elim) HB.out.size HRI.out HST.out)
      obtain ⟨⟨c0, c1, c2, c3, c4, c5, -⟩, -, -⟩ := HRA.out
      clear HRA
      go_wp2_with fail
      with_reducible refine CA.out.mono ?_
      rintro e w4 ⟨rfl, hd, hw⟩
      have HW4 := Lib.hid hw
      have HD4 := Lib.hid hd
      have HB4 := Lib.hid (HB.out.trans (hw.below (fun q hq => hq.1) HB.out.size))
      clear hd hw c0 c1 c2 c3 c4 c5 CA HD
      go_wp2_with fail
      go_roundw
      case rel => exact ⟨k + 1, by omega, by go_num, Lib.hid ⟨by rw [HAT.out]; exact HD4.out, HB4.out⟩⟩
      case measure => simp [intOf]; omega
    · have d1 : decide (k < L.length) = false := by simpa using hlt
      obtain rfl : k = L.length := by omega
      go_wp2_with fail
      go_ret
      exact ⟨d, rfl, by have := HH.out.1; rw [List.take_length] at this; exact this, HH.out.2, HD0.out⟩
/-- A new row lies in new blocks. -/
theorem row_new5 {w w' : World} {B : Nat} {e : TypeId} {ao : Option Addr} {n cap : Nat} {xs : List Value} (h : w.ownsRow B e 1 (.slice ao n cap) n xs) (hb : w.heap.size ≤ w'.heap.size) : ∀ a, 0 < n → ao = some a → B ≤ a.block ∧ a.block < w'.heap.size := fun a _ ha => by
  have := h.lt a.block (by rw [ha]; rfl)
  omega
def Dk.dats (L : List Dk.Fl) : List (List UInt8) := L.map (·.dat)
theorem Dk.dats_at {L : List Dk.Fl} {k : Nat} (hk : k < L.length) : ((Dk.dats L).take k ++ (Dk.names L).drop k)[k]? = some L[k].name ∧ ((Dk.dats L).take k ++ (Dk.names L).drop k).set k L[k].dat = (Dk.dats L).take (k + 1) ++ (Dk.names L).drop (k + 1) := by
  have h1 : (Dk.dats L).length = L.length := by simp [Dk.dats]
  have h2 : (Dk.names L).length = L.length := by simp [Dk.names]
  have h3 : ((Dk.dats L).take k).length = k := by rw [List.length_take]; omega
  have h4 : (Dk.names L).drop k = L[k].name :: (Dk.names L).drop (k + 1) := by
    rw [List.drop_eq_getElem_cons (by omega)]
    simp [Dk.names]
  have h5 : (Dk.dats L).take (k + 1) = (Dk.dats L).take k ++ [L[k].dat] := by
    rw [take_snoc5 _ k (by omega)]
    simp [Dk.dats]
  rw [h4]
  constructor
  · rw [List.getElem?_append_right (by omega), h3, Nat.sub_self]; rfl
  · rw [List.set_append_right _ _ (by omega), h3, Nat.sub_self, h5, List.set_cons_zero, List.append_assoc]; rfl
theorem txs5_set (l : List (List UInt8)) (k : Nat) (u : List UInt8) : (txs5 l).set k (.string (S u)) = txs5 (l.set k u) := by unfold txs5; rw [List.map_set]
section
variable {X : Nat → Prop} {B d : Nat} {D : Dk.St} {w : World}
set_option maxRecDepth 100000 in
set_option maxHeartbeats 4000000 in
theorem texts5 (h : DkX X B d D w) (hup : D.up = true) : Calls Try.prog 36 #[.pointer (some ⟨d, 0, none⟩)] w (RowT (Dk.dats D.L) w) := by
  have C := Lib.hid (namesX h)
  have HD := Lib.hid h
  have HO := Lib.hid h.ok.l
  have HF := h.ok.few
  have HU := Lib.hid hup
  have HN := Lib.hid (show (Dk.names D.L).length = D.L.length from by simp [Dk.names])
  have HDL := Lib.hid (show (Dk.dats D.L).length = D.L.length from by simp [Dk.dats])
  clear h hup
  go_enter Try.func36, Try.ntmps36
  go_wp2_with fail
  with_reducible refine C.out.mono ?_
  rintro e w1 ⟨ao, cap, rfl, hr, hb⟩
  rw [HN.out] at hr ⊢
  have H0 := Lib.hid (show w1.ownsRow w.heap.size 9 1 (.slice ao D.L.length cap) D.L.length (txs5 ((Dk.dats D.L).take 0 ++ (Dk.names D.L).drop 0)) ∧ DkX (fun q => X q ∨ (w.heap.size ≤ q ∧ q < w1.heap.size)) B d D w1 ∧ Below w.heap.size w w1 ∧ w1.heap.size ≤ w1.heap.size from ⟨by simpa using hr, HD.out.newrow hb, hb, Nat.le_refl _⟩)
  have HX := Lib.hid (row_new5 hr (Nat.le_refl _))
  clear hr hb C HD
  go_wp2_with fail
  go_loopw [4] (fun i wr => ∃ k : Nat, k ≤ D.L.length ∧ i = .int .i64 k ∧ Hid (wr.ownsRow w.heap.size 9 1 (.slice ao D.L.length cap) D.L.length (txs5 ((Dk.dats D.L).take k ++ (Dk.names D.L).drop k)) ∧ DkX (fun q => X q ∨ (w.heap.size ≤ q ∧ q < w1.heap.size)) B d D wr ∧ Below w.heap.size w wr ∧ w1.heap.size ≤ wr.heap.size)) (fun i _ => D.L.length - (intOf i).toNat)
  case atStart => exact ⟨0, Nat.zero_le _, rfl, H0⟩
  case round =>
    rename_i wr
    obtain ⟨k, hk, rfl, HH⟩ := hrel
    by_cases hlt : k < D.L.length
    · have d1 : decide (k < D.L.length) = true := by simpa using hlt
      obtain ⟨m1, m2⟩ := Dk.dats_at hlt
      obtain ⟨q1, q2, q3⟩ := Dk.at5 HO.out hlt
      have HRD : Dk.read (D.L[k]).name D = (0, (D.L[k]).dat) := by unfold Dk.read; rw [HU.out, q2, q1]; rfl
      obtain ⟨hr, hd, hb, hs⟩ := HH.out
      obtain ⟨g, hao, _, hgl, hcg⟩ := row_at5 hr hlt
      rw [show (txs5 ((Dk.dats D.L).take k ++ (Dk.names D.L).drop k))[k]? = some (.string (S (D.L[k]).name)) from by unfold txs5; rw [List.getElem?_map, m1]; rfl] at hcg
      subst hao
      have hXg := HX.out _ (by omega) rfl
      have CR := readX hd (D.L[k]).name (by omega)
      rw [HRD] at CR
      have CR := Lib.hid CR
      have HS := Lib.hid (show ∀ wx, Below wr.heap.size wr wx → wx.ownsRow w.heap.size 9 1 (.slice (some ⟨g, 0, none⟩) D.L.length cap) D.L.length (txs5 ((Dk.dats D.L).take k ++ (Dk.names D.L).drop k)) ∧ wx.frozen? ⟨g, k, none⟩ = false ∧ wx.cell? ⟨g, k, none⟩ = some (.string (S (D.L[k]).name)) ∧ g < wx.heap.size from fun wx hbx =>
        ⟨row_below5 hr hbx, row_free5 (row_below5 hr hbx) k, (hbx.cell (p := ⟨g, k, none⟩) hgl).trans hcg, Nat.lt_of_lt_of_le hgl hbx.size⟩)
      have HT := Lib.hid (show ∀ wx, Below wr.heap.size wr wx → Hid ((wx.setCell ⟨g, k, none⟩ (.string (S (D.L[k]).dat))).ownsRow w.heap.size 9 1 (.slice (some ⟨g, 0, none⟩) D.L.length cap) D.L.length (txs5 ((Dk.dats D.L).take (k + 1) ++ (Dk.names D.L).drop (k + 1))) ∧ DkX (fun q => X q ∨ (w.heap.size ≤ q ∧ q < w1.heap.size)) B d D (wx.setCell ⟨g, k, none⟩ (.string (S (D.L[k]).dat))) ∧ Below w.heap.size w (wx.setCell ⟨g, k, none⟩ (.string (S (D.L[k]).dat))) ∧ w1.heap.size ≤ (wx.setCell ⟨g, k, none⟩ (.string (S (D.L[k]).dat))).heap.size) from fun wx hbx =>
        Lib.hid ⟨by have := row_store5 (row_below5 hr hbx) k (.string (S (D.L[k]).dat)); rw [txs5_set, m2] at this; exact this, (hd.below hbx).wr (A := fun q => q = g) (wr_set _ _ _ rfl) (fun q e => by subst e; exact .inr hXg), (below_step hb hbx).setCell (p := ⟨g, k, none⟩) hXg.1 _, by have := hbx.size; simp [World.setCell]; omega⟩)
      clear HH hr hd hb hs m1 m2 q1 q2 HRD H0
      generalize (D.L[k]).dat = dt at *
      generalize (D.L[k]).name = nm at *
      go_wp2_with fail
      with_reducible refine CR.out.mono ?_
      rintro e w2 ⟨rfl, hb2⟩
      have HQ := HT.out _ hb2
      obtain ⟨-, hfz, hc2, hg2⟩ := HS.out _ hb2
      clear CR HT HS hcg hgl
      go_wp2_with fail
      go_roundw
      case rel => exact ⟨k + 1, by omega, by go_num, HQ⟩
      case measure => simp [intOf]; omega
    · have d1 : decide (k < D.L.length) = false := by simpa using hlt
      obtain rfl : k = D.L.length := by omega
      go_wp2_with fail
      go_ret
      refine ⟨ao, cap, by rw [HDL.out]; rfl, ?_, HH.out.2.2.1⟩
      have := HH.out.1
      rw [show (Dk.dats D.L).take D.L.length ++ (Dk.names D.L).drop D.L.length = Dk.dats D.L from by rw [← HDL.out, List.take_length, HDL.out, ← HN.out, List.drop_length, List.append_nil]] at this
      rw [HDL.out]
      exact this
end

end Go.Proofs.Ytekmnpmeienhhaa
