/- Layer 11: Len and Pop of the row, heap.Push, heap.Pop, by contracts. -/
import Derived.Test.YthidmgnfdikppaaMergesH
import Derived.Test.YthidmgnfdikppaaMergesI
namespace Go.Proofs.Ythidmgnfdikppaa
set_option linter.unusedVariables false
open Go Go.RowKit
attribute [local go_sem ↓] run_index_S
attribute [local go_sem] S_append S_extract

theorem len11_any (ao : Option Addr) (n cap : Nat) (w : World) :
    Calls Try.prog 178 #[.slice ao n cap] w fun e w' => e = .returned (.int .i64 n) ∧ w' = w := by
  go_enter Try.func178, Try.ntmps178
  go_wp2_with fail
  go_ret
  exact ⟨rfl, rfl⟩
theorem Two.wk {a : Nat} {row : Option Nat} {w w' : World} (h : Two a none w w') : Two a row w w' := ⟨h.os, h.tape, h.output, h.size, fun k hk ha _ => h.block k hk ha (by simp)⟩
theorem pop_end11 {B bi g m cap : Nat} {K : List M.Hd} {x : M.Hd} {w W : World} (h : Hq B bi (some ⟨g, 0, none⟩) (m + 1) cap (K ++ [x]) w) (hW : Below w.heap.size w W) :
    Hq B bi (some ⟨g, 0, none⟩) m cap K (W.setCell ⟨bi, 0, none⟩ (.slice (some ⟨g, 0, none⟩) m cap)) ∧ Two bi none w (W.setCell ⟨bi, 0, none⟩ (.slice (some ⟨g, 0, none⟩) m cap)) := by
  have hr := h.row.below hW
  have hne := h.ne
  have hl := h.len
  have ho := h.own
  rw [hds_append, hds_one] at ho
  have ho := own_below11 (ownsRow_pop (by rw [hds_length]; simp at hl; rw [hl]) ho) hW
  refine ⟨⟨hr.set 0 _, ownsRow_setCell_other ho (fun e => hne bi (by cases e; rfl) rfl) _, by simpa using hl, Nat.le_trans h.base (Nat.le_trans hW.size (by simp))⟩, (Two.below hW).set (p := ⟨bi, 0, none⟩) rfl _⟩
theorem own_cap11 {w : World} {B : Nat} {e : TypeId} {sz n cap : Nat} {ao : Option Addr} {xs : List Value} (h : w.ownsRow B e sz (.slice ao n cap) n xs) : n ≤ cap := by
  rcases h.2 with ⟨h0, e0⟩ | ⟨g, cap', cur, hv, _, _, hn, _⟩
  · cases h0; exact Nat.le_refl _
  · cases hv; exact hn
set_option maxHeartbeats 4000000 in
set_option maxRecDepth 100000 in
theorem popm11_any (B bi g m cap : Nat) (K : List M.Hd) (x : M.Hd) (w : World) (h : Hq B bi (some ⟨g, 0, none⟩) (m + 1) cap (K ++ [x]) w) (hm : m + 1 ≤ 1000000) :
    Calls Try.prog 182 #[.pointer (some ⟨bi, 0, none⟩)] w fun e w' => e = .returned (.iface 127 (.agg (hdA x))) ∧ Hq B bi (some ⟨g, 0, none⟩) m cap K w' ∧ Two bi none w w' := by
  have HQ := Lib.hid h
  have hx := hdOff_own h.own h.len (j := m) (by omega)
  have hl := h.len
  rw [show M.hAt (K ++ [x]) m = x from by simp at hl; simp [M.hAt, List.getD, ← hl]] at hx
  obtain ⟨x0, x1, x2, x3, x4⟩ := hx
  have h0 : w.cell? ⟨bi, 0, none⟩ = some (.slice (some ⟨g, 0, none⟩) (m + 1) cap) := h.row.cell 0
  have h0a : ∀ o, (w.alloc o).cell? ⟨bi, 0, none⟩ = some (.slice (some ⟨g, 0, none⟩) (m + 1) cap) := fun o => (h.row.more o).cell 0
  have fz := h.row.free 0
  have fza : ∀ o, (w.alloc o).frozen? ⟨bi, 0, none⟩ = false := fun o => (h.row.more o).free 0
  have hlt := h.row.lt
  have m1 : ¬ (bi = w.heap.size) := by omega
  have m2 : ¬ (w.heap.size = bi) := by omega
  have hcap := own_cap11 h.own
  have hcap2 : m ≤ cap := by omega
  have hcap3 : (m : Int) ≤ (cap : Int) := by omega
  have e1 : ((m + 1 : Nat) : Int) - 1 = (m : Int) := by omega
  have hi1 : (m : Int) < ((m + 1 : Nat) : Int) := by omega
  clear h hlt hl
  go_enter Try.func182, Try.ntmps182
  go_wp2_with fail
  go_ret
  exact ⟨rfl, pop_end11 HQ.out ((Below.refl _ _).alloc (Nat.le_refl _) _)⟩
theorem M.hAt_left {H : List M.Hd} {x : M.Hd} {i : Nat} (h : i < H.length) : M.hAt (H ++ [x]) i = M.hAt H i := by simp [M.hAt, List.getD, List.getElem?_append_left h]
theorem M.Hp.upI {H : List M.Hd} {x : M.Hd} {n : Nat} (h : M.Hp H n) (hl : H.length = n) : M.UpI (H ++ [x]) (n + 1) n := by
  refine ⟨fun i h0 hi hne => ?_, fun h0 i _ hi hp => by omega⟩
  rw [M.hAt_left (by omega), M.hAt_left (by omega)]
  exact h i h0 (by omega)
theorem M.Hp.dnI {H : List M.Hd} {m : Nat} (h : M.Hp H (m + 1)) (hl : H.length = m + 1) : M.DnI (M.hSw H 0 m) m 0 := by
  refine ⟨fun i h0 hi hne => ?_, fun h0 => by omega⟩
  rw [M.hSw_at (by omega) (by omega), M.hSw_at (by omega) (by omega), if_neg (by omega), if_neg (by omega), if_neg (by omega), if_neg (by omega)]
  exact h i h0 (by omega)
theorem M.split_last {H : List M.Hd} {m : Nat} (hl : H.length = m + 1) : H = H.take m ++ [M.hAt H m] := by
  have e : M.hAt H m = H[m] := by simp [M.hAt, List.getD, hl]
  rw [e, List.take_append_getElem]
  rw [← hl, List.take_length]
theorem M.Hp.take {H : List M.Hd} {m : Nat} (h : M.Hp H m) (hl : m ≤ H.length) : M.Hp (H.take m) m := fun i h0 hi => by
  have e : ∀ j, j < m → M.hAt (H.take m) j = M.hAt H j := fun j hj => by simp [M.hAt, List.getD, hj]
  rw [e i hi, e _ (by omega)]
  exact h i h0 hi
def HPushR (B bi : Nat) (ao : Option Addr) (n cap : Nat) (H : List M.Hd) (w : World) (e : Ending) (w' : World) : Prop :=
  e = .returned (.tuple #[]) ∧ ∃ ao' cap' K, K.Perm H ∧ M.Hp K (n + 1) ∧ Hq B bi ao' (n + 1) cap' K w' ∧ Two bi (Value.slice ao n cap).ownBlock w w' ∧ ∀ q, (Value.slice ao' (n + 1) cap').ownBlock = some q → (Value.slice ao n cap).ownBlock = some q ∨ w.heap.size ≤ q
set_option maxHeartbeats 4000000 in
set_option maxRecDepth 100000 in
theorem hpush11_any (B bi : Nat) (ao : Option Addr) (n cap : Nat) (H : List M.Hd) (x : M.Hd) (w : World) (h : Hq B bi ao n cap H w) (hn : n + 1 ≤ 1000000) (hp : M.Hp H n) :
    Calls Try.prog 127 #[.iface 129 (.pointer (some ⟨bi, 0, none⟩)), .iface 127 (.agg (hdA x))] w (HPushR B bi ao n cap (H ++ [x]) w) := by
  have HC := Lib.hid (push11_any B bi ao n cap H x w h hn)
  have HU := Lib.hid (hp.upI (x := x) h.len)
  have mp := meth_push11 w bi
  unfold HPushR
  clear h hp
  go_enter Try.func127, Try.ntmps127
  go_wp2_with fail
  with_reducible refine (HC.out).mono ?_
  rintro e w1 ⟨rfl, ao', cap', hq, htw, hb⟩
  have HQ := Lib.hid hq
  have HTW := Lib.hid (And.intro htw hb)
  obtain ⟨g, rfl, hv⟩ := hq.hv (by omega)
  have HUP := Lib.hid (up11_any B bi g (n + 1) cap' n (H ++ [x]) w1 hv (by omega) (by omega) HU.out)
  have ml := meth_len11 hv.cell
  have e1 : ((n + 1 : Nat) : Int) - 1 = (n : Int) := by omega
  have HL := Lib.hid (len11_any (some ⟨g, 0, none⟩) (n + 1) cap' w1)
  clear hq htw hb hv mp
  go_wp2_with fail
  with_reducible refine (HL.out).mono ?_
  rintro e w1' ⟨rfl, rfl⟩
  go_wp2_with fail
  with_reducible refine (HUP.out).mono ?_
  rintro e w2 ⟨rfl, K, hpm, hpp, hv2, hg2⟩
  have HE := Lib.hid (And.intro hpm (And.intro hpp (And.intro hv2 hg2)))
  clear hpm hpp hv2 hg2
  go_wp2_with fail
  go_end0
  obtain ⟨hpm, hpp, hv2, hg2⟩ := HE.out
  exact ⟨rfl, _, cap', K, hpm, hpp, HQ.out.grown hv2.own hv2.len hg2, HTW.out.1.trans (Two.of hg2) (fun q e => HTW.out.2 q e), HTW.out.2⟩
def HPopR (B bi g m cap : Nat) (H : List M.Hd) (w : World) (e : Ending) (w' : World) : Prop :=
  e = .returned (.iface 127 (.agg (hdA (M.hAt H 0)))) ∧ ∃ K, (M.hAt H 0 :: K).Perm H ∧ M.Hp K m ∧ Hq B bi (some ⟨g, 0, none⟩) m cap K w' ∧ Two bi (some g) w w'
set_option maxHeartbeats 4000000 in
set_option maxRecDepth 100000 in
theorem hpop11_any (B bi g m cap : Nat) (H : List M.Hd) (w : World) (h : Hq B bi (some ⟨g, 0, none⟩) (m + 1) cap H w) (hm : m + 1 ≤ 1000000) (hp : M.Hp H (m + 1)) :
    Calls Try.prog 97 #[.iface 129 (.pointer (some ⟨bi, 0, none⟩))] w (HPopR B bi g m cap H w) := by
  obtain ⟨g', eg, hv⟩ := h.hv (by omega)
  cases eg
  have hl := h.len
  have HQ := Lib.hid h
  have HD := Lib.hid (hp.dnI hl)
  have ml := meth_len11 hv.cell
  have ms := meth_swap11 hv.cell
  have e1 : ((m + 1 : Nat) : Int) - 1 = (m : Int) := by omega
  have HL := Lib.hid (len11_any (some ⟨g, 0, none⟩) (m + 1) cap w)
  have HS := Lib.hid (show Calls Try.prog 180 #[.slice (some ⟨g, 0, none⟩) (m + 1) cap, .int .i64 0, .int .i64 m] w _ from hv.swap (i := 0) (j := m) hm (by omega) (by omega))
  have HPM := Lib.hid (M.hSw_perm (H := H) (a := 0) (b := m) (by omega) (by omega))
  have HAT := Lib.hid (show M.hAt (M.hSw H 0 m) m = M.hAt H 0 from by rw [M.hSw_at (by omega) (by omega), if_pos rfl])
  unfold HPopR
  clear h hp hv hl
  go_enter Try.func97, Try.ntmps97
  go_wp2_with fail
  with_reducible refine (HL.out).mono ?_
  rintro e w0 ⟨rfl, rfl⟩
  go_wp2_with fail
  with_reducible refine (HS.out).mono ?_
  rintro e w1 ⟨rfl, hv1, hg1⟩
  have HG1 := Lib.hid hg1
  have HDN := Lib.hid (down11_any B bi g (m + 1) cap m (M.hSw H 0 m) w1 hv1 (by omega) hm HD.out)
  clear hv1 hg1 ml ms
  go_wp2_with fail
  with_reducible refine (HDN.out).mono ?_
  rintro e w2 ⟨⟨b, rfl⟩, K, hpm, hpp, hv2, hg2, hat⟩
  have hK := M.split_last hv2.len
  rw [hat m (Nat.le_refl _), HAT.out] at hK
  have HQ2 := HQ.out.grown (w' := w2) hv2.own hv2.len (HG1.out.trans hg2)
  have HTK := Lib.hid (hpp.take (by rw [hv2.len]; omega))
  have HPK := Lib.hid (hpm.trans HPM.out)
  rw [hK] at HQ2
  have HPK2 := Lib.hid (show (K.take m ++ [M.hAt H 0]).Perm H from hK ▸ HPK.out)
  have HC := Lib.hid (popm11_any B bi g m cap (K.take m) (M.hAt H 0) w2 HQ2 hm)
  have mp := meth_pop11 w2 bi
  have HG2 := Lib.hid (HG1.out.trans hg2)
  clear hpm hpp hv2 hg2 hat hK HQ2 HPK
  obtain ⟨x, hx⟩ : ∃ x, x = M.hAt H 0 := ⟨_, rfl⟩
  rw [← hx] at HPK2 HC
  have HX := Lib.hid hx
  clear hx
  go_wp2_with fail
  with_reducible refine (HC.out).mono ?_
  rintro e w3 ⟨rfl, hq3, ht3⟩
  have HE := Lib.hid (And.intro hq3 ht3)
  clear hq3 ht3 mp
  go_wp2_with fail
  go_ret
  have hx := HX.out
  subst hx
  exact ⟨rfl, K.take m, (List.perm_append_singleton _ (K.take m)).symm.trans HPK2.out, HTK.out, HE.out.1, (Two.of HG2.out).trans HE.out.2 (fun q e => by cases e)⟩

end Go.Proofs.Ythidmgnfdikppaa
