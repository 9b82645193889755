/- Layer 11: the heap through its interface: which method is meant; up, by a contract. -/
import Derived.Test.YthidmgnfdikppaaMergesE
import Derived.Test.YthidmgnfdikppaaMergeM
namespace Go.Proofs.Ythidmgnfdikppaa
set_option linter.unusedVariables false
open Go Go.RowKit
attribute [local go_sem ↓] run_index_S
attribute [local go_sem] S_append S_extract

set_option maxRecDepth 100000 in
theorem find_m11 {nm : String} {k : Option (Nat × Bool)} (h : (Array.find? (fun x => x.name == nm) Try.t129.methods).map (fun m => (m.path, m.func)) = some (#[], k)) : ∃ m, Array.find? (fun x => x.name == nm) Try.t129.methods = some m ∧ m.path = #[] ∧ m.func = k := by
  cases hq : Array.find? (fun x => x.name == nm) Try.t129.methods with
  | none => rw [hq] at h; cases h
  | some m =>
    rw [hq] at h
    simp at h
    exact ⟨m, rfl, h.1, h.2⟩
set_option maxRecDepth 100000 in
/-- (306: how many types there are, and 100.) -/
theorem types_size11 : Try.prog.types.size + 100 = 306 := by kernel_rfl
theorem wrap_ok11 (P : Program) (a : Array TypeId) (t : TypeId) (p : Addr) (x y : String) (w : World) : (Builtin.ssaWrapNilChk_ a t #[.pointer (some p), strVal x, strVal y]).run P w = .ok (.pointer (some p)) w := rfl
set_option maxRecDepth 100000 in
theorem meth_val11 (nm : String) (f : Nat) (hf : (Array.find? (fun x => x.name == nm) Try.t129.methods).map (fun m => (m.path, m.func)) = some (#[], some (f, false))) (w : World) (bi : Nat) (ao : Option Addr) (n cap : Nat) (h : w.cell? ⟨bi, 0, none⟩ = some (.slice ao n cap)) : Sem.run Try.prog (method (Try.prog.types.size + 100) 129 (.pointer (some ⟨bi, 0, none⟩)) nm) w = .ok (f, .slice ao n cap) w := by
  obtain ⟨m, hm, hp, hfn⟩ := find_m11 hf
  unfold method
  go_simp
  unfold follow
  go_simp
  unfold receiverAt
  go_simp
  unfold Place.get
  go_simp
  simp only [wrap_ok11]
  go_simp
set_option maxRecDepth 100000 in
theorem meth_less11 {w : World} {bi : Nat} {ao : Option Addr} {n cap : Nat} (h : w.cell? ⟨bi, 0, none⟩ = some (.slice ao n cap)) : Sem.run Try.prog (method 306 129 (.pointer (some ⟨bi, 0, none⟩)) "Less") w = .ok (179, .slice ao n cap) w := types_size11 ▸ meth_val11 "Less" 179 (by kernel_rfl) w bi ao n cap h
set_option maxRecDepth 100000 in
theorem meth_swap11 {w : World} {bi : Nat} {ao : Option Addr} {n cap : Nat} (h : w.cell? ⟨bi, 0, none⟩ = some (.slice ao n cap)) : Sem.run Try.prog (method 306 129 (.pointer (some ⟨bi, 0, none⟩)) "Swap") w = .ok (180, .slice ao n cap) w := types_size11 ▸ meth_val11 "Swap" 180 (by kernel_rfl) w bi ao n cap h
set_option maxRecDepth 100000 in
theorem meth_len11 {w : World} {bi : Nat} {ao : Option Addr} {n cap : Nat} (h : w.cell? ⟨bi, 0, none⟩ = some (.slice ao n cap)) : Sem.run Try.prog (method 306 129 (.pointer (some ⟨bi, 0, none⟩)) "Len") w = .ok (178, .slice ao n cap) w := types_size11 ▸ meth_val11 "Len" 178 (by kernel_rfl) w bi ao n cap h
set_option maxRecDepth 100000 in
theorem meth_push11 (w : World) (bi : Nat) : Sem.run Try.prog (method 306 129 (.pointer (some ⟨bi, 0, none⟩)) "Push") w = .ok (183, .pointer (some ⟨bi, 0, none⟩)) w := by kernel_rfl
set_option maxRecDepth 100000 in
theorem meth_pop11 (w : World) (bi : Nat) : Sem.run Try.prog (method 306 129 (.pointer (some ⟨bi, 0, none⟩)) "Pop") w = .ok (182, .pointer (some ⟨bi, 0, none⟩)) w := by kernel_rfl

/-- A heap behind a pointer: the box, and the row. -/
structure Hv (B bi g n cap : Nat) (H : List M.Hd) (w : World) : Prop where
  cell : w.cell? ⟨bi, 0, none⟩ = some (.slice (some ⟨g, 0, none⟩) n cap)
  own : w.ownsRow B 127 5 (.slice (some ⟨g, 0, none⟩) n cap) n (hds H)
  len : H.length = n
  ne : bi ≠ g
theorem Hv.grown {B bi g n cap : Nat} {H H' : List M.Hd} {w w' : World} (h : Hv B bi g n cap H w) (ho : w'.ownsRow B 127 5 (.slice (some ⟨g, 0, none⟩) n cap) n (hds H')) (hl : H'.length = n) (hg : w.grownBy w' (some g)) : Hv B bi g n cap H' w' :=
  ⟨hg.cell h.cell (by simp [h.ne]), ho, hl, h.ne⟩
theorem grown_below11 {w w' : World} {row : Option Nat} (h : Below w.heap.size w w') : w.grownBy w' row := ⟨h.os, h.tape, h.output, h.size, fun k hk _ => h.block k hk⟩
theorem own_below11 {B : Nat} {w w' : World} {e : TypeId} {sz n : Nat} {v : Value} {xs : List Value} (h : w.ownsRow B e sz v n xs) (hb : Below w.heap.size w w') : w'.ownsRow B e sz v n xs := h.kept (row := none) (grown_below11 hb) (by cases v.ownBlock <;> simp)
theorem Hv.below {B bi g n cap : Nat} {H : List M.Hd} {w w' : World} (h : Hv B bi g n cap H w) (hb : Below w.heap.size w w') : Hv B bi g n cap H w' :=
  h.grown (own_below11 h.own hb) h.len (grown_below11 hb)
theorem Hv.less {B bi g n cap i j : Nat} {H : List M.Hd} {w : World} (h : Hv B bi g n cap H w) (hn : n ≤ 1000000) (hi : i < n) (hj : j < n) :
    Calls Try.prog 179 #[.slice (some ⟨g, 0, none⟩) n cap, .int .i64 i, .int .i64 j] w fun e w' => e = .returned (.bool (M.hLess (M.hAt H i) (M.hAt H j))) ∧ Hv B bi g n cap H w' ∧ w.grownBy w' (some g) :=
  (less11_any w g n cap i j _ _ hi hj hn (hdOff_own h.own h.len hi) (hdOff_own h.own h.len hj)).mono fun e w' hh => ⟨hh.1, h.below hh.2, grown_below11 hh.2⟩
theorem Hv.swap {B bi g n cap i j : Nat} {H : List M.Hd} {w : World} (h : Hv B bi g n cap H w) (hn : n ≤ 1000000) (hi : i < n) (hj : j < n) :
    Calls Try.prog 180 #[.slice (some ⟨g, 0, none⟩) n cap, .int .i64 i, .int .i64 j] w fun e w' => e = .returned (.tuple #[]) ∧ Hv B bi g n cap (M.hSw H i j) w' ∧ w.grownBy w' (some g) :=
  (swap11_own w B g n cap i j H hi hj hn h.len h.own).mono fun e w' hh => ⟨hh.1, h.grown hh.2.1 (by rw [M.hSw_len]; exact h.len) hh.2.2, hh.2.2⟩

set_option maxHeartbeats 4000000 in
set_option maxRecDepth 100000 in
theorem up11_any (B bi g n cap j : Nat) (H : List M.Hd) (w : World) (hv : Hv B bi g n cap H w) (hj : j < n) (hn : n ≤ 1000000) (hu : M.UpI H n j) :
    Calls Try.prog 139 #[.iface 129 (.pointer (some ⟨bi, 0, none⟩)), .int .i64 j] w fun e w' => e = .returned (.tuple #[]) ∧ ∃ H', H'.Perm H ∧ M.Hp H' n ∧ Hv B bi g n cap H' w' ∧ w.grownBy w' (some g) := by
  have HU := Lib.hid hu
  have HV := Lib.hid hv
  clear hu hv
  go_enter Try.func139, Try.ntmps139
  go_wp2_with fail
  go_loopw [1] (fun vj wr => ∃ (j : Nat) (K : List M.Hd), vj = .int .i64 j ∧ j < n ∧ Hid (K.Perm H) ∧ Hid (M.UpI K n j) ∧ Hid (Hv B bi g n cap K wr) ∧ Hid (w.grownBy wr (some g))) (fun vj _ => (intOf vj).toNat)
  case atStart => exact ⟨j, H, rfl, hj, Lib.hid (List.Perm.refl _), HU, HV, Lib.hid (World.grownBy.refl _ _)⟩
  case round =>
    obtain ⟨k, K, rfl, hk, HP, HU, HV, HG⟩ := hrel
    have HL := fun hi => Lib.hid (HV.out.less (i := k) (j := (k - 1) / 2) hn hk hi)
    have m1 := meth_less11 HV.out.cell
    by_cases hk0 : k = 0
    · subst hk0
      go_wp2_with fail
      go_end0
      exact ⟨rfl, K, HP.out, HU.out.done (.inl rfl), HV.out, HG.out⟩
    · have hlt : (k - 1) / 2 < k := by omega
      have e1 : ((k : Int) - 1).tdiv 2 = (((k - 1) / 2 : Nat) : Int) := by rw [Int.tdiv_eq_ediv_of_nonneg (by omega)]; omega
      have hq : ((((k - 1) / 2 : Nat) : Int) == (k : Int)) = false := by simp; omega
      have HD := Lib.hid (fun q => HU.out.done (.inr q))
      have HST := Lib.hid (fun q => HU.out.step (by rw [HV.out.len]; exact Nat.le_refl n) (by omega) hk q)
      have HPS := Lib.hid ((M.hSw_perm (H := K) (a := (k - 1) / 2) (b := k) (by rw [HV.out.len]; omega) (by rw [HV.out.len]; omega)).trans HP.out)
      generalize (k - 1) / 2 = p at *
      have HL := HL (by omega)
      go_wp2_with fail
      with_reducible refine (HL.out).mono ?_
      rintro e w1 ⟨rfl, hv1, hg1⟩
      have HV1 := Lib.hid hv1
      have HG1 := Lib.hid (HG.out.trans hg1)
      clear hv1 hg1 HL
      have m2 := meth_swap11 HV1.out.cell
      have HS := Lib.hid (HV1.out.swap (i := p) (j := k) hn (by omega) hk)
      cases hb : M.hLess (M.hAt K k) (M.hAt K p) with
      | false =>
        have HD := Lib.hid (HD.out hb)
        clear hb
        go_wp2_with fail
        go_end0
        exact ⟨rfl, K, HP.out, HD.out, HV1.out, HG1.out⟩
      | true =>
        have HST := Lib.hid (HST.out hb)
        clear hb HD
        go_wp2_with fail
        with_reducible refine (HS.out).mono ?_
        rintro e w2 ⟨rfl, hv2, hg2⟩
        have HV2 := Lib.hid hv2
        have HG2 := Lib.hid (HG1.out.trans hg2)
        clear hv2 hg2
        go_wp2_with fail
        go_roundw
        · exact ⟨p, _, rfl, by omega, HPS, HST, HV2, HG2⟩
        · simp only [intOf, Int.toNat_natCast]; omega

end Go.Proofs.Ythidmgnfdikppaa
