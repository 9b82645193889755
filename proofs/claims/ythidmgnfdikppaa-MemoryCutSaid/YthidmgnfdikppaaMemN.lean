/- Layer 15: Put, by a contract. -/
import Derived.Test.YthidmgnfdikppaaMemL
namespace Go.Proofs.Ythidmgnfdikppaa
set_option linter.unusedVariables false
set_option linter.unusedSimpArgs false
open Go Go.RowKit
attribute [local go_sem ↓] run_index_S
attribute [local go_sem] S_append S_extract

/-- What Put answers and leaves. -/
def M.putL (c : M.Cl) (L : List M.Cl) : List M.Cl := if M.mayC c = true then M.insC c L else L
def PutR (B b : Nat) (pa : Option Addr) (Ps : List M.Pg) (c : M.Cl) (L : List M.Cl) (w : World) (e : Ending) (w' : World) : Prop :=
  e = .returned (.int .i64 (if M.mayC c then 0 else 2)) ∧ ∃ pa' pc' Ps', MemAt B b pa' pc' Ps' (M.putL c L) w' ∧ SmP Ps' ∧ OnlyS (WrS b pa Ps) w w' ∧ Grw b pa Ps w pa' Ps'
set_option maxHeartbeats 4000000 in
set_option maxRecDepth 100000 in
theorem put15_any (B b : Nat) (pa : Option Addr) (pc : Nat) (Ps : List M.Pg) (L : List M.Cl) (c : M.Cl) (w : World) (h : MemAt B b pa pc Ps L w) (hsm : SmP Ps) (hBw : B ≤ w.heap.size) (hc : ClOk c) (hn : L.length < 50000) :
    Calls Try.prog 51 #[.pointer (some ⟨b, 0, none⟩), .agg (clA c)] w (PutR B b pa Ps c L w) := by
  have hal := (Below.refl w.heap.size w).alloc (Nat.le_refl _) (.cells (clA c) 38)
  have HB := Lib.hid hal
  have HM := Lib.hid (h.below hal)
  have HX := Lib.hid (rowIn_new (clA c) 38 w)
  have CK := Lib.hid (fun V => check9_any c hc V)
  have CL := Lib.hid (fun hm (V : World) hV hBV => lay15_any B b pa pc Ps L c V hV hsm hBV ⟨hc, hm⟩ hn)
  have HBW := Lib.hid hBw
  have HSM := Lib.hid hsm
  have r2 : (w.alloc (.cells (clA c) 38)).cell? ⟨b, 2, none⟩ = some (.bool true) := HM.out.row.cell 2
  unfold PutR M.putL
  unfold LayR at CL
  clear hal h hBw hsm hn hc
  generalize M.mayC c = mb at *
  go_enter Try.func51, Try.ntmps51
  go_wp2_with fail
  have hxe : ∃ x, x = w.heap.size := ⟨_, rfl⟩
  obtain ⟨X, hX⟩ := hxe
  rw [← hX] at HX ⊢
  obtain ⟨x0, x1, x2⟩ : (w.alloc (.cells (clA c) 38)).cell? ⟨X, 0, none⟩ = some (.string (S c.key)) ∧ (w.alloc (.cells (clA c) 38)).cell? ⟨X, 1, none⟩ = some (.int .i64 c.seq) ∧ (w.alloc (.cells (clA c) 38)).cell? ⟨X, 2, none⟩ = some (.string (S c.val)) := ⟨HX.out.cell 0, HX.out.cell 1, HX.out.cell 2⟩
  clear hX
  go_wp2_with fail
  refine (CK.out _).mono ?_
  rintro e w1 ⟨rfl, hb⟩
  replace HB := carry hb HB
  replace HX := carry hb HX
  replace HM := carry hb HM
  clear hb CK x0 x1 x2 r2
  obtain ⟨x0, x1, x2⟩ : w1.cell? ⟨X, 0, none⟩ = some (.string (S c.key)) ∧ w1.cell? ⟨X, 1, none⟩ = some (.int .i64 c.seq) ∧ w1.cell? ⟨X, 2, none⟩ = some (.string (S c.val)) := ⟨HX.out.cell 0, HX.out.cell 1, HX.out.cell 2⟩
  cases mb with
  | false =>
    clear CL
    go_wp2_with fail
    go_ret
    exact ⟨rfl, pa, pc, Ps, HM.out, HSM.out, onlyS_below HB.out, Grw.refl _ _ _ _⟩
  | true =>
    replace CL := Lib.hid (CL.out rfl w1 HM.out (Nat.le_trans HBW.out HB.out.size))
    go_wp2_with fail
    refine (CL.out).mono ?_
    rintro e w2 ⟨rfl, hl⟩
    have HL := Lib.hid hl
    clear hl CL
    go_wp2_with fail
    go_ret
    obtain ⟨pa', pc', Ps', k1, k2, k3, k4⟩ := HL.out
    exact ⟨rfl, pa', pc', Ps', k1, k2, (onlyS_below HB.out).trans2 k3 (fun x hx => .inl hx), k4.mono HB.out.size⟩

end Go.Proofs.Ythidmgnfdikppaa
