/- Layer 19: a tablet in memory; what lies in its stretch; its tables' rows, by contracts. -/
import Derived.Test.YtnhljlmelbiljaaGreatTbltM
import Derived.Test.YtnhljlmelbiljaaGreatZS
import Derived.Test.YtnhljlmelbiljaaGreatZM
import Derived.Test.YtnhljlmelbiljaaGreatZJ
namespace Go.Proofs.YtnhljlmelbiljaaGreat
set_option linter.unusedVariables false
set_option linter.unusedSimpArgs false
open Go Go.RowKit
attribute [local go_sem ↓] run_index_S
attribute [local go_sem] S_append S_extract

/-- A table that is handed in, or none. -/
structure M.Tp where
  p : Option Nat
  l : List M.Cl
def M.tp0 : M.Tp := ⟨none, []⟩
def ptrT (p : Option Nat) : Value := .pointer (p.map (fun b => ⟨b, 0, none⟩))
structure TpOk (w : World) (t : M.Tp) : Prop where
  at_ : ∀ p, t.p = some p → TabAt t.l p w
  nil : t.p = none → t.l = []
  srt : M.srt none t.l = true
  len : t.l.length ≤ 4096
  ok : ∀ c, c ∈ t.l → ClOk c
theorem TpOk.below {w w' : World} {t : M.Tp} (h : TpOk w t) (hb : Below w.heap.size w w') : TpOk w' t := ⟨fun p hp => (h.at_ p hp).below hb, h.nil, h.srt, h.len, h.ok⟩
def TpsAt (w : World) (ao : Option Addr) (Ts : List M.Tp) : Prop := Ts ≠ [] → ∃ g off, ao = some ⟨g, off, none⟩ ∧ ∀ j, j < Ts.length → w.cell? ⟨g, off + j, none⟩ = some (ptrT (Ts.getD j M.tp0).p) ∧ TpOk w (Ts.getD j M.tp0)
theorem TpsAt.below {w w' : World} {ao : Option Addr} {Ts : List M.Tp} (h : TpsAt w ao Ts) (hb : Below w.heap.size w w') : TpsAt w' ao Ts := fun hn => by
  obtain ⟨g, off, e, hc⟩ := h hn
  exact ⟨g, off, e, fun j hj => ⟨(hb.cell (p := ⟨g, off + j, none⟩) (block_lt_of_cell (hc j hj).1)).trans (hc j hj).1, (hc j hj).2.below hb⟩⟩
theorem TpsAt.off {w : World} {ao : Option Addr} {Ts : List M.Tp} (h : TpsAt w ao Ts) (j : Nat) (hj : j < Ts.length) : ∃ g off, ao = some ⟨g, off, none⟩ ∧ w.cell? ⟨g, off + j, none⟩ = some (ptrT (Ts.getD j M.tp0).p) ∧ TpOk w (Ts.getD j M.tp0) := by
  obtain ⟨g, off, e, hc⟩ := h (fun h => by rw [h] at hj; simp at hj)
  exact ⟨g, off, e, hc j hj⟩
/-- A memory that is handed in, or none. -/
def MmAt (w : World) (mv : Value) (L : List M.Cl) : Prop := (mv = .pointer none ∧ L = []) ∨ ∃ B b, mv = .pointer (some ⟨b, 0, none⟩) ∧ MemX (fun _ => False) B b L w
theorem MmAt.below {w w' : World} {mv : Value} {L : List M.Cl} (h : MmAt w mv L) (hb : Below w.heap.size w w') : MmAt w' mv L := by
  rcases h with h | ⟨B, b, e, h⟩
  · exact .inl h
  · exact .inr ⟨B, b, e, h.below hb⟩
theorem memX_is {X : Nat → Prop} {B b : Nat} {L : List M.Cl} {w : World} (h : MemX X B b L w) : M.Stt L ∧ L.length ≤ 50000 ∧ ∀ c, c ∈ L → ClOk c ∧ M.mayC c = true := by
  obtain ⟨pa, pc, Ps, h1, _, _⟩ := h
  exact ⟨h1.st, h1.nL, h1.okc⟩
theorem MmAt.is {w : World} {mv : Value} {L : List M.Cl} (h : MmAt w mv L) : M.Stt L ∧ L.length ≤ 50000 ∧ ∀ c, c ∈ L → ClOk c ∧ M.mayC c = true := by
  rcases h with ⟨_, rfl⟩ | ⟨B, b, _, h⟩
  · exact ⟨List.Pairwise.nil, by simp, fun c hc => by cases hc⟩
  · exact memX_is h
/-- A tablet's value. -/
def tbV (f t : List UInt8) (mv : Value) (ao : Option Addr) (n cap : Nat) : Array Value := #[.string (S f), .string (S t), mv, .slice ao n cap]
/-- What a tablet has: its memory's cells, its tables'. -/
structure TtAt (w : World) (mv : Value) (ao : Option Addr) (L : List M.Cl) (Ts : List M.Tp) : Prop where
  mem : MmAt w mv L
  tabs : TpsAt w ao Ts
  n : Ts.length ≤ 100
theorem TtAt.below {w w' : World} {mv : Value} {ao : Option Addr} {L : List M.Cl} {Ts : List M.Tp} (h : TtAt w mv ao L Ts) (hb : Below w.heap.size w w') : TtAt w' mv ao L Ts := ⟨h.mem.below hb, h.tabs.below hb, h.n⟩
instance car_tt {w w' : World} {mv : Value} {ao : Option Addr} {L : List M.Cl} {Ts : List M.Tp} : Car w w' (TtAt w mv ao L Ts) (TtAt w' mv ao L Ts) := ⟨fun hb h => h.below hb⟩
def M.tls (Ts : List M.Tp) : List (List M.Cl) := Ts.map (fun t => t.l)
theorem M.takeT_snoc {Ts : List M.Tp} {j : Nat} (h : j < Ts.length) : Ts.take (j + 1) = Ts.take j ++ [Ts.getD j M.tp0] := by
  have e : Ts.getD j M.tp0 = Ts[j] := by simp [List.getD, h]
  rw [e, List.take_append_getElem]
theorem M.tls_snoc {Ts : List M.Tp} {j : Nat} (h : j < Ts.length) : M.tls (Ts.take (j + 1)) = M.tls (Ts.take j) ++ [(Ts.getD j M.tp0).l] := by rw [M.takeT_snoc h]; simp [M.tls]
/-- Rows of the call's own, of cells of the call's own. -/
structure RwO (B : Nat) (w : World) (ao : Option Addr) (cap : Nat) (Rs : List M.Rw) : Prop where
  row : w.ownsRow B 22 1 (.slice ao Rs.length cap) Rs.length (rwsV Rs)
  each : ∀ r, r ∈ Rs → w.ownsRow B 38 3 (.slice r.o r.l.length r.k) r.l.length (cls r.l)
theorem RwO.below {B : Nat} {w w' : World} {ao : Option Addr} {cap : Nat} {Rs : List M.Rw} (h : RwO B w ao cap Rs) (hb : Below w.heap.size w w') : RwO B w' ao cap Rs := ⟨ownP_below h.row hb, fun r hr => ownP_below (h.each r hr) hb⟩
theorem RwO.mono {B B' : Nat} {w : World} {ao : Option Addr} {cap : Nat} {Rs : List M.Rw} (h : RwO B' w ao cap Rs) (hB : B ≤ B') : RwO B w ao cap Rs := ⟨ownP_mono h.row hB, fun r hr => ownP_mono (h.each r hr) hB⟩
instance car_rwO {w w' : World} {B : Nat} {ao : Option Addr} {cap : Nat} {Rs : List M.Rw} : Car w w' (RwO B w ao cap Rs) (RwO B w' ao cap Rs) := ⟨fun hb h => h.below hb⟩
theorem RwO.at_ {B : Nat} {w : World} {ao : Option Addr} {cap : Nat} {Rs : List M.Rw} (h : RwO B w ao cap Rs) : RwsAt w ao Rs := fun hn => by
  have hl : 0 < Rs.length := by cases Rs with
    | nil => exact absurd rfl hn
    | cons _ _ => simp
  obtain ⟨g, cap', e, _, hc⟩ := own_slice10 h.row hl
  injection e with e1 e2 e3
  refine ⟨g, 0, e1, fun j hj => ?_⟩
  rw [Nat.zero_add]
  exact ⟨hc j _ (rwsV_get hj), clsAt_own (h.each _ (M.getD_memR hj)) rfl⟩
theorem RwO.app {B : Nat} {w w' : World} {ao ao' : Option Addr} {cap cap' : Nat} {Rs Qs : List M.Rw} (h : RwO B w ao cap Rs) (hr : ∀ r, r ∈ Qs → w.ownsRow B 38 3 (.slice r.o r.l.length r.k) r.l.length (cls r.l)) (ho : w'.ownsRow B 22 1 (.slice ao' (Rs.length + Qs.length) cap') (Rs.length + Qs.length) (rwsV Rs ++ rwsV Qs)) (hg : w.grownBy w' (Value.slice ao Rs.length cap).ownBlock) : RwO B w' ao' cap' (Rs ++ Qs) := by
  have keep : ∀ (r : M.Rw), w.ownsRow B 38 3 (.slice r.o r.l.length r.k) r.l.length (cls r.l) → w'.ownsRow B 38 3 (.slice r.o r.l.length r.k) r.l.length (cls r.l) := fun r hx => hx.kept hg (own_apart hx h.row (by decide))
  refine ⟨?_, fun x hx => ?_⟩
  · rw [List.length_append, rwsV_append]; exact ho
  · rcases List.mem_append.1 hx with hx | hx
    · exact keep x (h.each x hx)
    · exact keep x (hr x hx)
set_option maxHeartbeats 2000000 in
theorem holds19_any (f t : List UInt8) (mv : Value) (ao : Option Addr) (n cap : Nat) (key : List UInt8) (w : World) :
    Calls Tryz.prog 28 #[.agg (tbV f t mv ao n cap), .string (S key)] w fun e w' => e = .returned (.bool (M.inK f t key)) ∧ Below w.heap.size w w' := by
  have HB := Lib.hid ((Below.refl w.heap.size w).alloc (Nat.le_refl _) (.cells (tbV f t mv ao n cap) 32))
  have HV := Lib.hid (show M.inK f t key = (!Op.bytesLess key f && (t.isEmpty || Op.bytesLess key t)) from rfl)
  have H1 := Lib.hid (show (Op.bytesLess f key = true ∨ (f == key) = true) ↔ Op.bytesLess key f = false from by
    constructor
    · rintro (h | h)
      · exact M.less_asym19 h
      · rw [eq_of_beq h]; exact M.less_irr _
    · intro h
      rcases M.not_less h with e | e
      · exact .inr (by simp [e])
      · exact .inl e)
  unfold tbV at *
  generalize M.inK f t key = r at *
  go_enter Tryz.func28, Tryz.ntmps28
  cases q1 : Op.bytesLess key f with
  | true =>
    have e1 : Op.bytesLess f key = false := by
      cases q : Op.bytesLess f key with
      | false => rfl
      | true => have := H1.out.1 (.inl q); rw [q1] at this; cases this
    have e2 : (f == key) = false := by
      cases q : (f == key) with
      | false => rfl
      | true => have := H1.out.1 (.inr q); rw [q1] at this; cases this
    go_wp2_with fail
    go_ret
    exact ⟨by rw [HV.out, q1]; rfl, HB.out⟩
  | false =>
    have e1 : Op.bytesLess f key = true ∨ (f == key) = true := H1.out.2 q1
    cases t with
    | nil =>
      rcases e1 with e1 | e1
      · go_wp2_with fail
        go_ret
        exact ⟨by rw [HV.out, q1]; rfl, HB.out⟩
      · cases e3 : Op.bytesLess f key
        · go_wp2_with fail
          go_ret
          exact ⟨by rw [HV.out, q1]; rfl, HB.out⟩
        · go_wp2_with fail
          go_ret
          exact ⟨by rw [HV.out, q1]; rfl, HB.out⟩
    | cons x t =>
      cases e3 : Op.bytesLess f key with
      | true =>
        cases q2 : Op.bytesLess key (x :: t)
        · go_wp2_with fail
          go_ret
          exact ⟨by rw [HV.out, q1, q2]; rfl, HB.out⟩
        · go_wp2_with fail
          go_ret
          exact ⟨by rw [HV.out, q1, q2]; rfl, HB.out⟩
      | false =>
        have e4 : (f == key) = true := by
          rcases e1 with e1 | e1
          · rw [e3] at e1; cases e1
          · exact e1
        clear e1
        cases q2 : Op.bytesLess key (x :: t)
        · go_wp2_with fail
          go_ret
          exact ⟨by rw [HV.out, q1, q2]; rfl, HB.out⟩
        · go_wp2_with fail
          go_ret
          exact ⟨by rw [HV.out, q1, q2]; rfl, HB.out⟩

end Go.Proofs.YtnhljlmelbiljaaGreat
