/- Layer 5: calls with one of two disks. -/
import Derived.Test.YtekmnpmeienhhaaDiskFb
namespace Go.Proofs.Ytekmnpmeienhhaa
set_option linter.unusedVariables false
open Go Go.RowKit Go.Maps

/-- What a call with the first of two disks leaves. -/
def Tw5R (P : Nat → Prop) (B a b : Nat) (v : Value) (D' Db : Dk.St) (w : World) (e : Ending) (w' : World) : Prop := e = .returned v ∧ Two5 P B a b D' Db w' ∧ Wr (fun k => B ≤ k ∧ ¬ P k) w w'
section
variable {P : Nat → Prop} {B a b : Nat} {Da Db : Dk.St} {w : World}
theorem Two5.doneA (h : Two5 P B a b Da Db w) (r : Ra) (hr : RaIn r) (hk : NsA5 w r.o r.keep) (hkB : ∀ x, r.keep ≠ [] → r.o = some x → x.block < B) (hs : Da.starts ≤ 1000000000) :
    Calls Try.prog 20 #[.pointer (some ⟨a, 0, none⟩), .agg #[.int .u8 r.kind, .string (S r.name), .string (S r.other), .string (S r.data), .int .i64 r.n, .slice r.o r.keep.length r.k]] w (Tw5R P B a b (.int .i64 (Dk.act r Da).1) (Dk.act r Da).2 Db w) := by
  obtain ⟨X, h1, h2, h3, h4⟩ := h.fst
  exact (done5 h1 h2 h3 r hr hk (fun x hn hx => .inr (hkB x hn hx)) hs).mono fun e w' ⟨q1, q2, q3⟩ => ⟨q1, (h4 _ _ q2 q3).1, (h4 _ _ q2 q3).2⟩
theorem Two5.doneB (h : Two5 P B a b Da Db w) (r : Ra) (hr : RaIn r) (hk : NsA5 w r.o r.keep) (hkB : ∀ x, r.keep ≠ [] → r.o = some x → x.block < B) (hs : Db.starts ≤ 1000000000) :
    Calls Try.prog 20 #[.pointer (some ⟨b, 0, none⟩), .agg #[.int .u8 r.kind, .string (S r.name), .string (S r.other), .string (S r.data), .int .i64 r.n, .slice r.o r.keep.length r.k]] w fun e w' => e = .returned (.int .i64 (Dk.act r Db).1) ∧ Two5 P B a b Da (Dk.act r Db).2 w' ∧ Wr (fun k => B ≤ k ∧ ¬ P k) w w' :=
  (h.swap.doneA r hr hk hkB hs).mono fun e w' ⟨q1, q2, q3⟩ => ⟨q1, q2.swap, q3⟩
theorem Two5.readyA (h : Two5 P B a b Da Db w) (hs : Da.starts ≤ 1000) :
    Calls Try.prog 38 #[.pointer (some ⟨a, 0, none⟩)] w (Tw5R P B a b (.bool true) (Dk.ready Da) Db w) := by
  obtain ⟨X, h1, h2, h3, h4⟩ := h.fst
  exact (ready5 h1 h2 h3 hs).mono fun e w' ⟨q1, q2, q3⟩ => ⟨q1, (h4 _ _ q2 q3).1, (h4 _ _ q2 q3).2⟩
theorem Two5.readyB (h : Two5 P B a b Da Db w) (hs : Db.starts ≤ 1000) :
    Calls Try.prog 38 #[.pointer (some ⟨b, 0, none⟩)] w fun e w' => e = .returned (.bool true) ∧ Two5 P B a b Da (Dk.ready Db) w' ∧ Wr (fun k => B ≤ k ∧ ¬ P k) w w' :=
  (h.swap.readyA hs).mono fun e w' ⟨q1, q2, q3⟩ => ⟨q1, q2.swap, q3⟩
theorem Two5.failA (h : Two5 P B a b Da Db w) (m : Nat) (hm : m ≤ 1000) (ks : List Int) (ko : Option Addr) (kc : Nat) (hK : Dk.KsOk ks) (hk : NsA5 w ko ks) (hu : Da.up = true) :
    Calls Try.prog 39 #[.pointer (some ⟨a, 0, none⟩), .int .i64 (m : Int), .slice ko ks.length kc] w (Tw5R P B a b (.int .i64 0) (Dk.wset Da (some (m, ks))) Db w) := by
  obtain ⟨X, h1, h2, h3, h4⟩ := h.fst
  have e1 : Dk.fail (m : Int) ks Da = (0, Dk.wset Da (some (m, ks))) := by unfold Dk.fail; rw [if_neg (by rw [hu]; decide), if_neg (by omega)]; rfl
  refine (failX h1 h2 h3 (m : Int) ks ko kc (by omega) hK hk).mono fun e w' ⟨q1, q2, q3⟩ => ?_
  rw [e1] at q1 q2
  exact ⟨q1, (h4 _ _ q2 q3).1, (h4 _ _ q2 q3).2⟩
theorem Two5.startA (h : Two5 P B a b Da Db w) (hu : Da.up = false) (hs : Da.starts ≤ 1000) :
    Calls Try.prog 35 #[.pointer (some ⟨a, 0, none⟩)] w (Tw5R P B a b (.int .i64 0) (Dk.woke Da) Db w) := by
  obtain ⟨X, h1, h2, h3, h4⟩ := h.fst
  refine (startX h1 h2 h3 (by omega)).mono fun e w' ⟨q1, q2, q3⟩ => ?_
  rw [Dk.start_down hu] at q1 q2
  exact ⟨q1, (h4 _ _ q2 q3).1, (h4 _ _ q2 q3).2⟩
theorem Two5.namesA (h : Two5 P B a b Da Db w) : Calls Try.prog 27 #[.pointer (some ⟨a, 0, none⟩)] w (RowT (Dk.names Da.L) w) := by obtain ⟨X, h1⟩ := h.tell; exact namesX h1
theorem Two5.namesB (h : Two5 P B a b Da Db w) : Calls Try.prog 27 #[.pointer (some ⟨b, 0, none⟩)] w (RowT (Dk.names Db.L) w) := h.swap.namesA
theorem Two5.textsA (h : Two5 P B a b Da Db w) (hu : Da.up = true) : Calls Try.prog 36 #[.pointer (some ⟨a, 0, none⟩)] w (RowT (Dk.dats Da.L) w) := by obtain ⟨X, h1⟩ := h.tell; exact texts5 h1 hu
theorem Two5.textsB (h : Two5 P B a b Da Db w) (hu : Db.up = true) : Calls Try.prog 36 #[.pointer (some ⟨b, 0, none⟩)] w (RowT (Dk.dats Db.L) w) := h.swap.textsA hu
theorem Two5.unsyncedA (h : Two5 P B a b Da Db w) : Calls Try.prog 28 #[.pointer (some ⟨a, 0, none⟩)] w (RowN (Dk.unsynced Da.L) w) := by obtain ⟨X, h1⟩ := h.tell; exact unsyncedX h1
theorem Two5.unsyncedB (h : Two5 P B a b Da Db w) : Calls Try.prog 28 #[.pointer (some ⟨b, 0, none⟩)] w (RowN (Dk.unsynced Db.L) w) := h.swap.unsyncedA
theorem Two5.upA (h : Two5 P B a b Da Db w) : Calls Try.prog 30 #[.pointer (some ⟨a, 0, none⟩)] w fun e w' => e = .returned (.bool Da.up) ∧ w = w' := by obtain ⟨X, h1⟩ := h.tell; exact upX h1
theorem Two5.begunA (h : Two5 P B a b Da Db w) (hu : Da.up = true) (no to_ : Option Addr) (nc tc : Nat) (ns dt : List (List UInt8)) (hns : ns = Dk.names Da.L) (hdl : dt.length = Da.L.length) (hsm : ∀ s ∈ dt, s.length ≤ 1048576)
    (hn : TsA5 w no ns) (ht : TsA5 w to_ dt) (hbeg : Beg5 (Dk.dats Da.L) dt) : Calls Try.prog 40 #[.pointer (some ⟨a, 0, none⟩), .slice no Da.L.length nc, .slice to_ Da.L.length tc] w fun e w' => e = .returned (.bool true) ∧ Below w.heap.size w w' := by
  obtain ⟨X, h1⟩ := h.tell
  exact begun5 h1 hu no to_ nc tc ns dt hns hdl hsm hn ht hbeg
end
theorem dats_small5 {D : Dk.St} (h : Dk.Ok D) : ∀ s ∈ Dk.dats D.L, s.length ≤ 1048576 := fun s hs => by
  unfold Dk.dats at hs
  obtain ⟨f, hf, rfl⟩ := List.mem_map.1 hs
  exact Nat.le_trans (Dk.mem_size h.l hf) (Nat.le_trans h.room h.most)

end Go.Proofs.Ytekmnpmeienhhaa
