/- Layer 5: a disk beside blocks that it may not write; acts. -/
import Derived.Test.YtekmnpmeienhhaaDiskV
namespace Go.Proofs.Ytekmnpmeienhhaa
set_option linter.unusedVariables false
open Go Go.RowKit Go.Maps

/-- A disk that has none of some blocks. -/
def DkX (X : Nat → Prop) (B d : Nat) (D : Dk.St) (w : World) : Prop := ∃ F, DkAt B F d D w ∧ ∀ k, F k → ¬ X k
def OpX (X : Nat → Prop) (B d : Nat) (r : Int × Dk.St) (w : World) (e : Ending) (w' : World) : Prop := e = .returned (.int .i64 r.1) ∧ DkX X B d r.2 w' ∧ Wr (fun k => B ≤ k ∧ ¬ X k) w w'
section
variable {X : Nat → Prop} {B d : Nat} {D : Dk.St} {w w' : World}
theorem DkX.below (h : DkX X B d D w) (hb : Below w.heap.size w w') : DkX X B d D w' := by
  obtain ⟨F, h1, h2⟩ := h
  exact ⟨F, h1.below hb, h2⟩
theorem DkX.more {X' : Nat → Prop} (h : DkX X B d D w) (hX : ∀ k, X' k → X k ∨ w.heap.size ≤ k) : DkX X' B d D w := by
  obtain ⟨F, h1, h2⟩ := h
  refine ⟨F, h1, fun k hk hx => ?_⟩
  rcases hX k hx with q | q
  · exact h2 k hk q
  · obtain ⟨_, _, _, _, _, _, _, h3⟩ := h1
    have := (h3 k hk).2
    omega
theorem DkX.ok (h : DkX X B d D w) : Dk.Ok D := by obtain ⟨F, h1, _⟩ := h; exact h1.ok
theorem DkX.wr {A : Nat → Prop} (h : DkX X B d D w) (hw : Wr A w w') (hA : ∀ k, A k → X k) : DkX X B d D w' := by
  obtain ⟨F, h1, h2⟩ := h
  exact ⟨F, h1.wr hw (fun b hb ha => h2 b hb (hA b ha)), h2⟩
theorem opX_of {F : Nat → Prop} {r : Int × Dk.St} {e : Ending} (h : DkAt B F d D w) (hF : ∀ k, F k → ¬ X k) (hX : ∀ k, X k → k < w.heap.size) (hR : OpR B F d r w e w') : OpX X B d r w e w' := by
  obtain ⟨h1, h2, h3⟩ := hR
  obtain ⟨_, _, _, _, _, _, _, h4⟩ := h
  refine ⟨h1, ⟨_, h2, fun k hk hx => ?_⟩, h3.mono (fun k hk => .inl ⟨(h4 k hk).1, hF k hk⟩)⟩
  rcases hk with q | q
  · exact hF k q hx
  · have := hX k hx; omega
theorem appendX (h : DkX X B d D w) (hX : ∀ k, X k → k < w.heap.size) (hB : B ≤ w.heap.size) (nm s : List UInt8) (hl : nm.length ≤ 140737488351232) (hs : s.length ≤ 140737488351232) : Calls Try.prog 32 #[.pointer (some ⟨d, 0, none⟩), .string (S nm), .string (S s)] w (OpX X B d (Dk.append nm s D) w) := by
  obtain ⟨F, h1, h2⟩ := h
  exact (append5 h1 hB nm s hl hs).mono fun e w' hr => opX_of h1 h2 hX hr
theorem syncX (h : DkX X B d D w) (hX : ∀ k, X k → k < w.heap.size) (hB : B ≤ w.heap.size) (nm : List UInt8) (hl : nm.length ≤ 140737488351232) : Calls Try.prog 41 #[.pointer (some ⟨d, 0, none⟩), .string (S nm)] w (OpX X B d (Dk.sync nm D) w) := by
  obtain ⟨F, h1, h2⟩ := h
  exact (sync5 h1 hB nm hl).mono fun e w' hr => opX_of h1 h2 hX hr
theorem removeX (h : DkX X B d D w) (hX : ∀ k, X k → k < w.heap.size) (hB : B ≤ w.heap.size) (nm : List UInt8) (hl : nm.length ≤ 140737488351232) : Calls Try.prog 43 #[.pointer (some ⟨d, 0, none⟩), .string (S nm)] w (OpX X B d (Dk.remove nm D) w) := by
  obtain ⟨F, h1, h2⟩ := h
  exact (remove5 h1 hB nm hl).mono fun e w' hr => opX_of h1 h2 hX hr
theorem renameX (h : DkX X B d D w) (hX : ∀ k, X k → k < w.heap.size) (hB : B ≤ w.heap.size) (nm to : List UInt8) (hl : nm.length ≤ 140737488351232) (hl2 : to.length ≤ 140737488351232) : Calls Try.prog 42 #[.pointer (some ⟨d, 0, none⟩), .string (S nm), .string (S to)] w (OpX X B d (Dk.rename nm to D) w) := by
  obtain ⟨F, h1, h2⟩ := h
  exact (rename5 h1 hB nm to hl hl2).mono fun e w' hr => opX_of h1 h2 hX hr
theorem crashX (h : DkX X B d D w) (hX : ∀ k, X k → k < w.heap.size) (hB : B ≤ w.heap.size) (ks : List Int) (ao : Option Addr) (cap : Nat) (hK : Dk.KsOk ks) (hk : NsA5 w ao ks) (hkX : ∀ a, ks ≠ [] → ao = some a → X a.block ∨ a.block < B) : Calls Try.prog 37 #[.pointer (some ⟨d, 0, none⟩), .slice ao ks.length cap] w (OpX X B d (Dk.crash ks D) w) := by
  obtain ⟨F, h1, h2⟩ := h
  have h4 := h1.2
  obtain ⟨_, _, _, _, _, _, h3⟩ := h4
  refine (crash5 h1 hB ks ao cap hK hk (fun a hn ha hf => ?_)).mono fun e w' hr => opX_of h1 h2 hX hr
  rcases hkX a hn ha with q | q
  · exact h2 _ hf q
  · have := (h3 _ hf).1; omega
theorem failX (h : DkX X B d D w) (hX : ∀ k, X k → k < w.heap.size) (hB : B ≤ w.heap.size) (n : Int) (ks : List Int) (ao : Option Addr) (cap : Nat) (hn : n ≤ 9223372036854775807) (hK : Dk.KsOk ks) (hk : NsA5 w ao ks) : Calls Try.prog 39 #[.pointer (some ⟨d, 0, none⟩), .int .i64 n, .slice ao ks.length cap] w (OpX X B d (Dk.fail n ks D) w) := by
  obtain ⟨F, h1, h2⟩ := h
  exact (fail5 h1 hB n ks ao cap hn hK hk).mono fun e w' hr => opX_of h1 h2 hX hr
theorem startX (h : DkX X B d D w) (hX : ∀ k, X k → k < w.heap.size) (hB : B ≤ w.heap.size) (hs : D.starts ≤ 1000000000) : Calls Try.prog 35 #[.pointer (some ⟨d, 0, none⟩)] w (OpX X B d (Dk.start D) w) := by
  obtain ⟨F, h1, h2⟩ := h
  exact (start5 h1 hB hs).mono fun e w' hr => opX_of h1 h2 hX hr
theorem readX (h : DkX X B d D w) (nm : List UInt8) (hl : nm.length ≤ 140737488351232) : Calls Try.prog 26 #[.pointer (some ⟨d, 0, none⟩), .string (S nm)] w fun e w' => e = .returned (.tuple #[.string (S (Dk.read nm D).2), .int .i64 (Dk.read nm D).1]) ∧ Below w.heap.size w w' := by
  obtain ⟨F, h1, _⟩ := h; exact read5 h1 nm hl
theorem syncedX (h : DkX X B d D w) (nm : List UInt8) (hl : nm.length ≤ 140737488351232) : Calls Try.prog 23 #[.pointer (some ⟨d, 0, none⟩), .string (S nm)] w fun e w' => e = .returned (.int .i64 (Dk.get nm D.L).safe) ∧ w = w' := by
  obtain ⟨F, h1, _⟩ := h; exact synced5 h1 nm hl
theorem namesX (h : DkX X B d D w) : Calls Try.prog 27 #[.pointer (some ⟨d, 0, none⟩)] w (RowT (Dk.names D.L) w) := by obtain ⟨F, h1, _⟩ := h; exact names5 h1
theorem unsyncedX (h : DkX X B d D w) : Calls Try.prog 28 #[.pointer (some ⟨d, 0, none⟩)] w (RowN (Dk.unsynced D.L) w) := by obtain ⟨F, h1, _⟩ := h; exact unsynced5 h1
theorem upX (h : DkX X B d D w) : Calls Try.prog 30 #[.pointer (some ⟨d, 0, none⟩)] w fun e w' => e = .returned (.bool D.up) ∧ w = w' := by obtain ⟨F, h1, _⟩ := h; exact up5 h1
theorem startsX (h : DkX X B d D w) : Calls Try.prog 31 #[.pointer (some ⟨d, 0, none⟩)] w fun e w' => e = .returned (.int .i64 D.starts) ∧ w = w' := by obtain ⟨F, h1, _⟩ := h; exact starts5 h1
theorem sizeX (h : DkX X B d D w) : Calls Try.prog 29 #[.pointer (some ⟨d, 0, none⟩)] w fun e w' => e = .returned (.int .i64 (Dk.size D.L)) ∧ w = w' := by obtain ⟨F, h1, _⟩ := h; exact size5 h1
/-- A new disk. -/
def NewXd5 (n : Nat) (w : World) (e : Ending) (w' : World) : Prop := ∃ d, e = .returned (.tuple #[.pointer (some ⟨d, 0, none⟩), .int .i64 0]) ∧ DkX (fun _ => False) w.heap.size d (Dk.new n) w' ∧ Below w.heap.size w w' ∧ w.heap.size ≤ d
theorem newXd5 (n : Nat) (w : World) (h1 : 1 ≤ n) (h2 : n ≤ 1048576) : Calls Try.prog 17 #[.int .i64 n] w (NewXd5 n w) :=
  (new_yes5 n w h1 h2).mono fun e w' ⟨d, he, hk, hb⟩ => ⟨d, he, ⟨_, hk, fun _ _ q => q⟩, hb, by
    obtain ⟨_, mb, V, sv, c, _, h3, h4⟩ := hk
    exact (h4 d (h3 d (.inl rfl))).1⟩
end

/-- An act. -/
structure Ra where
  kind : Int
  name : List UInt8
  other : List UInt8
  data : List UInt8
  n : Int
  keep : List Int
  o : Option Addr
  k : Nat
def ra0 : Ra := ⟨0, [], [], [], 0, [], none, 0⟩
def raA (r : Ra) : Array Value := #[.int .u8 r.kind, .string (S r.name), .string (S r.other), .string (S r.data), .int .i64 r.n, .slice r.o r.keep.length r.k]
def Dk.act (r : Ra) (D : Dk.St) : Int × Dk.St :=
  if r.kind % 12 = 4 ∨ r.kind % 12 = 5 then Dk.sync r.name D
  else if r.kind % 12 = 6 then Dk.rename r.name r.other D
  else if r.kind % 12 = 7 then Dk.remove r.name D
  else if r.kind % 12 = 8 then Dk.crash r.keep D
  else if r.kind % 12 = 9 ∨ r.kind % 12 = 10 then Dk.start D
  else if r.kind % 12 = 11 then Dk.fail r.n r.keep D
  else Dk.append r.name r.data D
/-- An act whose parts are what is gone through. -/
structure RaIn (r : Ra) : Prop where
  kind : 0 ≤ r.kind ∧ r.kind ≤ 255
  name : r.name.length ≤ 140737488351232
  other : r.other.length ≤ 140737488351232
  data : r.data.length ≤ 140737488351232
  n : r.n ≤ 9223372036854775807
  keep : Dk.KsOk r.keep
section
variable {X : Nat → Prop} {B d : Nat} {D : Dk.St} {w w' : World}
set_option maxRecDepth 100000 in
set_option maxHeartbeats 4000000 in
theorem done5 (h : DkX X B d D w) (hX : ∀ k, X k → k < w.heap.size) (hB : B ≤ w.heap.size) (r : Ra) (hr : RaIn r) (hk : NsA5 w r.o r.keep) (hkX : ∀ a, r.keep ≠ [] → r.o = some a → X a.block ∨ a.block < B) (hs : D.starts ≤ 1000000000) :
    Calls Try.prog 20 #[.pointer (some ⟨d, 0, none⟩), .agg (raA r)] w (OpX X B d (Dk.act r D) w) := by
  have hb := (Below.refl w.heap.size w).alloc (Nat.le_refl _) (.cells (raA r) 34)
  have h' := h.below hb
  have hX' : ∀ k, X k → k < (w.alloc (.cells (raA r) 34)).heap.size := fun k hk => Nat.lt_of_lt_of_le (hX k hk) hb.size
  have hB' := Nat.le_trans hB hb.size
  have fin : ∀ (q : Int × Dk.St) (e : Ending) (w2 : World), OpX X B d q (w.alloc (.cells (raA r) 34)) e w2 → OpX X B d q w e w2 := fun q e w2 ⟨a, b, c⟩ => ⟨a, b, (wr_below hb).trans c⟩
  have FIN := Lib.hid fin
  have C1 := Lib.hid (syncX h' hX' hB' r.name hr.name)
  have C2 := Lib.hid (renameX h' hX' hB' r.name r.other hr.name hr.other)
  have C3 := Lib.hid (removeX h' hX' hB' r.name hr.name)
  have C4 := Lib.hid (crashX h' hX' hB' r.keep r.o r.k hr.keep (hk.below hb) hkX)
  have C5 := Lib.hid (startX h' hX' hB' hs)
  have C6 := Lib.hid (failX h' hX' hB' r.n r.keep r.o r.k hr.n hr.keep (hk.below hb))
  have C7 := Lib.hid (appendX h' hX' hB' r.name r.data hr.name hr.data)
  obtain ⟨hk0, hk1⟩ := hr.kind
  clear h h' hX hX' hB hB' hk hkX hs hr hb fin
  have hm : ∃ m : Nat, r.kind % 12 = (m : Int) ∧ m < 12 := ⟨(r.kind % 12).toNat, by omega, by omega⟩
  obtain ⟨m, hm, hlt⟩ := hm
  have HD := Lib.hid (show Dk.act r D = if (m : Int) = 4 ∨ (m : Int) = 5 then Dk.sync r.name D else if (m : Int) = 6 then Dk.rename r.name r.other D else if (m : Int) = 7 then Dk.remove r.name D else if (m : Int) = 8 then Dk.crash r.keep D else if (m : Int) = 9 ∨ (m : Int) = 10 then Dk.start D else if (m : Int) = 11 then Dk.fail r.n r.keep D else Dk.append r.name r.data D from by unfold Dk.act; rw [hm])
  unfold raA at *
  have hcs : m = 0 ∨ m = 1 ∨ m = 2 ∨ m = 3 ∨ m = 4 ∨ m = 5 ∨ m = 6 ∨ m = 7 ∨ m = 8 ∨ m = 9 ∨ m = 10 ∨ m = 11 := by omega
  clear hlt
  rcases hcs with rfl | rfl | rfl | rfl | rfl | rfl | rfl | rfl | rfl | rfl | rfl | rfl
  all_goals
    go_enter Try.func20, Try.ntmps20
    go_wp2_with fail
    with_reducible first
      | refine C1.out.mono ?_
      | refine C2.out.mono ?_
      | refine C3.out.mono ?_
      | refine C4.out.mono ?_
      | refine C5.out.mono ?_
      | refine C6.out.mono ?_
      | refine C7.out.mono ?_
    rintro e w2 hR
    have HR := Lib.hid (FIN.out _ _ _ hR)
    obtain ⟨rfl, -, -⟩ := hR
    go_wp2_with fail
    go_ret
    rw [HD.out]
    exact HR.out
end

end Go.Proofs.Ytekmnpmeienhhaa
