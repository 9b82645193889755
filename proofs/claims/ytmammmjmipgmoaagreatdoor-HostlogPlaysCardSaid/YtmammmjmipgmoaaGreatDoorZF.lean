import Derived.Test.YtmammmjmipgmoaaGreatDoorZC
import Derived.Laws.AppendOwn
import Derived.Test.YtmammmjmipgmoaaGreatDoorZA
import Derived.Maps.OwnSet
import Derived.Maps.AppendAt
import Derived.Lib.AppendStr
import Derived.Lib.Hide
import Derived.Test.YtmammmjmipgmoaaGreatDoorZQh
set_option linter.unusedVariables false
set_option maxRecDepth 100000
set_option maxHeartbeats 16000000
namespace Go.Proofs.YtmammmjmipgmoaaGreatDoor
section
open Go Go.RowKit
attribute [local go_sem ↓] run_index_S
attribute [local go_sem] S_append S_extract
def SpOff (x : M.Sp) (w : World) (g o : Nat) : Prop :=
 w.cell? ⟨g, o, none⟩ = some (.int .i64 x.trace) ∧ w.cell? ⟨g, o + 1, none⟩ = some (.int .i64 x.id) ∧ w.cell? ⟨g, o + 2, none⟩ = some (.int .i64 x.parent) ∧ w.cell? ⟨g, o + 3, none⟩ = some (.string (S x.svc)) ∧
 w.cell? ⟨g, o + 4, none⟩ = some (.string (S x.host)) ∧ w.cell? ⟨g, o + 5, none⟩ = some (.int .i64 x.start) ∧ w.cell? ⟨g, o + 6, none⟩ = some (.int .i64 x.dur) ∧ w.cell? ⟨g, o + 7, none⟩ = some (.string (S x.note))
theorem SpOff.below {x : M.Sp} {w w' : World} {g o : Nat} (h : SpOff x w g o) (hb : Below w.heap.size w w') : SpOff x w' g o := by
 have k := fun {a v} (h : w.cell? a = some v) => (hb.cell (p := a) (block_lt_of_cell h)).trans h
 obtain ⟨h0, h1, h2, h3, h4, h5, h6, h7⟩ := h;exact ⟨k h0, k h1, k h2, k h3, k h4, k h5, k h6, k h7⟩
def SpsAt (w : World) (ao : Option Addr) (L : List M.Sp) : Prop := L ≠ [] → ∃ g off, ao = some ⟨g, off, none⟩ ∧ ∀ j, j < L.length → SpOff (L.getD j M.sp0) w g (off + j * 8)
theorem SpsAt.below {w w' : World} {ao : Option Addr} {L : List M.Sp} (h : SpsAt w ao L) (hb : Below w.heap.size w w') : SpsAt w' ao L := fun hn => by
 obtain ⟨g, off, e, hc⟩ := h hn;exact ⟨g, off, e, fun j hj => (hc j hj).below hb⟩
theorem SpsAt.off {w : World} {ao : Option Addr} {L : List M.Sp} (h : SpsAt w ao L) (j : Nat) (hj : j < L.length) : ∃ g off, ao = some ⟨g, off, none⟩ ∧ SpOff (L.getD j M.sp0) w g (off + j * 8) := by
 obtain ⟨g, off, e, hc⟩ := h (fun h => by rw [h] at hj; simp at hj);exact ⟨g, off, e, hc j hj⟩
end
section
open Go Go.RowKit
attribute [local go_sem ↓] run_index_S
attribute [local go_sem] S_append S_extract
section
variable {C : Array Value} {T : TypeId} {w : World}
theorem RowIn.rowP {D : Array Value} {b : Nat} (h : RowIn C T w b) : RowIn D T (w.setRow b D) b := setRow_heap w b _ _ _ _ h
theorem RowIn.aboveP {D : Array Value} {b c : Nat} (h : RowIn C T w b) (hlt : b < c) : RowIn C T (w.setRow c D) b := by
 have := below_setRow (Below.refl c w) (Nat.le_refl _) D;exact (this.block b hlt).trans h
end
theorem szA (w : World) (o : Obj) : (w.alloc o).heap.size = w.heap.size + 1 := by simp
theorem Jdk {ops : Array Oper} {rest : List Oper} {o : Oper} {a : Act} {w : World} {Q : Exit → Act → World → Prop} (hgd : o.guard = none) (ty : TypeId) (x y : Operand) (ho : o.op = .store ty x y)
  (g : Nat) (cells : Array Value) (hx : a.eval x = .pointer (some ⟨g, 0, none⟩)) (hy : a.eval y = .agg cells)
  (t : TypeId) (old : Array Value) (hg : RowIn old t w g) (hi : (Tryz.prog.info? ty).map (·.size) = some cells.size)
  (hold : old.size = cells.size) (h1 : cells.all (·.oneCell') = true)
  (h : ∀ w', RowIn cells t w' g → (∀ B0 W0, B0 ≤ g → Below B0 W0 w → Below B0 W0 w') → (∀ C T b, b < g → RowIn C T w b → RowIn C T w' b) → w'.heap.size = w.heap.size → wpList Tryz.prog ops Q rest (a.put o.dst undef) w') :
  wpList Tryz.prog ops Q (o :: rest) a w := by
 refine wpList_store_row hgd ty x y ho g cells hx hy t old hg hi hold h1 (h _ (RowIn.rowP hg) (fun B0 W0 hB hb => below_setRow hb hB _) (fun C T b hlt hr => RowIn.aboveP hr hlt) ?_);simp [World.setRow]
end
section
open Go Go.RowKit
def spL (x : M.Sp) : List Value := [.int .i64 x.trace, .int .i64 x.id, .int .i64 x.parent, .string (S x.svc), .string (S x.host), .int .i64 x.start, .int .i64 x.dur, .string (S x.note)]
def sps (L : List M.Sp) : List Value := L.flatMap spL
theorem Jd8 (a b : List M.Sp) : sps (a ++ b) = sps a ++ sps b := by simp [sps]
theorem Jkg (x : M.Sp) : sps [x] = spL x := by simp [sps]
theorem Jpn (L : List M.Sp) (j i : Nat) (hj : j < L.length) (hi : i < 8) : (sps L)[j * 8 + i]? = (spL (L.getD j M.sp0))[i]? := by
 induction L generalizing j with
 | nil => simp at hj
 | cons m t ih =>
  rw [show sps (m :: t) = spL m ++ sps t from by simp [sps]];cases j with
  | zero => rw [List.getElem?_append_left (by simp [spL]; omega)]; simp
  | succ j =>
   rw [List.getElem?_append_right (by simp [spL]; omega), show (j + 1) * 8 + i - (spL m).length = j * 8 + i from by simp [spL]; omega, ih j (by simpa using hj)];simp
theorem infoSp : (Tryz.prog.info? 39).map (fun i => (i.zero.map (fun z => z.cells.size), i.size, i.bytes)) = some (some 8, 8, 88) := by kernel_rfl
theorem Jdl : ∃ (i0 : TypeInfo) (z : Value), Tryz.prog.info? 39 = some i0 ∧ i0.zero = some z ∧ i0.size = 8 ∧ i0.bytes = 88 ∧ z.cells.size = 8 := by
 have h := infoSp;cases hi : Tryz.prog.info? 39 with
 | none => rw [hi] at h; cases h
 | some i0 =>
  rw [hi] at h;cases hz : i0.zero with
  | none => simp [hz] at h
  | some z =>
   simp [hz] at h;exact ⟨i0, z, rfl, hz, h.2.1, h.2.2, h.1⟩
section
variable {B sz : Nat} {e : TypeId} {v : Value} {n : Nat} {xs : List Value} {w w' : World}
theorem Jbg (h : w.ownsRow B e sz v n xs) (hb : Below w.heap.size w w') : w'.ownsRow B e sz v n xs := by
 refine ⟨h.1, ?_⟩;rcases h.2 with hc | ⟨g, cap, cur, rfl, hBg, hgg, rest⟩
 ·exact .inl hc
 ·exact .inr ⟨g, cap, cur, rfl, hBg, by rw [hb.block g (Array.getElem?_eq_some_iff.1 hgg).1]; exact hgg, rest⟩
theorem Jf0 (h : w.ownsRow B e sz v n xs) : ∃ ao c, v = .slice ao n c := by
 rcases h.2 with ⟨rfl, rfl⟩ | ⟨g, cap, cur, rfl, _⟩
 ·exact ⟨_, _, rfl⟩
 ·exact ⟨_, _, rfl⟩
end
theorem Jg8 {B : Nat} {w : World} {ao : Option Addr} {cap n : Nat} {L : List M.Sp} {T : TypeId} (h : w.ownsRow B T 8 (.slice ao n cap) n (sps L)) (hn : n = L.length) : SpsAt w ao L := by
 subst hn;intro hne;rcases h.2 with ⟨_, h0⟩ | ⟨g, cap', cur, e, _, hg, _⟩
 ·exact absurd (List.eq_nil_of_length_eq_zero h0) hne
 ·injection e with e1 e2 e3
  subst e1;refine ⟨g, 0, rfl, fun j hj => ?_⟩;have hc := fun i u (hu : (sps L)[i]? = some u) => h.cells (g := g) rfl i u hu
  have ha : ∀ n : Nat, (⟨g, 0, none⟩ : Addr).add n = ⟨g, n, none⟩ := fun n => by unfold Addr.add; split <;> simp_all
  have k := fun i (hi : i < 8) => Jpn L j i hj hi
  simp only [ha] at hc;rw [Nat.zero_add];exact ⟨hc _ _ ((k 0 (by omega)).trans rfl), hc _ _ ((k 1 (by omega)).trans rfl), hc _ _ ((k 2 (by omega)).trans rfl), hc _ _ ((k 3 (by omega)).trans rfl), hc _ _ ((k 4 (by omega)).trans rfl), hc _ _ ((k 5 (by omega)).trans rfl), hc _ _ ((k 6 (by omega)).trans rfl), hc _ _ ((k 7 (by omega)).trans rfl)⟩
theorem Jmf (w : World) (x : M.Sp) (T : TypeId) : ∀ j u, (spL x)[j]? = some u → (w.alloc (.cells #[.int .i64 x.trace, .int .i64 x.id, .int .i64 x.parent, .string (S x.svc), .string (S x.host), .int .i64 x.start, .int .i64 x.dur, .string (S x.note)] T)).cell? ((⟨w.heap.size, 0, none⟩ : Addr).add j) = some u := by
 intro j u h;have hadd : (⟨w.heap.size, 0, none⟩ : Addr).add j = ⟨w.heap.size, j, none⟩ := by unfold Addr.add; split <;> simp_all
 rw [hadd, (Jg5 _ T w).cell j];simpa [spL] using h
theorem Jgh (x : M.Sp) : ∀ u ∈ spL x, u.oneCell' = true := by simp [spL, Value.oneCell']
end
section
open Go Go.RowKit
theorem M.sps_ext {L K : List M.Sp} (h : L.length = K.length) (hj : ∀ j, j < L.length → L.getD j M.sp0 = K.getD j M.sp0) : L = K := by
 apply List.ext_getElem h
 intro j h1 h2;have := hj j h1;simpa [List.getD, List.getElem?_eq_getElem h1, List.getElem?_eq_getElem h2] using this
theorem M.Sp.diff {x y : M.Sp} (h : ¬ x = y) : (¬ x.trace = y.trace) ∨ (x.trace = y.trace ∧ ¬ x.id = y.id) ∨ (x.trace = y.trace ∧ x.id = y.id ∧ ¬ x.parent = y.parent) ∨ (x.trace = y.trace ∧ x.id = y.id ∧ x.parent = y.parent ∧ ¬ x.svc = y.svc) ∨ (x.trace = y.trace ∧ x.id = y.id ∧ x.parent = y.parent ∧ x.svc = y.svc ∧ ¬ x.host = y.host) ∨ (x.trace = y.trace ∧ x.id = y.id ∧ x.parent = y.parent ∧ x.svc = y.svc ∧ x.host = y.host ∧ ¬ x.start = y.start) ∨ (x.trace = y.trace ∧ x.id = y.id ∧ x.parent = y.parent ∧ x.svc = y.svc ∧ x.host = y.host ∧ x.start = y.start ∧ ¬ x.dur = y.dur) ∨ (x.trace = y.trace ∧ x.id = y.id ∧ x.parent = y.parent ∧ x.svc = y.svc ∧ x.host = y.host ∧ x.start = y.start ∧ x.dur = y.dur ∧ ¬ x.note = y.note) := by
 by_cases h0 : x.trace = y.trace
 case neg => exact .inl h0
 by_cases h1 : x.id = y.id
 case neg => exact .inr (.inl ⟨h0, h1⟩)
 by_cases h2 : x.parent = y.parent
 case neg => exact .inr (.inr (.inl ⟨h0, h1, h2⟩))
 by_cases h3 : x.svc = y.svc
 case neg => exact .inr (.inr (.inr (.inl ⟨h0, h1, h2, h3⟩)))
 by_cases h4 : x.host = y.host
 case neg => exact .inr (.inr (.inr (.inr (.inl ⟨h0, h1, h2, h3, h4⟩))))
 by_cases h5 : x.start = y.start
 case neg => exact .inr (.inr (.inr (.inr (.inr (.inl ⟨h0, h1, h2, h3, h4, h5⟩)))))
 by_cases h6 : x.dur = y.dur
 case neg => exact .inr (.inr (.inr (.inr (.inr (.inr (.inl ⟨h0, h1, h2, h3, h4, h5, h6⟩))))))
 by_cases h7 : x.note = y.note
 case neg => exact .inr (.inr (.inr (.inr (.inr (.inr (.inr (⟨h0, h1, h2, h3, h4, h5, h6, h7⟩)))))))
 exact absurd (M.Sp.ext' h0 h1 h2 h3 h4 h5 h6 h7) h
def SameR (p : Prop) (w : World) (e : Ending) (w' : World) : Prop := (p → e = .returned (.bool true)) ∧ (¬ p → e = .returned (.bool false)) ∧ Below w.heap.size w w'
theorem SameR.yes {p : Prop} (h : p) {w w' : World} (hb : Below w.heap.size w w') : SameR p w (.returned (.bool true)) w' := ⟨fun _ => rfl, fun k => absurd h k, hb⟩
theorem SameR.no {p : Prop} (h : ¬ p) {w w' : World} (hb : Below w.heap.size w w') : SameR p w (.returned (.bool false)) w' := ⟨fun k => absurd k h, fun _ => rfl, hb⟩
theorem Jhp {w : World} {ao bo : Option Addr} {L K : List M.Sp} (c1 c2 : Nat) (hL : SpsAt w ao L) (hK : SpsAt w bo K) (hl : L.length ≤ 140737488351232) (hk : K.length ≤ 140737488351232) :
  Calls Tryz.prog 34 #[.slice ao L.length c1, .slice bo K.length c2] w fun e w' => SameR (L = K) w e w' := by
 by_cases hlen : L.length = K.length
 ·have d0 : ¬ ((L.length : Int) ≠ (K.length : Int)) := by omega
  have d1 : ((L.length : Int) != (K.length : Int)) = false := by simp; omega
  have HL := Qh hL;have HK := Qh hK;have HN := Qh hlen;clear hL hK hlen;go_enter Tryz.func34, Tryz.ntmps34;go_wp2_with fail;go_loopw [5] (fun i wr => ∃ k : Nat, k ≤ L.length ∧ i = .int .i64 k ∧ (∀ j, j < k → L.getD j M.sp0 = K.getD j M.sp0) ∧ Below w.heap.size w wr) (fun i _ => L.length - (intOf i).toNat)
  case atStart => exact ⟨0, by omega, rfl, fun j hj => by omega, Below.refl _ _⟩
  case round =>
   rename_i wr
   obtain ⟨k, hkl, rfl, hj, hb⟩ := hrel;have HJ := Qh hj;have HW := Qh hb;clear hj;by_cases hlt : k < L.length
   ·have hd : decide ((k : Int) < (L.length : Int)) = true := by simp; omega
    obtain ⟨g, off, rfl, hc⟩ := (HL.o.below hb).off k hlt;obtain ⟨g', off', rfl, hc'⟩ := (HK.o.below hb).off k (by have := HN.o; omega);obtain ⟨x0, x1, x2, x3, x4, x5, x6, x7⟩ := hc;obtain ⟨y0, y1, y2, y3, y4, y5, y6, y7⟩ := hc';have hkk : (k : Int) < (K.length : Int) := by have := HN.o; omega
    by_cases hxy : L.getD k M.sp0 = K.getD k M.sp0
    ·rw [← hxy] at y0 y1 y2 y3 y4 y5 y6 y7
     clear hb;generalize hxe : L.getD k M.sp0 = x at *;have HXE := Qh hxe;have HYE := Qh hxy.symm;clear hxe hxy;go_wp2_with fail;go_region
     go_wp2_with fail;go_roundw
     case rel => exact ⟨k + 1, by omega, by go_num, fun j hj => by
      by_cases e : j = k
      ·rw [e, HXE.o, HYE.o]
      ·exact HJ.o j (by omega), HW.o.drew⟩
     case measure => simp [intOf]; omega
    ·clear hb
     have HX := Qh (show ¬ L = K from fun h => hxy (by rw [h]));generalize L.getD k M.sp0 = x at *;generalize K.getD k M.sp0 = y at *;rcases M.Sp.diff hxy with h | h | h | h | h | h | h | h
     all_goals
      clear hxy
      (try obtain ⟨h1, h⟩ := h)
      (try obtain ⟨h2, h⟩ := h)
      (try obtain ⟨h3, h⟩ := h)
      (try obtain ⟨h4, h⟩ := h)
      (try obtain ⟨h5, h⟩ := h)
      (try obtain ⟨h6, h⟩ := h)
      (try obtain ⟨h7, h⟩ := h)
      go_wp2_with fail;go_region
      go_wp2_with fail;go_ret;exact SameR.no HX.o HW.o.drew
   ·obtain rfl : k = L.length := by omega
    have hd : decide ((L.length : Int) < (L.length : Int)) = false := by simp
    go_wp2_with fail;go_ret;exact SameR.yes (M.sps_ext HN.o HJ.o) HW.o
 ·have d1 : ((L.length : Int) != (K.length : Int)) = true := by simp; omega
  have HN := Qh hlen;clear hlen hL hK;go_enter Tryz.func34, Tryz.ntmps34;go_wp2_with fail;go_ret;exact SameR.no (fun h => HN.o (by rw [h])) (Below.refl _ _)
end
section
open Go Go.RowKit
structure Wr (A : Nat → Prop) (w w' : World) : Prop where
 os : w'.os = w.os
 tape : w'.tape = w.tape
 output : w'.output = w.output
 size : w.heap.size ≤ w'.heap.size
 block : ∀ k, k < w.heap.size → ¬ A k → w'.heap[k]? = w.heap[k]?
section
variable {A A' : Nat → Prop} {a b c w w' : World}
theorem Wr.refl (A : Nat → Prop) (w : World) : Wr A w w := ⟨rfl, rfl, rfl, Nat.le_refl _, fun _ _ _ => rfl⟩
theorem Wr.step (h : Wr A a b) (k : Wr A' b c) (hA : ∀ x, A' x → A x ∨ a.heap.size ≤ x) : Wr A a c :=
 ⟨k.os.trans h.os, k.tape.trans h.tape, k.output.trans h.output, Nat.le_trans h.size k.size, fun i hi hn => (k.block i (Nat.lt_of_lt_of_le hi h.size) (fun hx => by
  rcases hA i hx with q | q
  ·exact hn q
  ·omega)).trans (h.block i hi hn)⟩
theorem Wr.trans (h : Wr A a b) (k : Wr A b c) : Wr A a c := h.step k (fun _ q => .inl q)
theorem Wr.mono (h : Wr A a b) (hA : ∀ x, A x → A' x ∨ a.heap.size ≤ x) : Wr A' a b :=
 ⟨h.os, h.tape, h.output, h.size, fun k hk hn => h.block k hk (fun hx => by
  rcases hA k hx with q | q
  ·exact hn q
  ·omega)⟩
theorem Jad (h : Below a.heap.size a b) : Wr A a b := ⟨h.os, h.tape, h.output, h.size, fun k hk _ => h.block k hk⟩
theorem Jby {row : Option Nat} (h : a.grownBy b row) (hr : ∀ q, row = some q → A q ∨ a.heap.size ≤ q) : Wr A a b :=
 ⟨h.os, h.tape, h.output, h.size, fun k hk hn => h.block k hk (fun e => by
  rcases hr k e.symm with q | q
  ·exact hn q
  ·omega)⟩
theorem Jai (w : World) (p : Addr) (v : Value) (hp : A p.block) : Wr A w (w.setCell p v) :=
 ⟨rfl, rfl, rfl, by simp [World.setCell], fun k hk hn => Below.heap_setCell _ _ _ _ (fun e => hn (e ▸ hp))⟩
theorem Jcv (w : World) (o : Obj) : Wr A w (w.alloc o) := Jad (Qa _)
theorem Wr.below (h : Wr A a b) {B : Nat} (hA : ∀ k, A k → B ≤ k) (hB : B ≤ a.heap.size) : Below B a b :=
 ⟨h.os, h.tape, h.output, h.size, fun k hk => h.block k (by omega) (fun hx => by have := hA k hx; omega)⟩
theorem Wr.drew (h : Wr A a b) : Wr A a b.drew := ⟨h.os, h.tape, h.output, h.size, h.block⟩
end
def Bk (C : Array Value) (T : TypeId) (w : World) (b : Nat) : Prop := w.heap[b]? = some (.cells C T (0, 0))
section
variable {C : Array Value} {T : TypeId} {w w' : World} {b : Nat} {A : Nat → Prop}
theorem Bk.lt (h : Bk C T w b) : b < w.heap.size := by
 rcases Nat.lt_or_ge b w.heap.size with h' | h'
 ·exact h'
 ·simp [Bk, Array.getElem?_eq_none h'] at h
theorem Bk.free (h : Bk C T w b) (j : Nat) : w.frozen? ⟨b, j, none⟩ = false := by
 unfold Bk at h;simp [World.frozen?, h]
theorem Bk.cell (h : Bk C T w b) (j : Nat) : w.cell? ⟨b, j, none⟩ = C[j]? := by
 unfold Bk at h;simp [World.cell?, h]
theorem Bk.below (h : Bk C T w b) (hb : Below w.heap.size w w') : Bk C T w' b := by
 have hl := h.lt;unfold Bk at *;rw [hb.block b hl]; exact h
theorem Bk.wr (h : Bk C T w b) (hb : Wr A w w') (hA : ¬ A b) : Bk C T w' b := by
 have hl := h.lt;unfold Bk at *;rw [hb.block b hl hA]; exact h
theorem Bk.grown {row : Option Nat} (h : Bk C T w b) (hg : w.grownBy w' row) (hne : some b ≠ row) : Bk C T w' b := by
 have hl := h.lt;unfold Bk at *;rw [hg.block b hl hne]; exact h
theorem Bk.other (h : Bk C T w b) {c : Nat} (hne : b ≠ c) (i : Nat) (v : Value) : Bk C T (w.setCell ⟨c, i, none⟩ v) b := by
 unfold Bk at *;rw [Below.heap_setCell _ _ _ _ hne]; exact h
theorem Bk.set (h : Bk C T w b) (i : Nat) (v : Value) : Bk (C.setIfInBounds i v) T (w.setCell ⟨b, i, none⟩ v) b := by
 unfold Bk at *;simp [World.setCell, Array.getElem?_modify, h]
theorem Bk.more (h : Bk C T w b) (o : Obj) : Bk C T (w.alloc o) b := h.below (Qa _)
theorem Bk.drew (h : Bk C T w b) : Bk C T w.drew b := h
end
theorem Jae (C : Array Value) (T : TypeId) (w : World) : Bk C T (w.alloc (.cells C T)) w.heap.size := heap_alloc_new w _
section
variable {w w' : World} {B sz : Nat} {e : TypeId} {v : Value} {n : Nat} {xs : List Value} {A : Nat → Prop}
theorem Jal (h : w.ownsRow B e sz v n xs) (hw : Wr A w w') (hA : ∀ q, v.ownBlock = some q → ¬ A q) : w'.ownsRow B e sz v n xs := by
 obtain ⟨h1, h2⟩ := h;refine ⟨h1, ?_⟩;rcases h2 with h2 | ⟨g, cap, cur, rfl, hg, hh, r⟩
 ·exact Or.inl h2
 ·have hl : g < w.heap.size := by
   rcases Nat.lt_or_ge g w.heap.size with q | q
   ·exact q
   ·rw [Array.getElem?_eq_none q] at hh; cases hh
  exact Or.inr ⟨g, cap, cur, rfl, hg, by rw [hw.block g hl (hA g rfl)]; exact hh, r⟩
theorem Jaf (h : w.ownsRow B e sz v n xs) (hb : Below w.heap.size w w') : w'.ownsRow B e sz v n xs :=
 Jal (A := fun _ => False) h (Jad hb) (fun _ _ q => q)
theorem Jac (h : w.ownsRow B e sz v n xs) : ∃ ao c, v = .slice ao n c := by
 rcases h.2 with ⟨rfl, rfl⟩ | ⟨g, cap, cur, rfl, _⟩
 ·exact ⟨_, _, rfl⟩
 ·exact ⟨_, _, rfl⟩
theorem Jaq (h : w.ownsRow B e sz v n xs) {B' : Nat} (hB : B' ≤ B) : w.ownsRow B' e sz v n xs := by
 refine ⟨h.1, ?_⟩;rcases h.2 with h2 | ⟨g, cap, cur, rfl, hg, r⟩
 ·exact .inl h2
 ·exact .inr ⟨g, cap, cur, rfl, by omega, r⟩
theorem Jaw {r i : Nat} {u : Value} (h : w.ownsRow B e sz v n xs) (hr : ∀ q, v.ownBlock = some q → q ≠ r) : (w.setCell ⟨r, i, none⟩ u).ownsRow B e sz v n xs :=
 Jal (A := fun k => k = r) h (Jai _ _ _ rfl) (fun q hq e => hr q hq e)
theorem Jao {C : Array Value} {T : TypeId} {b : Nat} (h : Bk C T w b) (k : w.ownsRow B e sz v n xs) (hne : T ≠ e) : ∀ q, v.ownBlock = some q → q ≠ b := by
 intro q hq e1;subst e1;rcases k.2 with ⟨rfl, _⟩ | ⟨g, cap, cur, rfl, hb, hg, _⟩
 ·cases hq
 ·simp only [Value.ownBlock, Option.some.injEq] at hq
  subst hq;unfold Bk at h;rw [hg] at h;simp at h;exact hne h.2.symm
theorem Jkh (h : w.ownsRow B e sz v n xs) : ∀ q, v.ownBlock = some q → q < w.heap.size := fun q hq => (h.lt q hq).2
end
section
variable {H : Type} {P : Program} {k : TypeId} {R : Value → Option (DataW H × List MemPlace)} {w w' : World} {b n : Nat} {D : DataW H} {A : Nat → Prop}
theorem Jcp (h : w.ownsMap P k R b n D) (hw : Wr A w w') (hA : ¬ A b) : w'.ownsMap P k R b n D := by
 have hlt := h.lt;obtain ⟨es, clock, h1, F, hs, hD⟩ := h;exact ⟨es, clock, (hw.block b hlt hA).trans h1, F, hs, hD⟩
theorem Jbs {C : Array Value} {T : TypeId} {c : Nat} (h : w.ownsMap P k R b n D) (hc : Bk C T w c) : b ≠ c := by
 rintro rfl;obtain ⟨es, clock, h1, _⟩ := h;unfold Bk at hc;rw [h1] at hc;cases hc
theorem Jd9 {B sz : Nat} {e : TypeId} {v : Value} {m : Nat} {xs : List Value} (h : w.ownsMap P k R b n D) (hr : w.ownsRow B e sz v m xs) : ∀ q, v.ownBlock = some q → q ≠ b := by
 rintro q hq rfl;obtain ⟨es, clock, h1, _⟩ := h;rcases hr.2 with ⟨rfl, _⟩ | ⟨g, cap, cur, rfl, _, hg, _⟩
 ·cases hq
 ·simp only [Value.ownBlock, Option.some.injEq] at hq
  subst hq;rw [h1] at hg;cases hg
end
theorem sz5 (w : World) (o : Obj) : (w.alloc o).heap.size = w.heap.size + 1 := by simp
def bts (l : List UInt8) : List Value := l.map fun b => Value.int .u8 b.toNat
theorem Jpo (a b : List UInt8) : bts (a ++ b) = bts a ++ bts b := by simp [bts]
theorem Jpp (l : List UInt8) : Lib.strCells (S l) = bts l := by simp [Lib.strCells, bts]
theorem Jki (l : List UInt8) : (S l).size = l.length := by simp [ByteArray.size]
theorem Jid {P : Program} (w : World) (base : Nat) (t u ty e : TypeId) (i : TypeInfo) (ht : P.underlying t = some (.slice e)) (hu : P.underlying u = some .string) (hi : P.info? e = some i) (hz : i.zero = some (.int .u8 0))
  (hsize : i.size = 1) (hby : i.bytes = 1) (v : Value) (n : Nat) (xs : List Value) (hown : w.ownsRow base e 1 v n xs) (s : ByteArray) (hbytes : n + s.size ≤ 140737488355328) (hbase : base ≤ w.heap.size) :
  ∃ v' w', (Builtin.append_ #[t, u] ty #[v, .string s]).run P w = .ok v' w' ∧ w'.ownsRow base e 1 v' (n + s.size) (xs ++ Lib.strCells s) ∧ w.grownBy w' v.ownBlock ∧ (∀ q, v'.ownBlock = some q → v.ownBlock = some q ∨ w.heap.size ≤ q) := by
 have h63 : n + s.size ≤ maxLen := by unfold maxLen; omega
 obtain ⟨v', w', hr, h2, h3, h4⟩ := Lib.run_append_own_string (P := P) w base t u ty e i ht hu hi hz hsize hby v n xs hown s h63 hbytes hbase;refine ⟨v', w', hr, h2, h3, ?_⟩;rcases hown.2 with ⟨rfl, rfl⟩ | ⟨g, cap, cur, rfl, hbg, hg, hnc, hcm, hcs, htake⟩
 ·have hx : xs = [] := List.eq_nil_of_length_eq_zero (by simpa using hown.1)
  subst hx;obtain ⟨v2, w2, hr2, k2, _, _⟩ := Lib.run_append_own_string (P := P) w w.heap.size t u ty e i ht hu hi hz hsize hby (.slice none 0 0) 0 [] (World.ownsRow_nil _ _ _ _) s h63 hbytes (Nat.le_refl _);rw [hr] at hr2;injection hr2 with e1 e2
  subst e1 e2;exact fun q hq => .inr (k2.lt q hq).1
 ·by_cases hroom : n + s.size ≤ cap
  ·have := Lib.run_append_room_string (P := P) w t u ty e i ht hu hi hsize g n cap cur hg s hroom (by omega)
   rw [hr] at this;injection this with e1 e2
   subst e1;exact fun q hq => .inl hq
  ·have := Lib.run_append_grow_string (P := P) w t u ty e i (.int .u8 0) ht hu hi hz ⟨g, 0, none⟩ n cap xs (by rw [hown.1, hsize]) (hown.cells (g := g) rfl) s (by omega) (by omega) (growslice_fits (by omega) (by rw [hby]; omega))
   rw [hr] at this;injection this with e1 e2
   subst e1;refine fun q hq => .inr ?_
   simp only [Value.ownBlock, Option.some.injEq] at hq;omega
theorem Jdt {P : Program} (w : World) {ops : Array Oper} {rest : List Oper} {o : Oper} {a : Act} {Q : Exit → Act → World → Prop} (hgd : o.guard = none) (sl x : Operand) (t u : TypeId)
  (ho : o.op = .call { callee := .builtin .append, args := #[sl, x], argTypes := #[t, u] })
  (base : Nat) (e : TypeId) (i : TypeInfo) (ht : P.underlying t = some (.slice e)) (hu : P.underlying u = some .string) (hi : P.info? e = some i) (hz : i.zero = some (.int .u8 0)) (hsize : i.size = 1) (hby : i.bytes = 1)
  (v : Value) (n : Nat) (xs : List Value) (hs : a.eval sl = v) (hown : w.ownsRow base e 1 v n xs) (l : List UInt8) (hx : a.eval x = .string (S l)) (hlen : n + l.length ≤ 140737488355328) (hbase : base ≤ w.heap.size)
  (h : ∀ v' w', w'.ownsRow base e 1 v' (n + l.length) (xs ++ bts l) → w.grownBy w' v.ownBlock → (∀ q, v'.ownBlock = some q → v.ownBlock = some q ∨ w.heap.size ≤ q) → wpList P ops Q rest (a.put o.dst v') w') :
  wpList P ops Q (o :: rest) a w := by
 refine wpList_plain hgd fun K hK => ?_
 obtain ⟨v', w', hr, h2, h3, h4⟩ := Jid (P := P) w base t u o.type e i ht hu hi hz hsize hby v n xs hown (S l) (by rw [Jki]; exact hlen) hbase;rw [Jki, Jpp] at h2;unfold Oper.wp execOp;simp only [ho, resolve, invoke, builtin, Sem.run_bind, Sem.run_pure, Result.andThen_ok, List.map_toArray, List.map_cons, List.map_nil, hs, hx, hr];exact hK _ _ (h v' w' h2 h3 h4)
theorem Jjv {P : Program} {B : Nat} {e : TypeId} {v : Value} {w : World} (l : List UInt8) (h : w.ownsRow B e 1 v l.length (bts l)) (src dst : TypeId) (hs : P.underlying src = some (.slice e)) (he : P.underlying e = some (.int .u8)) (hd : P.underlying dst = some .string) :
  (convert src dst v).run P w = .ok (.string (S l)) w := by
 rcases h.2 with ⟨rfl, h0⟩ | ⟨g, cap, cur, rfl, _, hgg, _⟩
 ·have : l = [] := List.eq_nil_of_length_eq_zero h0
  subst this;rw [run_convert_bytes_string _ src dst e _ 0 0 hs he hd];rfl
 ·have hc := h.cells (g := g) rfl
  exact run_convert_bytes_back w src dst e ⟨g, 0, none⟩ cap l hs he hd (fun j hj => hc j _ (by simp [bts, List.getElem?_eq_getElem hj]))
theorem Jn6 {P : Program} (w : World) (d : Nat) (t : TypeId) {ps rs : Array TypeId} {v : Bool} (h : P.underlying t = some (.func ps rs v)) (f : Fn) (a c : Array Value) :
  (Op.equalIn (d + 1) t (.func f a c) .nilFunc).run P w = .ok false w := by simp [Op.equalIn, run_underlying h]
theorem Jn7 {P : Program} (w : World) (d : Nat) (t : TypeId) {ps rs : Array TypeId} {v : Bool} (h : P.underlying t = some (.func ps rs v)) :
  (Op.equalIn (d + 1) t .nilFunc .nilFunc).run P w = .ok true w := by simp [Op.equalIn, run_underlying h]
theorem Jn8 {P : Program} (w : World) (d : Nat) (t : TypeId) {k e : TypeId} (h : P.underlying t = some (.map k e)) (b : Nat) :
  (Op.equalIn (d + 1) t (.map (some b)) (.map none)).run P w = .ok false w := by simp [Op.equalIn, run_underlying h]
theorem Jfa {P : Program} (w : World) (t : TypeId) {ps rs : Array TypeId} {v : Bool} (h : P.underlying t = some (.func ps rs v)) (f : Fn) (a c : Array Value) :
  (binOp .neq t (.func f a c) .nilFunc).run P w = .ok (.bool true) w := by
 simp only [binOp];simp [Op.equal, Op.maxDepth, Jn6 w 9999 t h]
theorem Jfn {P : Program} (w : World) (t : TypeId) {ps rs : Array TypeId} {v : Bool} (h : P.underlying t = some (.func ps rs v)) :
  (binOp .neq t .nilFunc .nilFunc).run P w = .ok (.bool false) w := by
 simp only [binOp];simp [Op.equal, Op.maxDepth, Jn7 w 9999 t h]
theorem Jfb {P : Program} (w : World) (t : TypeId) {k e : TypeId} (h : P.underlying t = some (.map k e)) (b : Nat) :
  (binOp .eql t (.map (some b)) (.map none)).run P w = .ok (.bool false) w := by
 simp only [binOp];simp [Op.equal, Op.maxDepth, Jn8 w 9999 t h]
end
end Go.Proofs.YtmammmjmipgmoaaGreatDoor
