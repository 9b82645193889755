import Derived.Test.YtmammmjmipgmoaaGreatDoorZW
import Derived.Test.YtmammmjmipgmoaaGreatDoorZT
import Derived.Test.YtmammmjmipgmoaaGreatDoorZH
import Derived.Test.YtmammmjmipgmoaaGreatDoorZV
import Derived.Test.YtmammmjmipgmoaaGreatDoorZC
import Derived.Test.YtmammmjmipgmoaaGreatDoorZU
import Derived.Test.YtmammmjmipgmoaaGreatDoorZF
import Derived.ArgAppend
import Derived.Maps.AppendAt
import Derived.Test.YtmammmjmipgmoaaGreatDoorZQh
set_option linter.unusedVariables false
set_option maxRecDepth 100000
set_option maxHeartbeats 16000000
namespace Go.Proofs.YtmammmjmipgmoaaGreatDoor
section
open Go Go.RowKit Go.Maps
def fl3 (f : Dk.Fl) : List Value := [.string (S f.name), .string (S f.dat), .int .i64 f.safe]
def flsV (L : List Dk.Fl) : List Value := L.flatMap fl3
theorem Jdv (f : Dk.Fl) (L : List Dk.Fl) : flsV (f :: L) = fl3 f ++ flsV L := rfl
theorem Jbz (a b : List Dk.Fl) : flsV (a ++ b) = flsV a ++ flsV b := List.flatMap_append
theorem Ja1 : ∀ L : List Dk.Fl, (flsV L).length = L.length * 3
 | [] => rfl
 | f :: L => by rw [Jdv, List.length_append, Ja1 L, List.length_cons]; simp [fl3]; omega
theorem Jmu (L : List Dk.Fl) (k : Nat) (hk : k ≤ L.length) : (flsV L).take (k * 3) = flsV (L.take k) := by
 have h := Jbz (L.take k) (L.drop k);rw [List.take_append_drop] at h;rw [h, List.take_left' (by rw [Ja1, List.length_take]; rw [Nat.min_eq_left hk])]
theorem Jmv (L : List Dk.Fl) (k : Nat) (hk : k ≤ L.length) : (flsV L).drop (k * 3) = flsV (L.drop k) := by
 have h := Jbz (L.take k) (L.drop k);rw [List.take_append_drop] at h;rw [h, List.drop_left' (by rw [Ja1, List.length_take]; rw [Nat.min_eq_left hk])]
theorem Jgm (L : List Dk.Fl) (k : Nat) (hk : k < L.length) (j : Nat) (hj : j < 3) : (flsV L)[k * 3 + j]? = (fl3 L[k])[j]? := by
 have h := Jbz (L.take k) (L.drop k);rw [List.take_append_drop, List.drop_eq_getElem_cons hk, Jdv] at h;have hl : (flsV (L.take k)).length = k * 3 := by rw [Ja1, List.length_take, Nat.min_eq_left (Nat.le_of_lt hk)]
 rw [h, List.getElem?_append_right (by omega), hl, show k * 3 + j - k * 3 = j from by omega, List.getElem?_append_left (by simp [fl3]; omega)]
theorem Jfo (L : List Dk.Fl) (k : Nat) (hk : k < L.length) (j : Nat) (hj : j < 3) (v : Value) (f : Dk.Fl) (hf : (fl3 L[k]).set j v = fl3 f) : (flsV L).set (k * 3 + j) v = flsV (L.set k f) := by
 have h := Jbz (L.take k) (L.drop k);rw [List.take_append_drop, List.drop_eq_getElem_cons hk, Jdv] at h;have hl : (flsV (L.take k)).length = k * 3 := by rw [Ja1, List.length_take, Nat.min_eq_left (Nat.le_of_lt hk)]
 rw [h, List.set_append_right _ _ (by omega), hl, show k * 3 + j - k * 3 = j from by omega, List.set_append_left _ _ (by simp [fl3]; omega), hf];rw [List.set_eq_take_append_cons_drop, if_pos hk, Jbz, Jdv]
structure Rc where
 a : Option Addr
 c : Nat
 n : Int
 ka : Option Addr
 kc : Nat
 ks : List Int
def rfC (c : Rc) (D : Dk.St) : Array Value := #[.int .i64 D.room, .int .i64 D.starts, .bool (!D.up), .bool D.set.isSome, .slice c.a D.L.length c.c, .int .i64 c.n, .slice c.ka c.ks.length c.kc]
structure RfIn (B r : Nat) (c : Rc) (D : Dk.St) (w : World) : Prop where
 box : Bk (rfC c D) 83 w r
 row : w.ownsRow B 130 3 (.slice c.a D.L.length c.c) D.L.length (flsV D.L)
 krow : w.ownsRow B 3 1 (.slice c.ka c.ks.length c.kc) c.ks.length (Jap c.ks)
 set : ∀ p, D.set = some p → c.n = (p.1 : Int) ∧ c.ks = p.2
 ok : Dk.OkL D.L
 few : D.L.length ≤ 1024
 small : Dk.size D.L ≤ 1048576
def Fr (r : Nat) (c : Rc) (b : Nat) : Prop := b = r ∨ (∃ a, c.a = some a ∧ b = a.block) ∨ (∃ a, c.ka = some a ∧ b = a.block)
theorem Ja4 {w : World} {B : Nat} {ao : Option Addr} {n cap : Nat} {L : List Dk.Fl} (h : w.ownsRow B 130 3 (.slice ao n cap) n (flsV L)) (hn : L.length = n) {k : Nat} (hk : k < L.length) :
  ∃ g, ao = some ⟨g, 0, none⟩ ∧ w.cell? ⟨g, k * 3, none⟩ = some (.string (S L[k].name)) ∧ w.cell? ⟨g, k * 3 + 1, none⟩ = some (.string (S L[k].dat)) ∧ w.cell? ⟨g, k * 3 + 2, none⟩ = some (.int .i64 L[k].safe) := by
 rcases h.2 with ⟨e1, e2⟩ | ⟨g, cap', cur, e1, hB, hg, _⟩
 ·omega
 ·injection e1 with q1 q2 q3
  subst q1;refine ⟨g, rfl, ?_, ?_, ?_⟩
  ·have := h.cells (g := g) rfl (k * 3) _ (by rw [show k * 3 = k * 3 + 0 from rfl, Jgm L k hk 0 (by decide)]; rfl)
   rw [Addr.add_lit, Nat.zero_add] at this;exact this
  ·have := h.cells (g := g) rfl (k * 3 + 1) _ (by rw [Jgm L k hk 1 (by decide)]; rfl)
   rw [Addr.add_lit, Nat.zero_add] at this;exact this
  ·have := h.cells (g := g) rfl (k * 3 + 2) _ (by rw [Jgm L k hk 2 (by decide)]; rfl)
   rw [Addr.add_lit, Nat.zero_add] at this;exact this
section
variable {B r : Nat} {c : Rc} {D : Dk.St} {w w' : World} {A : Nat → Prop}
theorem RfIn.wr (h : RfIn B r c D w) (hw : Wr A w w') (hA : ∀ b, Fr r c b → ¬ A b) : RfIn B r c D w' := by
 refine ⟨h.box.wr hw (hA r (.inl rfl)), Jal h.row hw (fun q hq => ?_), Jal h.krow hw (fun q hq => ?_), h.set, h.ok, h.few, h.small⟩
 ·cases hc : c.a with
  | none => rw [hc] at hq; cases hq
  | some a =>
   rw [hc] at hq;simp only [Value.ownBlock, Option.some.injEq] at hq;exact hA q (.inr (.inl ⟨a, hc, hq.symm⟩))
 ·cases hc : c.ka with
  | none => rw [hc] at hq; cases hq
  | some a =>
   rw [hc] at hq;simp only [Value.ownBlock, Option.some.injEq] at hq;exact hA q (.inr (.inr ⟨a, hc, hq.symm⟩))
theorem RfIn.below (h : RfIn B r c D w) (hb : Below w.heap.size w w') : RfIn B r c D w' := h.wr (A := fun _ => False) (Jad hb) (fun _ _ q => q)
theorem RfIn.fr (h : RfIn B r c D w) : ∀ b, Fr r c b → (b = r ∨ B ≤ b) ∧ b < w.heap.size := by
 rintro b (rfl | ⟨a, ha, rfl⟩ | ⟨a, ha, rfl⟩)
 ·exact ⟨.inl rfl, h.box.lt⟩
 ·have := h.row.lt a.block (by rw [ha]; rfl); exact ⟨.inr this.1, this.2⟩
 ·have := h.krow.lt a.block (by rw [ha]; rfl); exact ⟨.inr this.1, this.2⟩
theorem RfIn.s (h : RfIn B r c D w) : w.cell? ⟨r, 0, none⟩ = some (.int .i64 D.room) ∧ w.cell? ⟨r, 1, none⟩ = some (.int .i64 D.starts) ∧ w.cell? ⟨r, 2, none⟩ = some (.bool (!D.up)) ∧ w.cell? ⟨r, 3, none⟩ = some (.bool D.set.isSome) ∧ w.cell? ⟨r, 4, none⟩ = some (.slice c.a D.L.length c.c) ∧ w.cell? ⟨r, 5, none⟩ = some (.int .i64 c.n) ∧ w.cell? ⟨r, 6, none⟩ = some (.slice c.ka c.ks.length c.kc) :=
 ⟨h.box.cell 0, h.box.cell 1, h.box.cell 2, h.box.cell 3, h.box.cell 4, h.box.cell 5, h.box.cell 6⟩
def AtR5 (nm : List UInt8) (L : List Dk.Fl) (w : World) (e : Ending) (w' : World) : Prop := ((Dk.has nm L = false ∧ e = .returned (.int .i64 (-1))) ∨ ∃ k, ∃ h : k < L.length, (L[k]'h).name = nm ∧ e = .returned (.int .i64 k)) ∧ w = w'
theorem Jmw {nm : List UInt8} {L : List Dk.Fl} {k : Nat} (hk : k < L.length) (h : Dk.has nm (L.take k) = false) (hne : L[k].name ≠ nm) : Dk.has nm (L.take (k + 1)) = false := by
 rw [Jcs L k hk];unfold Dk.has at *;rw [List.any_append, h];simp [hne]
theorem rAt5 (h : RfIn B r c D w) (nm : List UInt8) : Calls Tryz.prog 91 #[.pointer (some ⟨r, 0, none⟩), .string (S nm)] w (AtR5 nm D.L w) := by
 have HR := Qh h.row;have hfew := h.few;obtain ⟨-, -, -, -, x4, -, -⟩ := h.s;clear h;go_enter Tryz.func91, Tryz.ntmps91;go_wp2_with fail;go_loop [5] (fun i => ∃ k : Nat, k ≤ D.L.length ∧ i = .int .i64 k ∧ Hid (Dk.has nm (D.L.take k) = false)) (fun i => D.L.length - (intOf i).toNat)
 case atStart => exact ⟨0, Nat.zero_le _, rfl, Qh rfl⟩
 case round =>
  obtain ⟨k, hk, rfl, HH⟩ := hrel;by_cases hlt : k < D.L.length
  ·have d1 : decide ((k : Int) < (D.L.length : Int)) = true := by simp; omega
   have d1' : decide (k < D.L.length) = true := by simp; omega
   obtain ⟨g, hg, y0, -, -⟩ := Ja4 HR.o rfl hlt;rw [hg] at x4;have hi1 : (0 : Int) ≤ (k : Int) := by omega
   have hi2 : (k : Int) < (D.L.length : Int) := by omega
   by_cases he : (D.L[k]).name = nm
   ·have q1 : ((D.L[k]).name == nm) = true := by simpa using he
    go_wp2_with fail;go_ret;exact ⟨.inr ⟨k, hlt, he, rfl⟩, rfl⟩
   ·have q1 : ((D.L[k]).name == nm) = false := by simpa using he
    have HN := Qh (Jmw hlt HH.o he);generalize (D.L[k]).name = u at *;clear he;go_wp2_with fail;go_round
    case rel => exact ⟨k + 1, by omega, by go_num, HN⟩
    case measure => simp [intOf]; omega
  ·have d1 : decide ((k : Int) < (D.L.length : Int)) = false := by simp; omega
   have d1' : decide (k < D.L.length) = false := by simp; omega
   obtain rfl : k = D.L.length := by omega
   have HN := Qh (show Dk.has nm D.L = false from by have := HH.o; rwa [List.take_length] at this);go_wp2_with fail;go_ret;exact ⟨.inl ⟨HN.o, rfl⟩, rfl⟩
theorem Jlb (L : List Dk.Fl) (k : Nat) (hk : k < L.length) : Dk.size (L.take (k + 1)) = Dk.size (L.take k) + L[k].dat.length := by
 have ha : ∀ a b : List Dk.Fl, Dk.size (a ++ b) = Dk.size a + Dk.size b := fun a b => by
  induction a with
  | nil => simp [Dk.size]
  | cons f a ih => simp only [List.cons_append, Dk.size, ih]; omega
 rw [Jcs L k hk, ha];simp [Dk.size]
theorem Jog (L : List Dk.Fl) (k : Nat) : Dk.size (L.take k) ≤ Dk.size L := by
 induction L generalizing k with
 | nil => simp
 | cons f L ih =>
  cases k with
  | zero => simp [Dk.size]
  | succ k => simp only [List.take_succ_cons, Dk.size]; have := ih k; omega
theorem Jmx (h : RfIn B r c D w) : Calls Tryz.prog 105 #[.pointer (some ⟨r, 0, none⟩)] w fun e w' => e = .returned (.int .i64 (Dk.size D.L)) ∧ w = w' := by
 have HR := Qh h.row;have hfew := h.few;have HZ := Qh h.small;obtain ⟨-, -, -, -, x4, -, -⟩ := h.s;clear h;go_enter Tryz.func105, Tryz.ntmps105;go_wp2_with fail;go_loop [3, 4] (fun s i => ∃ k m : Nat, k ≤ D.L.length ∧ i = .int .i64 k ∧ s = .int .i64 m ∧ Hid (m = Dk.size (D.L.take k))) (fun _ i => D.L.length - (intOf i).toNat)
 case atStart => exact ⟨0, 0, Nat.zero_le _, rfl, rfl, Qh (by simp [Dk.size])⟩
 case round =>
  obtain ⟨k, m, hk, rfl, rfl, HH⟩ := hrel;by_cases hlt : k < D.L.length
  ·have d1 : decide ((k : Int) < (D.L.length : Int)) = true := by simp; omega
   have d1' : decide (k < D.L.length) = true := by simp; omega
   obtain ⟨g, hg, -, y1, -⟩ := Ja4 HR.o rfl hlt;rw [hg] at x4;have hi1 : (0 : Int) ≤ (k : Int) := by omega
   have hi2 : (k : Int) < (D.L.length : Int) := by omega
   have HN := Qh (Jlb D.L k hlt);have hb := Nat.le_trans (Jog D.L (k + 1)) HZ.o;rw [HN.o, ← HH.o] at hb;generalize (D.L[k]).dat = u at *;go_wp2_with fail;go_round
   case rel => exact ⟨k + 1, m + u.length, by omega, by go_num, by go_num, Qh (by rw [HN.o, HH.o])⟩
   case measure => simp [intOf]; omega
  ·have d1 : decide ((k : Int) < (D.L.length : Int)) = false := by simp; omega
   have d1' : decide (k < D.L.length) = false := by simp; omega
   obtain rfl : k = D.L.length := by omega
   have HN := Qh (show m = Dk.size D.L from by have := HH.o; rwa [List.take_length] at this);go_wp2_with fail;go_ret;exact ⟨by rw [HN.o] <;> rfl, rfl⟩
theorem rBad5 (nm : List UInt8) (hl : nm.length ≤ 140737488351232) (w : World) : Calls Tryz.prog 147 #[.string (S nm)] w fun e w' => e = .returned (.bool (!Dk.named nm)) ∧ w = w' := by
 unfold Dk.named;by_cases h1 : nm.length < 1
 ·have d1 : decide ((nm.length : Int) < (1 : Int)) = true := by simp; omega
  have e1 : (!(decide (1 ≤ nm.length) && decide (nm.length ≤ 16))) = true := by rw [decide_eq_false (show ¬ 1 ≤ nm.length by omega)]; rfl
  rw [e1];go_enter Tryz.func147, Tryz.ntmps147;go_wp2_with fail;go_ret;exact ⟨rfl, rfl⟩
 ·have d1 : decide ((nm.length : Int) < (1 : Int)) = false := by simp; omega
  have e1 : (!(decide (1 ≤ nm.length) && decide (nm.length ≤ 16))) = decide ((16 : Int) < (nm.length : Int)) := by
   by_cases h2 : nm.length ≤ 16
   ·rw [decide_eq_true (show 1 ≤ nm.length by omega), decide_eq_true h2, decide_eq_false (show ¬ (16 : Int) < (nm.length : Int) by omega)]; rfl
   ·rw [decide_eq_true (show 1 ≤ nm.length by omega), decide_eq_false h2, decide_eq_true (show (16 : Int) < (nm.length : Int) by omega)]; rfl
  rw [e1];go_enter Tryz.func147, Tryz.ntmps147;go_wp2_with fail;go_ret;exact ⟨rfl, rfl⟩
def AskR5 (nm : List UInt8) (D : Dk.St) (w : World) (e : Ending) (w' : World) : Prop := ((D.up = false ∧ e = .returned (.tuple #[.int .i64 0, .int .i64 51])) ∨ (D.up = true ∧ Dk.has nm D.L = false ∧ e = .returned (.tuple #[.int .i64 0, .int .i64 4])) ∨ ∃ k, ∃ h : k < D.L.length, D.up = true ∧ (D.L[k]'h).name = nm ∧ e = .returned (.tuple #[.int .i64 k, .int .i64 0])) ∧ w = w'
theorem Jf3 (h : RfIn B r c D w) (nm : List UInt8) : Calls Tryz.prog 139 #[.pointer (some ⟨r, 0, none⟩), .string (S nm)] w (AskR5 nm D w) := by
 have CA := Qh (rAt5 h nm);have hfew := h.few;obtain ⟨-, -, x2, -, -, -, -⟩ := h.s;clear h;cases hu : D.up with
 | false =>
  rw [hu] at x2;go_enter Tryz.func139, Tryz.ntmps139;go_wp2_with fail;go_ret2
  exact ⟨.inl ⟨hu, rfl⟩, rfl⟩
 | true =>
  rw [hu] at x2;go_enter Tryz.func139, Tryz.ntmps139;go_wp2_with fail;with_reducible refine CA.o.mono ?_
  rintro e w1 ⟨⟨hh, rfl⟩ | ⟨k, hk, he, rfl⟩, rfl⟩
  ·go_wp2_with fail
   go_ret2
   exact ⟨.inr (.inl ⟨hu, hh, rfl⟩), rfl⟩
  ·have d1 : decide ((k : Int) < (0 : Int)) = false := decide_eq_false (by omega)
   go_wp2_with fail;go_ret2
   exact ⟨.inr (.inr ⟨k, hk, hu, he, rfl⟩), rfl⟩
theorem Jb2 {L : List Dk.Fl} (h : Dk.OkL L) {k : Nat} (hk : k < L.length) {nm : List UInt8} (he : L[k].name = nm) : Dk.get nm L = L[k] ∧ Dk.has nm L = true := by
 obtain ⟨q1, q2, _⟩ := Dk.at5 h hk;rw [he] at q1 q2;exact ⟨q1, q2⟩
theorem rRead5 (h : RfIn B r c D w) (nm : List UInt8) : Calls Tryz.prog 108 #[.pointer (some ⟨r, 0, none⟩), .string (S nm)] w fun e w' => e = .returned (.tuple #[.string (S (Dk.read nm D).2), .int .i64 (Dk.read nm D).1]) ∧ w = w' := by
 have CA := Qh (Jf3 h nm);have HO := Qh h.ok;have HR := Qh h.row;have hfew := h.few;obtain ⟨-, -, -, -, x4, -, -⟩ := h.s;clear h;go_enter Tryz.func108, Tryz.ntmps108;go_wp2_with fail;with_reducible refine CA.o.mono ?_
 rintro e w1 ⟨⟨hu, rfl⟩ | ⟨hu, hh, rfl⟩ | ⟨k, hk, hu, he, rfl⟩, rfl⟩
 ·have HD := Qh (show Dk.read nm D = (51, []) from by unfold Dk.read; rw [if_pos hu])
  go_wp2_with fail;go_ret2
  exact ⟨by rw [HD.o] <;> rfl, rfl⟩
 ·have HD := Qh (show Dk.read nm D = (4, []) from by unfold Dk.read; rw [if_neg (by rw [hu]; decide), if_pos hh])
  go_wp2_with fail;go_ret2
  exact ⟨by rw [HD.o] <;> rfl, rfl⟩
 ·obtain ⟨q1, q2⟩ := Jb2 HO.o hk he
  have HD := Qh (show Dk.read nm D = (0, D.L[k].dat) from by unfold Dk.read; rw [if_neg (by rw [hu]; decide), if_neg (by rw [q2]; decide), q1]);obtain ⟨g, hg, -, y1, -⟩ := Ja4 HR.o rfl hk;rw [hg] at x4;have hi1 : (0 : Int) ≤ (k : Int) := by omega
  have hi2 : (k : Int) < (D.L.length : Int) := by omega
  clear he q1 q2;generalize (D.L[k]).dat = u at *;go_wp2_with fail;go_ret2
  exact ⟨by rw [HD.o] <;> rfl, rfl⟩
theorem Jiu (h : RfIn B r c D w) (nm : List UInt8) : Calls Tryz.prog 109 #[.pointer (some ⟨r, 0, none⟩), .string (S nm)] w fun e w' => e = .returned (.int .i64 (Dk.get nm D.L).safe) ∧ w = w' := by
 have CA := Qh (rAt5 h nm);have HO := Qh h.ok;have HR := Qh h.row;have hfew := h.few;obtain ⟨-, -, -, -, x4, -, -⟩ := h.s;clear h;go_enter Tryz.func109, Tryz.ntmps109;go_wp2_with fail;with_reducible refine CA.o.mono ?_
 rintro e w1 ⟨⟨hh, rfl⟩ | ⟨k, hk, he, rfl⟩, rfl⟩
 ·have HD := Qh (show (Dk.get nm D.L).safe = 0 from by rw [Dk.get_none hh]; rfl)
  go_wp2_with fail;go_ret;exact ⟨by rw [HD.o]; rfl, rfl⟩
 ·obtain ⟨q1, q2⟩ := Jb2 HO.o hk he
  have HD := Qh (show Dk.get nm D.L = D.L[k] from q1);obtain ⟨g, hg, -, -, y2⟩ := Ja4 HR.o rfl hk;rw [hg] at x4;have hi1 : (0 : Int) ≤ (k : Int) := by omega
  have hi2 : (k : Int) < (D.L.length : Int) := by omega
  have d1 : decide ((k : Int) < (0 : Int)) = false := decide_eq_false (by omega);clear he q1 q2;generalize D.L[k] = u at *;go_wp2_with fail;go_ret;exact ⟨by rw [HD.o] <;> rfl, rfl⟩
end
end
section
open Go Go.RowKit Go.Maps
theorem Jev {P : Program} (w : World) (base : Nat) (t ty e : TypeId) (i : TypeInfo) (sz : Nat) (ht : P.underlying t = some (.slice e)) (hi : P.info? e = some i) {v : Value} {n : Nat} {xs : List Value} (h : w.ownsRow base e sz v n xs) (c : Nat) :
  (Builtin.append_ #[t, t] ty #[v, .slice none 0 c]).run P w = .ok v w := by
 rcases h.2 with ⟨rfl, rfl⟩ | ⟨g, cap, cur, rfl, _, _, hc, _⟩
 ·simp [Builtin.append_, run_underlying ht, sizeOf, typeInfo, hi, Builtin.lenOf, Builtin.firstCells]
 ·simp [Builtin.append_, run_underlying ht, sizeOf, typeInfo, hi, Builtin.lenOf, Builtin.firstCells, hc, storeCells]
theorem Jau {P : Program} {w : World} {ops : Array Oper} {o : Oper} {a : Act} {K : Act → World → Prop} {Q : Exit → Act → World → Prop} {E : Prop} (hgd : o.guard = none) (s x : Operand) (t : TypeId)
  (hop : o.op = .call { callee := .builtin .append, args := #[s, x], argTypes := #[t, t] })
  (base : Nat) (e : TypeId) (i : TypeInfo) (size : Nat) (ht : P.underlying t = some (.slice e)) (hi : P.info? e = some i)
  (v : Value) (n : Nat) (xs : List Value) (hs : a.eval s = v) (hown : w.ownsRow base e size v n xs) (c : Nat) (hx : a.eval x = .slice none 0 c) (h : K (a.put o.dst v) w) :
  if Region.wanted o (yielded ops a.tmps) = true then Oper.wp P o a w K Q else E := by
 have hw : Region.wanted o (yielded ops a.tmps) = true := by simp [Region.wanted, hgd]
 rw [if_pos hw];have hrun := Jev (P := P) w base t o.type e i size ht hi hown c;unfold Oper.wp execOp;simp only [hop, resolve, invoke, builtin, Sem.run_bind, Sem.run_pure, Result.andThen_ok, List.map_toArray, List.map_cons, List.map_nil, hs, hx, hrun];exact h
theorem Jag {P : Program} {w : World} {ops : Array Oper} {o : Oper} {a : Act} {K : Act → World → Prop} {Q : Exit → Act → World → Prop} {E : Prop} (hgd : o.guard = none) (s x : Operand) (t : TypeId)
  (hop : o.op = .call { callee := .builtin .append, args := #[s, x], argTypes := #[t, t] })
  (base : Nat) (e : TypeId) (i : TypeInfo) (z : Value) (size bytes : Nat) (ht : P.underlying t = some (.slice e)) (hi : P.info? e = some i) (hz : i.zero = some z)
  (hsize : i.size = size) (hby : i.bytes = bytes) (hzs : z.cells.size = size) (hsz : 0 < size)
  (v : Value) (n : Nat) (xs : List Value) (hs : a.eval s = v) (hown : w.ownsRow base e size v n xs)
  (ad : Addr) (m c : Nat) (news : List Value) (hx : a.eval x = .slice (some ad) m c) (hl : news.length = m * size) (hnews : ∀ j u, news[j]? = some u → w.cell? (ad.add j) = some u) (h1 : ∀ u ∈ news, u.oneCell' = true)
  (h63 : n + m ≤ maxLen) (hbytes : (n + m) * bytes ≤ 140737488355328) (hbase : base ≤ w.heap.size)
  (h : ∀ v' w', w'.ownsRow base e size v' (n + m) (xs ++ news) → w.grownBy w' v.ownBlock → (v'.ownBlock = v.ownBlock ∨ v'.ownBlock = some w.heap.size) → K (a.put o.dst v') w') :
  if Region.wanted o (yielded ops a.tmps) = true then Oper.wp P o a w K Q else E := by
 have hw : Region.wanted o (yielded ops a.tmps) = true := by simp [Region.wanted, hgd]
 rw [if_pos hw];obtain ⟨v', w', hrun, h5, h6, h7, h8⟩ := run_append_own_at (P := P) w base t o.type e i z size bytes ht hi hz hsize hby hzs hsz v n xs hown ad m c news hl hnews h1 h63 hbytes hbase;unfold Oper.wp execOp;simp only [hop, resolve, invoke, builtin, Sem.run_bind, Sem.run_pure, Result.andThen_ok, List.map_toArray, List.map_cons, List.map_nil, hs, hx, hrun];exact h v' w' h5 h6 h8
theorem Jbq (L : List Dk.Fl) : ∀ u ∈ flsV L, u.oneCell' = true := fun u hu => by
 unfold flsV at hu;obtain ⟨f, _, hf⟩ := List.mem_flatMap.1 hu;unfold fl3 at hf;simp at hf;rcases hf with rfl | rfl | rfl <;> rfl
theorem Jb7 (L : List Dk.Fl) (k : Nat) (hk : k ≤ L.length) (j : Nat) (u : Value) (hu : (flsV (L.take k))[j]? = some u) : (flsV L)[j]? = some u := by
 rw [← Jmu L k hk] at hu;rw [List.getElem?_take] at hu;split at hu
 ·exact hu
 ·cases hu
theorem Jiv (L : List Dk.Fl) (k : Nat) (hk : k ≤ L.length) (j : Nat) (u : Value) (hu : (flsV (L.drop k))[j]? = some u) : (flsV L)[k * 3 + j]? = some u := by
 rw [← Jmv L k hk, List.getElem?_drop] at hu;exact hu
theorem Jhd : (Tryz.prog.info? 130).map (fun i => (i.zero, i.size, i.bytes)) = some (some (.agg #[.string ⟨#[]⟩, .string ⟨#[]⟩, .int .i64 0]), 3, 40) := by kernel_rfl
namespace Dk
theorem ins_at5 (f : Fl) : ∀ (L : List Fl) (k : Nat) (hk : k ≤ L.length), (∀ j (h : j < k), Op.bytesLess (L[j]'(by omega)).name f.name = true) → (∀ h : k < L.length, Op.bytesLess f.name L[k].name = true) → ins f L = L.take k ++ f :: L.drop k
 | [], k, hk, _, _ => by simp at hk; subst hk; rfl
 | g :: r, 0, _, _, h2 => by
  have h := h2 (by simp);simp only [List.getElem_cons_zero] at h;unfold ins;rw [if_pos h];rfl
 | g :: r, k + 1, hk, h1, h2 => by
  have h := h1 0 (by omega);simp only [List.getElem_cons_zero] at h
  have hf : Op.bytesLess f.name g.name = false := by
   have hne : g.name ≠ f.name := fun e => by rw [e, less_irr5] at h; cases h
   rw [less_flip5 g.name f.name hne, h]; rfl
  unfold ins;rw [if_neg (by rw [hf]; decide), ins_at5 f r k (by simpa using hk) (fun j hj => by have := h1 (j + 1) (by omega); simpa using this) (fun hlt => by have := h2 (by simpa using hlt); simpa using this)];rfl
theorem del_at5 {L : List Fl} (h : L.Pairwise fun f g => f.name ≠ g.name) {k : Nat} (hk : k < L.length) : L.take k ++ L.drop (k + 1) = del L[k].name L := by
 induction L generalizing k with
 | nil => simp at hk
 | cons g r ih =>
  rw [List.pairwise_cons] at h;cases k with
  | zero =>
   unfold del;simp only [List.getElem_cons_zero, List.take_zero, List.nil_append, List.drop_succ_cons, List.drop_zero];rw [List.filter_cons_of_neg (by simp)];refine (List.filter_eq_self.2 fun f hf => ?_).symm;have := h.1 f hf;simpa using fun e => this e.symm
  | succ k =>
   have hk2 : k < r.length := by simpa using hk
   have hi := ih h.2 hk2;unfold del at *;simp only [List.getElem_cons_succ, List.take_succ_cons, List.drop_succ_cons, List.cons_append];rw [List.filter_cons_of_pos (by have := h.1 r[k] (List.getElem_mem hk2); simpa using this), hi]
end Dk
def OpI (B r : Nat) (c : Rc) (v : Value) (D' : Dk.St) (w : World) (e : Ending) (w' : World) : Prop := e = .returned v ∧ ∃ c', RfIn B r c' D' w' ∧ (∀ b, Fr r c' b → Fr r c b ∨ w.heap.size ≤ b) ∧ Wr (Fr r c) w w'
end
section
open Go Go.RowKit
namespace Dk
def next_ (a : Int × St) (f : St → Int × St) : Int × St := if a.1 = 0 then f a.2 else a
def clrs (p : List UInt8 → Bool) : List (List UInt8) → St → Int × St
 | [], D => (0, D)
 | nm :: r, D => if p nm then next_ (remove nm D) (clrs p r) else clrs p r D
def clear (dr : List UInt8) (D : St) : Int × St := if has dr D.L then remove dr D else (0, D)
theorem next_ok {a : Int × St} {f : St → Int × St} (h : a.1 = 0) : next_ a f = f a.2 := if_pos h
theorem next_no {a : Int × St} {f : St → Int × St} (h : a.1 ≠ 0) : next_ a f = a := if_neg h
theorem next_zero (D : St) (f : St → Int × St) : next_ (0, D) f = f D := rfl
def run : List (St → Int × St) → St → Int × St
 | [], D => (0, D)
 | f :: r, D => next_ (f D) (run r)
theorem run_snoc : ∀ (l : List (St → Int × St)) (f : St → Int × St) (D : St), run (l ++ [f]) D = next_ (run l D) f
 | [], f, D => by
  show next_ (f D) (run []) = f D
  by_cases h : (f D).1 = 0
  ·rw [next_ok h]; exact Prod.ext h.symm rfl
  ·rw [next_no h]
 | g :: r, f, D => by
  show next_ (g D) (run (r ++ [f])) = next_ (next_ (g D) (run r)) f
  by_cases h : (g D).1 = 0
  ·rw [next_ok h, next_ok h, run_snoc r f]
  ·rw [next_no h, next_no h, next_no h]
theorem run_fail : ∀ (l m : List (St → Int × St)) (D : St), (run l D).1 ≠ 0 → run (l ++ m) D = run l D
 | [], m, D, h => absurd rfl h
 | g :: r, m, D, h => by
  show next_ (g D) (run (r ++ m)) = next_ (g D) (run r)
  by_cases hg : (g D).1 = 0
  ·have h' : (run r (g D).2).1 ≠ 0 := by
    have : run (g :: r) D = run r (g D).2 := next_ok hg;rw [this] at h; exact h
   rw [next_ok hg, next_ok hg, run_fail r m _ h']
  ·rw [next_no hg, next_no hg]
def lay (dr nm s : List UInt8) (D : St) : Int × St := run [append dr s, sync dr, rename dr nm] D
theorem clrs_none (dr : List UInt8) : ∀ (l : List (List UInt8)) (D : St), dr ∉ l → clrs (fun n => n == dr) l D = (0, D)
 | [], D, _ => rfl
 | nm :: r, D, h => by
  simp only [List.mem_cons, not_or] at h;unfold clrs;rw [if_neg (by simpa using fun e => h.1 e.symm)];exact clrs_none dr r D h.2
theorem clrs_one (dr : List UInt8) : ∀ (l : List (List UInt8)) (D : St), l.Nodup → dr ∈ l → clrs (fun n => n == dr) l D = remove dr D
 | [], D, _, h => by cases h
 | nm :: r, D, hn, h => by
  obtain ⟨h1, h2⟩ := List.nodup_cons.1 hn;unfold clrs;by_cases e : nm = dr
  ·subst e
   rw [if_pos (by simp)];by_cases hr : (remove nm D).1 = 0
   ·rw [next_ok hr, clrs_none nm r _ h1]
    exact Prod.ext hr.symm rfl
   ·exact next_no hr
  ·rw [if_neg (by simpa using e)]
   rcases List.mem_cons.1 h with h | h
   ·exact absurd h.symm e
   ·exact clrs_one dr r D h2 h
theorem has_names {nm : List UInt8} {L : List Fl} : has nm L = true ↔ nm ∈ names L := by
 rw [has_iff];unfold names;rw [List.mem_map]
theorem names_nodup {L : List Fl} (h : OkL L) : (names L).Nodup := by
 unfold names;exact List.nodup_iff_pairwise_ne.2 (List.pairwise_map.2 h.ne)
theorem clrs_clear {D : St} (h : OkL D.L) (dr : List UInt8) : clrs (fun n => n == dr) (names D.L) D = clear dr D := by
 unfold clear;cases hh : has dr D.L with
 | true => rw [if_pos rfl]; exact clrs_one dr _ D (names_nodup h) (has_names.1 hh)
 | false =>
  rw [if_neg (by simp)];exact clrs_none dr _ D (fun q => by rw [has_names.2 q] at hh; cases hh)
theorem read_empty {D : St} (h : OkL D.L) : read [] D = (if D.up then 4 else 51, []) := by
 have hn : has [] D.L = false := by
  cases hh : has [] D.L with
  | false => rfl
  | true =>
   obtain ⟨f, hf, e⟩ := has_iff.1 hh;have := h.named f hf;rw [e] at this;cases this
 unfold read;cases D.up <;> simp [hn]
end Dk
end
section
open Go Go.RowKit Go.Maps
def fnV (f : Nat × Array Value) : Value := .func (Fn.func f.1) #[] f.2
def Jdn (f : Nat) : Prop := ∀ (args : Array Value) (w : World), (callFunc f args).run Tryz.prog w = .ok (.enter f args) w
theorem Jav {f : Nat} {fn : Func} {c : Code} (hf : Tryz.prog.funcs[f]? = some fn) (hname : (fn.name == "runtime.NumGoroutine") = false) (hb : fn.body = some c) : Jdn f := by
 intro args w;have h1 : fn.name ≠ "runtime.NumGoroutine" := by simpa using hname
 simp [callFunc, hf, h1, hb]
theorem Jiw (fs : List (Nat × Array Value)) (g cap : Nat) (R : Nat → World → Prop) (Q : Int → World → Prop) (w : World) (h0 : R 0 w)
  (hc : ∀ i w, R i w → ∀ j (hj : j < fs.length), w.cell? ⟨g, j, none⟩ = some (fnV fs[j]))
  (hs : ∀ i (hi : i < fs.length) w, R i w → Calls Tryz.prog fs[i].1 fs[i].2 w fun e w' => ∃ v : Int, e = .returned (.int .i64 v) ∧ (v = 0 → R (i + 1) w') ∧ (v ≠ 0 → Q v w')) (hl : fs.length ≤ 1000) (hin : ∀ i (hi : i < fs.length), Jdn fs[i].1) :
  Calls Tryz.prog 156 #[.slice (some ⟨g, 0, none⟩) fs.length cap] w fun e w' => ∃ v : Int, e = .returned (.int .i64 v) ∧ (v = 0 → R fs.length w') ∧ (v ≠ 0 → Q v w') := by
 have HC := Qh hc;have HS := Qh hs;have H0 := Qh h0;clear hc hs h0;go_enter Tryz.func156, Tryz.ntmps156;go_wp2_with fail;go_loopw [8] (fun v wr => ∃ i : Nat, i ≤ fs.length ∧ v = .int .i64 i ∧ Hid (R i wr)) (fun v _ => fs.length - (intOf v).toNat)
 case atStart => exact ⟨0, Nat.zero_le _, rfl, H0⟩
 case round =>
  clear H0;obtain ⟨w3, rfl⟩ : ∃ x, x = wr := ⟨_, rfl⟩
  obtain ⟨i, hi, rfl, HR⟩ := hrel;by_cases hlt : i < fs.length
  ·have d1 : decide (i < fs.length) = true := by simpa using hlt
   have CC := Qh (HS.o i hlt w3 HR.o);have c0 : w3.cell? ⟨g, i, none⟩ = some (.func (Fn.func fs[i].1) #[] fs[i].2) := HC.o i w3 HR.o i hlt;have hen := hin i hlt;generalize fs[i].1 = f at *;generalize fs[i].2 = C at *;have hen2 := hen C;clear hen;go_wp2_with fail;with_reducible refine CC.o.mono ?_
   rintro e w4 ⟨v, rfl, h1, h2⟩;have H1 := Qh h1;have H2 := Qh h2;clear h1 h2 CC c0;by_cases hv : v = 0
   ·subst hv
    go_wp2_with fail;go_roundw
    case rel => exact ⟨i + 1, by omega, by go_num, Qh (H1.o trivial)⟩
    case measure => simp [intOf]; omega
   ·have dv : (v != 0) = true := by simpa using hv
    go_wp2_with fail;go_ret;exact ⟨v, rfl, fun q => absurd q hv, H2.o⟩
  ·have d1 : decide (i < fs.length) = false := by simpa using hlt
   obtain rfl : i = fs.length := by omega
   go_wp2_with fail;go_ret;exact ⟨0, rfl, fun _ => HR.o, fun q => absurd rfl q⟩
section
variable {X : Nat → Prop} {B d : Nat} {D : Dk.St} {w w' : World}
theorem Jgn (h : DkX X B d D w) : Calls Tryz.prog 58 #[.pointer (some ⟨d, 0, none⟩)] w fun e w' => e = .returned (.int .i64 (if D.up then 0 else 51)) ∧ Below w.heap.size w w' := by
 have CR := Qh (show Calls Tryz.prog 107 #[.pointer (some ⟨d, 0, none⟩), .string { data := #[] }] w fun e w' => e = .returned (.tuple #[.string (S (Dk.read [] D).2), .int .i64 (Dk.read [] D).1]) ∧ Below w.heap.size w w' from Jf2 h [] (by simp));rw [Dk.read_empty h.ok.l] at CR;clear h;cases hu : D.up with
 | true =>
  rw [hu] at CR;simp only [if_true] at CR;go_enter Tryz.func58, Tryz.ntmps58;go_wp2_with fail;with_reducible refine CR.o.mono ?_
  rintro e w1 ⟨rfl, hb⟩;have HB := Qh hb;clear hb;go_wp2_with fail;go_ret;exact ⟨rfl, HB.o⟩
 | false =>
  rw [hu] at CR;simp only [Bool.false_eq_true, if_false] at CR;go_enter Tryz.func58, Tryz.ntmps58;go_wp2_with fail;with_reducible refine CR.o.mono ?_
  rintro e w1 ⟨rfl, hb⟩;have HB := Qh hb;clear hb;go_wp2_with fail;go_ret;exact ⟨rfl, HB.o⟩
theorem Jhu {X : Nat → Prop} {B d : Nat} (fs : List (Nat × Array Value)) (g cap : Nat) (acts : List (Dk.St → Int × Dk.St)) (hl : acts.length = fs.length) (h63 : fs.length ≤ 1000) {D : Dk.St} {w : World} (h : DkX X B d D w) (hX : ∀ k, X k → k < w.heap.size) (hB : B ≤ w.heap.size)
  (hg : X g ∨ g < B) (hg0 : g < w.heap.size) (hc : ∀ j (hj : j < fs.length), w.cell? ⟨g, j, none⟩ = some (fnV fs[j]))
  (hin : ∀ i (hi : i < fs.length), Jdn fs[i].1) (hs : ∀ i (hi : i < fs.length) (hi' : i < acts.length) D' w', DkX X B d D' w' → Wr (fun k => B ≤ k ∧ ¬ X k) w w' → Calls Tryz.prog fs[i].1 fs[i].2 w' (OpX X B d (acts[i] D') w')) :
  Calls Tryz.prog 156 #[.slice (some ⟨g, 0, none⟩) fs.length cap] w (OpX X B d (Dk.run acts D) w) := by
 have key := Jiw fs g cap (fun i w' => DkX X B d (Dk.run (acts.take i) D).2 w' ∧ (Dk.run (acts.take i) D).1 = 0 ∧ Wr (fun k => B ≤ k ∧ ¬ X k) w w') (fun v w' => OpX X B d (Dk.run acts D) w (.returned (.int .i64 v)) w') w ⟨by rw [List.take_zero]; exact h, by rw [List.take_zero]; rfl, Wr.refl _ _⟩
  (fun i w' ⟨_, _, hw⟩ j hj => by
   have hb : w'.heap[g]? = w.heap[g]? := hw.block g hg0 (fun q => hg.elim q.2 (fun x => by omega));have := hc j hj;unfold World.cell? at *;simp only [hb]
   exact this)
  (fun i hi w' ⟨h1, h2, hw⟩ => by
   have hi' : i < acts.length := by omega
   refine (hs i hi hi' _ w' h1 hw).mono ?_;rintro e w2 ⟨rfl, q2, q3⟩;have er : Dk.run (acts.take (i + 1)) D = acts[i] (Dk.run (acts.take i) D).2 := by rw [List.take_succ_eq_append_getElem hi', Dk.run_snoc, Dk.next_ok h2]
   refine ⟨_, rfl, fun hv => ⟨by rw [er]; exact q2, by rw [er]; exact hv, hw.trans q3⟩, fun hv => ?_⟩
   have ef : Dk.run acts D = acts[i] (Dk.run (acts.take i) D).2 := by
    have := Dk.run_fail (acts.take (i + 1)) (acts.drop (i + 1)) D (by rw [er]; exact hv);rw [List.take_append_drop] at this;rw [this, er]
   exact ⟨by rw [ef], by rw [ef]; exact q2, hw.trans q3⟩) h63 hin
 refine key.mono ?_;rintro e w2 ⟨v, rfl, q1, q2⟩;by_cases hv : v = 0
 ·subst hv
  obtain ⟨a, b, c⟩ := q1 rfl;rw [← hl, List.take_length] at a b;exact ⟨by rw [b], a, c⟩
 ·exact q2 hv
def GoneAt (p : List UInt8 → Bool) (f : Nat) (C : Array Value) (w : World) (l : List (List UInt8)) : Prop := ∀ nm ∈ l, Calls Tryz.prog f (#[.string (S nm)] ++ C) w fun e w' => e = .returned (.bool (p nm)) ∧ Below w.heap.size w w'
theorem Jgo (p : List UInt8 → Bool) (f : Nat) (C : Array Value) (hin : Jdn f) (h : DkX X B d D w) (hX : ∀ k, X k → k < w.heap.size) (hB : B ≤ w.heap.size)
  (hg : ∀ w', Wr (fun k => B ≤ k ∧ ¬ X k) w w' → GoneAt p f C w' (Dk.names D.L)) :
  Calls Tryz.prog 63 #[.pointer (some ⟨d, 0, none⟩), .func (Fn.func f) #[] C] w (OpX X B d (Dk.clrs p (Dk.names D.L) D) w) := by
 have CN := Qh (Jd1 h);have HO := Qh (h.ok.l);have HF := Qh h.ok.few;have H := Qh h;have HX := Qh hX;have HB := Qh hB;have HG := Qh hg;have hlen : (Dk.names D.L).length ≤ 1024 := by unfold Dk.names; rw [List.length_map]; exact h.ok.few
 have HN := Qh (show ∀ nm ∈ Dk.names D.L, nm.length ≤ 140737488351232 from fun nm hn => by
  unfold Dk.names at hn;obtain ⟨g, hg1, rfl⟩ := List.mem_map.1 hn;have := h.ok.l.named g hg1;unfold Dk.named at this;simp only [Bool.and_eq_true, decide_eq_true_eq] at this
  omega)
 clear h hX hB hg;generalize Dk.names D.L = L at *;go_enter Tryz.func63, Tryz.ntmps63;go_wp2_with fail;with_reducible refine CN.o.mono ?_
 rintro e w1 ⟨ao, cap, rfl, hr, hb⟩;have HR := Qh (Jb6 hr);have HRL := Qh (hr.lt);have HB1 := Qh hb;have H0 := Qh (H.o.newrow hb);clear CN H hr hb;go_wp2_with fail;go_loopw [11] (fun v wr => ∃ i : Nat, i ≤ L.length ∧ v = .int .i64 i ∧ Hid (∃ Di, DkX (fun q => X q ∨ (w.heap.size ≤ q ∧ q < w1.heap.size)) B d Di wr ∧ Dk.clrs p (L.drop i) Di = Dk.clrs p L D ∧ Wr (fun k => B ≤ k ∧ ¬ (X k ∨ (w.heap.size ≤ k ∧ k < w1.heap.size))) w1 wr)) (fun v _ => L.length - (intOf v).toNat)
 case atStart => exact ⟨0, Nat.zero_le _, rfl, Qh ⟨D, H0.o, by rw [List.drop_zero], Wr.refl _ _⟩⟩
 case round =>
  clear H0;obtain ⟨w3, rfl⟩ : ∃ x, x = wr := ⟨_, rfl⟩
  obtain ⟨i, hi, rfl, HH⟩ := hrel;obtain ⟨Di, hD, hc, hw⟩ := HH.o;have HD := Qh hD;have HC := Qh hc;have HW := Qh hw
  have HFIN := Qh (fun (r : Int × Dk.St) (w9 : World) (hd9 : DkX (fun q => X q ∨ (w.heap.size ≤ q ∧ q < w1.heap.size)) B d r.2 w9) (hw9 : Wr (fun k => B ≤ k ∧ ¬ (X k ∨ (w.heap.size ≤ k ∧ k < w1.heap.size))) w1 w9) => (show OpX X B d r w (.returned (.int .i64 r.1)) w9 from
   ⟨rfl, hd9.more (fun k hk => .inl (.inl hk)), (Jad HB1.o).step hw9 (fun x hx => .inl ⟨hx.1, fun q => hx.2 (.inl q)⟩)⟩))
  clear HH hD hc hw;by_cases hlt : i < L.length
  ·have d1 : decide (i < L.length) = true := by simpa using hlt
   have hne : L ≠ [] := fun e => by rw [e] at hlt; simp at hlt
   obtain ⟨g, off, rfl, hcell⟩ := HR.o hne
   have c0 : w3.cell? ⟨g, off + i, none⟩ = some (.string (S (L.getD i []))) := by
    rw [← hcell i hlt];have hgl := HRL.o g rfl;exact World.cell?_of_block (a := ⟨g, off + i, none⟩) (HW.o.block g hgl.2 (fun q => q.2 (.inr hgl)))
   have hdrop : L.drop i = L.getD i [] :: L.drop (i + 1) := by rw [List.drop_eq_getElem_cons hlt]; simp [List.getD, hlt]
   rw [hdrop] at HC
   have hmem : L.getD i [] ∈ L := by
    have : L.getD i [] = L[i] := by simp [List.getD, hlt]
    rw [this]; exact List.getElem_mem hlt
   have hnl := HN.o _ hmem;have CG := Qh (HG.o w3 ((Jad HB1.o).step HW.o (fun x hx => .inl ⟨hx.1, fun q => hx.2 (.inl q)⟩)) _ hmem);have hen := hin (#[.string (S (L.getD i []))] ++ C);have HSZ := Qh (HW.o.size)
   have HXX := Qh (show ∀ k, (X k ∨ (w.heap.size ≤ k ∧ k < w1.heap.size)) → k < w3.heap.size from fun k hk => by
    have h1 := HSZ.o;have h2 := HB1.o.size;rcases hk with q | q
    ·have := HX.o k q; omega
    ·omega)
   have HBB := Qh (Nat.le_trans HB.o (Nat.le_trans HB1.o.size HSZ.o));clear hcell hdrop hmem hne;generalize L.getD i [] = nm at *;have HCC := Qh (show Dk.clrs p (nm :: L.drop (i + 1)) Di = if p nm then Dk.next_ (Dk.remove nm Di) (Dk.clrs p (L.drop (i + 1))) else Dk.clrs p (L.drop (i + 1)) Di from rfl);generalize p nm = pn at *;go_wp2_with fail;with_reducible refine CG.o.mono ?_
   rintro e w4 ⟨rfl, hb4⟩;replace HD := Qh (HD.o.below hb4);replace HW := Qh (HW.o.trans (Jad hb4));replace HXX := Qh (fun k hk => Nat.lt_of_lt_of_le (HXX.o k hk) hb4.size);replace HBB := Qh (Nat.le_trans HBB.o hb4.size);clear hb4 CG hen HSZ HG c0;cases pn with
   | false =>
    have HC2 := Qh (show Dk.clrs p (L.drop (i + 1)) Di = Dk.clrs p L D from by
     have h1 := HCC.o;rw [if_neg (by simp)] at h1
     rw [← h1]; exact HC.o)
    clear HCC HC HFIN HR HRL;go_wp2_with fail;go_roundw
    case rel => exact ⟨i + 1, by omega, by go_num, Qh ⟨Di, HD.o, HC2.o, HW.o⟩⟩
    case measure => simp [intOf]; omega
   | true =>
    have HC2 := Qh (show Dk.next_ (Dk.remove nm Di) (Dk.clrs p (L.drop (i + 1))) = Dk.clrs p L D from by
     have h1 := HCC.o;rw [if_pos rfl] at h1
     rw [← h1]; exact HC.o)
    have CR := Qh (Jkm HD.o HXX.o HBB.o nm hnl);clear HCC HC HD;go_wp2_with fail;with_reducible refine CR.o.mono ?_
    rintro e w5 ⟨rfl, hd5, hw5⟩;replace HW := Qh (HW.o.trans hw5);have HD := Qh hd5;clear hd5 hw5 CR;by_cases hv : (Dk.remove nm Di).1 = 0
    ·have HC3 := Qh (show Dk.clrs p (L.drop (i + 1)) (Dk.remove nm Di).2 = Dk.clrs p L D from by rw [← HC2.o, Dk.next_ok hv])
     generalize (Dk.remove nm Di).2 = D2 at *;generalize (Dk.remove nm Di).1 = v at *;subst hv;clear HC2 HFIN HR HRL;go_wp2_with fail;go_roundw
     case rel => exact ⟨i + 1, by omega, by go_num, Qh ⟨D2, HD.o, HC3.o, HW.o⟩⟩
     case measure => simp [intOf]; omega
    ·have HR9 := Qh (show OpX X B d (Dk.clrs p L D) w (.returned (.int .i64 (Dk.remove nm Di).1)) w5 from by
      rw [← HC2.o, Dk.next_no hv]
      exact HFIN.o _ _ HD.o HW.o)
     clear HC2 HFIN HR HRL HD;generalize (Dk.remove nm Di).1 = v at *;have dv : (v != 0) = true := by simpa using hv
     go_wp2_with fail;go_ret;exact HR9.o
  ·have d1 : decide (i < L.length) = false := by simpa using hlt
   have HR9 := Qh (show OpX X B d (Dk.clrs p L D) w (.returned (.int .i64 0)) w3 from by
    have h1 := HC.o;rw [List.drop_of_length_le (by omega)] at h1;rw [← h1]
    exact HFIN.o (0, Di) _ HD.o HW.o)
   clear HC HFIN HD HW HG HR HRL;go_wp2_with fail;go_ret;exact HR9.o
theorem Joh {R : Ending → World → Prop} (dr t : List UInt8) {b0 b1 b2 : Nat} (h0 : Bk #[.pointer (some ⟨d, 0, none⟩)] 24 w b0) (h1 : Bk #[.string (S dr)] 9 w b1) (h2 : Bk #[.string (S t)] 9 w b2)
  (h : Calls Tryz.prog 123 #[.pointer (some ⟨d, 0, none⟩), .string (S dr), .string (S t)] w R) (hR : ∀ e w', R e w' → ∃ v : Int, e = .returned (.int .i64 v)) :
  Calls Tryz.prog 157 #[.pointer (some ⟨b0, 0, none⟩), .pointer (some ⟨b1, 0, none⟩), .pointer (some ⟨b2, 0, none⟩)] w R := by
 have c0 : w.cell? ⟨b0, 0, none⟩ = some (.pointer (some ⟨d, 0, none⟩)) := h0.cell 0;have c1 : w.cell? ⟨b1, 0, none⟩ = some (.string (S dr)) := h1.cell 0;have c2 : w.cell? ⟨b2, 0, none⟩ = some (.string (S t)) := h2.cell 0;have H := Qh h;have HR := Qh hR;clear h hR h0 h1 h2;go_enter Tryz.func157, Tryz.ntmps157;go_wp2_with fail;with_reducible refine H.o.mono ?_
 rintro e w1 hr;obtain ⟨v, rfl⟩ := HR.o _ _ hr;have HF := Qh hr;clear hr;go_wp2_with fail;exact HF.o
theorem Joi {R : Ending → World → Prop} (dr : List UInt8) {b0 b1 : Nat} (h0 : Bk #[.pointer (some ⟨d, 0, none⟩)] 24 w b0) (h1 : Bk #[.string (S dr)] 9 w b1)
  (h : Calls Tryz.prog 125 #[.pointer (some ⟨d, 0, none⟩), .string (S dr)] w R) (hR : ∀ e w', R e w' → ∃ v : Int, e = .returned (.int .i64 v)) :
  Calls Tryz.prog 158 #[.pointer (some ⟨b0, 0, none⟩), .pointer (some ⟨b1, 0, none⟩)] w R := by
 have c0 : w.cell? ⟨b0, 0, none⟩ = some (.pointer (some ⟨d, 0, none⟩)) := h0.cell 0;have c1 : w.cell? ⟨b1, 0, none⟩ = some (.string (S dr)) := h1.cell 0;have H := Qh h;have HR := Qh hR;clear h hR h0 h1;go_enter Tryz.func158, Tryz.ntmps158;go_wp2_with fail;with_reducible refine H.o.mono ?_
 rintro e w1 hr;obtain ⟨v, rfl⟩ := HR.o _ _ hr;have HF := Qh hr;clear hr;go_wp2_with fail;exact HF.o
theorem Joj {R : Ending → World → Prop} (dr t : List UInt8) {b0 b1 b2 : Nat} (h0 : Bk #[.pointer (some ⟨d, 0, none⟩)] 24 w b0) (h1 : Bk #[.string (S dr)] 9 w b1) (h2 : Bk #[.string (S t)] 9 w b2)
  (h : Calls Tryz.prog 160 #[.pointer (some ⟨d, 0, none⟩), .string (S dr), .string (S t)] w R) (hR : ∀ e w', R e w' → ∃ v : Int, e = .returned (.int .i64 v)) :
  Calls Tryz.prog 159 #[.pointer (some ⟨b0, 0, none⟩), .pointer (some ⟨b1, 0, none⟩), .pointer (some ⟨b2, 0, none⟩)] w R := by
 have c0 : w.cell? ⟨b0, 0, none⟩ = some (.pointer (some ⟨d, 0, none⟩)) := h0.cell 0;have c1 : w.cell? ⟨b1, 0, none⟩ = some (.string (S dr)) := h1.cell 0;have c2 : w.cell? ⟨b2, 0, none⟩ = some (.string (S t)) := h2.cell 0;have H := Qh h;have HR := Qh hR;clear h hR h0 h1 h2;go_enter Tryz.func159, Tryz.ntmps159;go_wp2_with fail;with_reducible refine H.o.mono ?_
 rintro e w1 hr;obtain ⟨v, rfl⟩ := HR.o _ _ hr;have HF := Qh hr;clear hr;go_wp2_with fail;exact HF.o
def layW (d : Nat) (dr nm t : List UInt8) (w : World) : World := ((((w.alloc (.cells #[.pointer (some ⟨d, 0, none⟩)] 24)).alloc (.cells #[.string (S dr)] 9)).alloc (.cells #[.string (S nm)] 9)).alloc (.cells #[.string (S t)] 9)).alloc (.cells #[fnV (157, #[.pointer (some ⟨w.heap.size, 0, none⟩), .pointer (some ⟨w.heap.size + 1, 0, none⟩), .pointer (some ⟨w.heap.size + 3, 0, none⟩)]), fnV (158, #[.pointer (some ⟨w.heap.size, 0, none⟩), .pointer (some ⟨w.heap.size + 1, 0, none⟩)]), fnV (159, #[.pointer (some ⟨w.heap.size, 0, none⟩), .pointer (some ⟨w.heap.size + 1, 0, none⟩), .pointer (some ⟨w.heap.size + 2, 0, none⟩)])] 58)
theorem Jlc (d : Nat) (dr nm t : List UInt8) (w : World) : Below w.heap.size w (layW d dr nm t w) := by
 unfold layW;have h1 := (Below.refl w.heap.size w).alloc (Nat.le_refl _) (.cells #[.pointer (some ⟨d, 0, none⟩)] 24);have h2 := h1.alloc h1.size (.cells #[.string (S dr)] 9);have h3 := h2.alloc h2.size (.cells #[.string (S nm)] 9);have h4 := h3.alloc h3.size (.cells #[.string (S t)] 9);exact h4.alloc h4.size _
theorem Jmy (d : Nat) (dr nm t : List UInt8) (w : World) : (layW d dr nm t w).heap.size = w.heap.size + 5 := by
 unfold layW;simp only [sz5]
theorem Jld (d : Nat) (dr nm t : List UInt8) (w : World) : Bk #[.pointer (some ⟨d, 0, none⟩)] 24 (layW d dr nm t w) w.heap.size ∧ Bk #[.string (S dr)] 9 (layW d dr nm t w) (w.heap.size + 1) ∧ Bk #[.string (S nm)] 9 (layW d dr nm t w) (w.heap.size + 2) ∧ Bk #[.string (S t)] 9 (layW d dr nm t w) (w.heap.size + 3) := by
 unfold layW;refine ⟨((((Jae _ _ _).more _).more _).more _).more _, ?_, ?_, ?_⟩
 ·have := ((((Jae #[.string (S dr)] 9 (w.alloc (.cells #[.pointer (some ⟨d, 0, none⟩)] 24))).more (.cells #[.string (S nm)] 9)).more (.cells #[.string (S t)] 9)).more (.cells #[fnV (157, #[.pointer (some ⟨w.heap.size, 0, none⟩), .pointer (some ⟨w.heap.size + 1, 0, none⟩), .pointer (some ⟨w.heap.size + 3, 0, none⟩)]), fnV (158, #[.pointer (some ⟨w.heap.size, 0, none⟩), .pointer (some ⟨w.heap.size + 1, 0, none⟩)]), fnV (159, #[.pointer (some ⟨w.heap.size, 0, none⟩), .pointer (some ⟨w.heap.size + 1, 0, none⟩), .pointer (some ⟨w.heap.size + 2, 0, none⟩)])] 58))
  rw [sz5] at this;exact this
 ·have := (((Jae #[.string (S nm)] 9 ((w.alloc (.cells #[.pointer (some ⟨d, 0, none⟩)] 24)).alloc (.cells #[.string (S dr)] 9))).more (.cells #[.string (S t)] 9)).more (.cells #[fnV (157, #[.pointer (some ⟨w.heap.size, 0, none⟩), .pointer (some ⟨w.heap.size + 1, 0, none⟩), .pointer (some ⟨w.heap.size + 3, 0, none⟩)]), fnV (158, #[.pointer (some ⟨w.heap.size, 0, none⟩), .pointer (some ⟨w.heap.size + 1, 0, none⟩)]), fnV (159, #[.pointer (some ⟨w.heap.size, 0, none⟩), .pointer (some ⟨w.heap.size + 1, 0, none⟩), .pointer (some ⟨w.heap.size + 2, 0, none⟩)])] 58))
  simp only [sz5] at this;exact this
 ·have := ((Jae #[.string (S t)] 9 (((w.alloc (.cells #[.pointer (some ⟨d, 0, none⟩)] 24)).alloc (.cells #[.string (S dr)] 9)).alloc (.cells #[.string (S nm)] 9))).more (.cells #[fnV (157, #[.pointer (some ⟨w.heap.size, 0, none⟩), .pointer (some ⟨w.heap.size + 1, 0, none⟩), .pointer (some ⟨w.heap.size + 3, 0, none⟩)]), fnV (158, #[.pointer (some ⟨w.heap.size, 0, none⟩), .pointer (some ⟨w.heap.size + 1, 0, none⟩)]), fnV (159, #[.pointer (some ⟨w.heap.size, 0, none⟩), .pointer (some ⟨w.heap.size + 1, 0, none⟩), .pointer (some ⟨w.heap.size + 2, 0, none⟩)])] 58))
  simp only [sz5] at this;exact this
theorem Jok (d : Nat) (dr nm t : List UInt8) (w : World) : Bk #[fnV (157, #[.pointer (some ⟨w.heap.size, 0, none⟩), .pointer (some ⟨w.heap.size + 1, 0, none⟩), .pointer (some ⟨w.heap.size + 3, 0, none⟩)]), fnV (158, #[.pointer (some ⟨w.heap.size, 0, none⟩), .pointer (some ⟨w.heap.size + 1, 0, none⟩)]), fnV (159, #[.pointer (some ⟨w.heap.size, 0, none⟩), .pointer (some ⟨w.heap.size + 1, 0, none⟩), .pointer (some ⟨w.heap.size + 2, 0, none⟩)])] 58 (layW d dr nm t w) (w.heap.size + 4) := by
 unfold layW;have := Jae #[fnV (157, #[.pointer (some ⟨w.heap.size, 0, none⟩), .pointer (some ⟨w.heap.size + 1, 0, none⟩), .pointer (some ⟨w.heap.size + 3, 0, none⟩)]), fnV (158, #[.pointer (some ⟨w.heap.size, 0, none⟩), .pointer (some ⟨w.heap.size + 1, 0, none⟩)]), fnV (159, #[.pointer (some ⟨w.heap.size, 0, none⟩), .pointer (some ⟨w.heap.size + 1, 0, none⟩), .pointer (some ⟨w.heap.size + 2, 0, none⟩)])] 58 ((((w.alloc (.cells #[.pointer (some ⟨d, 0, none⟩)] 24)).alloc (.cells #[.string (S dr)] 9)).alloc (.cells #[.string (S nm)] 9)).alloc (.cells #[.string (S t)] 9));simp only [sz5] at this;exact this
theorem Jix (h : DkX X B d D w) (hX : ∀ k, X k → k < w.heap.size) (hB : B ≤ w.heap.size) (dr nm t : List UInt8) (l1 : dr.length ≤ 140737488351232) (l2 : nm.length ≤ 140737488351232) (l3 : t.length ≤ 140737488351232) :
  Calls Tryz.prog 156 #[.slice (some ⟨w.heap.size + 4, 0, none⟩) 3 3] (layW d dr nm t w) (OpX X B d (Dk.lay dr nm t D) w) := by
 have hb := Jlc d dr nm t w;have hsz := Jmy d dr nm t w;obtain ⟨b0, b1, b2, b3⟩ := Jld d dr nm t w;have br := Jok d dr nm t w;have hn := h.newrow hb;generalize layW d dr nm t w = w5 at *
 have hX5 : ∀ k, (X k ∨ (w.heap.size ≤ k ∧ k < w5.heap.size)) → k < w5.heap.size := fun k hk => by
  rcases hk with q | q
  ·have := hX k q; omega
  ·omega
 have key := Jhu (X := fun q => X q ∨ (w.heap.size ≤ q ∧ q < w5.heap.size)) [(157, #[.pointer (some ⟨w.heap.size, 0, none⟩), .pointer (some ⟨w.heap.size + 1, 0, none⟩), .pointer (some ⟨w.heap.size + 3, 0, none⟩)]), (158, #[.pointer (some ⟨w.heap.size, 0, none⟩), .pointer (some ⟨w.heap.size + 1, 0, none⟩)]), (159, #[.pointer (some ⟨w.heap.size, 0, none⟩), .pointer (some ⟨w.heap.size + 1, 0, none⟩), .pointer (some ⟨w.heap.size + 2, 0, none⟩)])] (w.heap.size + 4) 3 [Dk.append dr t, Dk.sync dr, Dk.rename dr nm] rfl (by simp) hn hX5 (by omega) (.inl (.inr (by omega))) (by omega)
  (fun j hj => by
   match j, hj with
   | 0, _ => exact br.cell 0
   | 1, _ => exact br.cell 1
   | 2, _ => exact br.cell 2)
  (fun i hi => by
   match i, hi with
   | 0, _ => exact Jav (fn := Tryz.f157) (by kernel_rfl) (by kernel_rfl) rfl
   | 1, _ => exact Jav (fn := Tryz.f158) (by kernel_rfl) (by kernel_rfl) rfl
   | 2, _ => exact Jav (fn := Tryz.f159) (by kernel_rfl) (by kernel_rfl) rfl)
  (fun i hi hi' D' w' hd hw => by
   have hX' : ∀ k, (X k ∨ (w.heap.size ≤ k ∧ k < w5.heap.size)) → k < w'.heap.size := fun k hk => Nat.lt_of_lt_of_le (hX5 k hk) hw.size
   have hB' : B ≤ w'.heap.size := by have := hw.size; omega
   have kp : ∀ {C : Array Value} {T : TypeId} {b : Nat}, Bk C T w5 b → w.heap.size ≤ b → Bk C T w' b := fun {C T b} hk hb => hk.wr hw (fun q => q.2 (.inr ⟨hb, hk.lt⟩))
   match i, hi, hi' with
   | 0, _, _ => exact Joh dr t (kp b0 (by omega)) (kp b1 (by omega)) (kp b3 (by omega)) (Jgi hd hX' hB' dr t l1 l3) (fun e w9 hr => ⟨_, hr.1⟩)
   | 1, _, _ => exact Joi dr (kp b0 (by omega)) (kp b1 (by omega)) (syncX hd hX' hB' dr l1) (fun e w9 hr => ⟨_, hr.1⟩)
   | 2, _, _ => exact Joj dr nm (kp b0 (by omega)) (kp b1 (by omega)) (kp b2 (by omega)) (Jpy hd hX' hB' dr nm l1 l2) (fun e w9 hr => ⟨_, hr.1⟩))
 refine key.mono fun e w9 hr => ?_
 obtain ⟨q1, q2, q3⟩ := hr;exact ⟨q1, q2.less (fun k hk => .inl hk), (Jad hb).step q3 (fun x hx => .inl ⟨hx.1, fun q => hx.2 (.inl q)⟩)⟩
theorem Jiy (h : DkX X B d D w) (hX : ∀ k, X k → k < w.heap.size) (hB : B ≤ w.heap.size) (dr nm t : List UInt8) (l1 : dr.length ≤ 140737488351232) (l2 : nm.length ≤ 140737488351232) (l3 : t.length ≤ 140737488351232) :
  Calls Tryz.prog 117 #[.pointer (some ⟨d, 0, none⟩), .string (S dr), .string (S nm), .string (S t)] w (OpX X B d (Dk.lay dr nm t D) w) := by
 have CR := Qh (Jix h hX hB dr nm t l1 l2 l3);unfold layW fnV at CR;clear h hX hB l1 l2 l3;go_enter Tryz.func117, Tryz.ntmps117;go_wp2_with fail;with_reducible refine CR.o.mono ?_
 rintro e w1 hr;have HF := Qh hr;obtain ⟨rfl, -⟩ := hr;go_wp2_with fail;go_ret;exact HF.o
end
end
section
open Go Go.RowKit
namespace Dk
theorem get_del13 {a b : List UInt8} (h : a ≠ b) (L : List Fl) : get b (del a L) = get b L := by
 unfold get del;congr 1
 rw [List.find?_filter];congr 1
 funext f
 by_cases e : f.name = b
 ·have : (f.name == a) = false := by simpa using fun q => h (q.symm.trans e)
  rw [this, e]; simp
 ·have : (f.name == b) = false := by simpa using e
  rw [this]; simp
theorem struck_two (D : St) : (∃ s, struck D = (false, { D with set := s }) ∧ (D.set = none → s = none)) ∨ (D.set ≠ none ∧ ∃ ks, struck D = (true, fall ks D)) := by
 rcases struck_cases D with ⟨h, e⟩ | ⟨ks, h, e⟩ | ⟨n, ks, h, e⟩
 ·refine .inl ⟨none, ?_, fun _ => rfl⟩
  rw [e, ← h]
 ·exact .inr ⟨by rw [h]; simp, ks, e⟩
 ·exact .inl ⟨some (n, ks), e, fun q => by rw [h] at q; cases q⟩
theorem remove_two {D : St} {nm : List UInt8} (hu : D.up = true) (hh : has nm D.L = true) : (∃ s, remove nm D = (0, { D with set := s, L := del nm D.L }) ∧ (D.set = none → s = none)) ∨ (D.set ≠ none ∧ ∃ ks, remove nm D = (51, fall ks D)) := by
 unfold remove;rw [if_neg (by rw [hu]; simp), if_neg (by rw [hh]; simp)];rcases struck_two D with ⟨s, e, h⟩ | ⟨h, ks, e⟩
 ·exact .inl ⟨s, by simp only [e]; rfl, h⟩
 ·exact .inr ⟨h, ks, by simp only [e]; rfl⟩
theorem sync_two {D : St} {nm : List UInt8} (hu : D.up = true) (hh : has nm D.L = true) : (∃ s, sync nm D = (0, { D with set := s, L := put ⟨nm, (get nm D.L).dat, (get nm D.L).dat.length⟩ D.L }) ∧ (D.set = none → s = none)) ∨ (D.set ≠ none ∧ ∃ ks, sync nm D = (51, fall ks D)) := by
 unfold sync;rw [if_neg (by rw [hu]; simp), if_neg (by rw [hh]; simp)];rcases struck_two D with ⟨s, e, h⟩ | ⟨h, ks, e⟩
 ·exact .inl ⟨s, by simp only [e]; rfl, h⟩
 ·exact .inr ⟨h, ks, by simp only [e]; rfl⟩
theorem rename_two {D : St} {a b : List UInt8} (hu : D.up = true) (hh : has a D.L = true) (hb : named b = true) (hn : a ≠ b) : (∃ s, rename a b D = (0, { D with set := s, L := put ⟨b, (get a D.L).dat, (get a D.L).safe⟩ (del a D.L) }) ∧ (D.set = none → s = none)) ∨ (D.set ≠ none ∧ ∃ ks, rename a b D = (51, fall ks D)) := by
 unfold rename ren;rw [if_neg (by rw [hu]; simp), if_neg (by rw [hh]; simp), if_neg (by rw [hb]; simp)];rcases struck_two D with ⟨s, e, h⟩ | ⟨h, ks, e⟩
 ·exact .inl ⟨s, by simp only [e, if_neg hn]; rfl, h⟩
 ·exact .inr ⟨h, ks, by simp only [e]; rfl⟩
theorem append_two {D : St} {nm s : List UInt8} (hu : D.up = true) (hb : named nm = true) (hf : D.L.length ≠ 1024) (hz : size D.L + s.length ≤ D.room) :
  (∃ st, append nm s D = (0, { D with set := st, L := put ⟨nm, (get nm D.L).dat ++ s, (get nm D.L).safe⟩ D.L }) ∧ (D.set = none → st = none)) ∨ (D.set ≠ none ∧ ∃ ks, append nm s D = (51, fall ks { D with L := put ⟨nm, (get nm D.L).dat ++ s, (get nm D.L).safe⟩ D.L })) := by
 unfold append;rw [if_neg (by rw [hu]; simp), if_neg (by rw [hb]; simp), if_neg (by omega)];rcases struck_two { D with L := put ⟨nm, (get nm D.L).dat ++ s, (get nm D.L).safe⟩ D.L } with ⟨t, e, h⟩ | ⟨h, ks, e⟩
 ·exact .inl ⟨t, by simp only [e]; rfl, h⟩
 ·exact .inr ⟨h, ks, by simp only [e]; rfl⟩
theorem get_cut {ks : List Int} {L : List Fl} (h : OkL L) {nm : List UInt8} (hh : has nm L = true) : has nm (cut ks L) = true ∧ ∃ k, get nm (cut ks L) = left (get nm L) k := by
 have hok := h.cut ks;have hn : nm ∈ names (cut ks L) := by rw [cut_names]; exact has_names.1 hh
 have hh2 := has_names.2 hn;refine ⟨hh2, ?_⟩;obtain ⟨h1, h2⟩ := get_mem hh2;obtain ⟨f, hf, k, e⟩ := mem_cut h1;have hfn : f.name = nm := by rw [← h2, e]; rfl
 refine ⟨k, ?_⟩;have := get_of h.ne hf;rw [hfn] at this;rw [this, e]
theorem has_cut (ks : List Int) (L : List Fl) (nm : List UInt8) : has nm (cut ks L) = has nm L := by
 rw [Bool.eq_iff_iff, has_names, has_names, cut_names]
theorem left_all (f : Fl) (k : Int) (h : f.safe = f.dat.length) : left f k = f := by
 obtain ⟨n, d, s⟩ := f;simp only at h;subst h;unfold left;simp
end Dk
namespace Cu
end Cu
end
section
open Go Go.RowKit
def sta (C : Array Value) : Nat → List Value → Array Value
 | _, [] => C
 | o, v :: r => sta (C.setIfInBounds o v) (o + 1) r
theorem Jiz : ∀ (vs : List Value) (o : Nat) (C : Array Value), (sta C o vs).size = C.size
 | [], _, _ => rfl
 | v :: r, o, C => by unfold sta; rw [Jiz r]; simp
theorem Jgp : ∀ (vs : List Value) (o : Nat) (C : Array Value) (j : Nat), (j < o ∨ o + vs.length ≤ j) → (sta C o vs)[j]? = C[j]?
 | [], _, _, _, _ => rfl
 | v :: r, o, C, j, h => by
  unfold sta;rw [Jgp r (o + 1) _ j (by rw [List.length_cons] at h; omega), Array.getElem?_setIfInBounds];rw [if_neg (by rw [List.length_cons] at h; omega)]
theorem Jmz : ∀ (vs : List Value) (o : Nat) (C : Array Value) (i : Nat), i < vs.length → o + vs.length ≤ C.size → (sta C o vs)[o + i]? = vs[i]?
 | [], _, _, _, h, _ => by simp at h
 | v :: r, o, C, 0, _, hs => by
  unfold sta;rw [Jgp r (o + 1) _ _ (.inl (by omega))];rw [List.length_cons] at hs;simp [Array.getElem?_setIfInBounds];omega
 | v :: r, o, C, i + 1, h, hs => by
  unfold sta;rw [List.length_cons] at h hs;have := Jmz r (o + 1) (C.setIfInBounds o v) i (by omega) (by simp; omega);rw [show o + (i + 1) = o + 1 + i by omega, this];rfl
theorem Bk.sets {T : TypeId} {g : Nat} : ∀ (vs : List Value) (o : Nat) {C : Array Value} {w : World}, Bk C T w g → Bk (sta C o vs) T (w.setCells g o vs) g
 | [], _, _, _, h => h
 | v :: r, o, _, _, h => Bk.sets r (o + 1) (h.set o v)
theorem Jko (g : Nat) : ∀ (vs : List Value) (o : Nat) (w : World), Wr (fun q => q = g) w (w.setCells g o vs)
 | [], _, w => Wr.refl _ _
 | v :: r, o, w => (Jai (A := fun q => q = g) w ⟨g, o, none⟩ v rfl).trans (Jko g r (o + 1) _)
structure Ofr (B : Nat) (e : TypeId) (sz : Nat) (v : Value) (n : Nat) (xs : List Value) (w : World) : Prop where
 len : xs.length = n * sz
 or_ : (v = .slice none 0 0 ∧ n = 0) ∨ ∃ g o cap C, v = .slice (some ⟨g, o, none⟩) n cap ∧ B ≤ g ∧ Bk C e w g ∧ n ≤ cap ∧ cap ≤ maxLen ∧ C.size = o + cap * sz ∧ ∀ j, j < n * sz → C[o + j]? = xs[j]?
section
variable {B : Nat} {e : TypeId} {sz : Nat} {v : Value} {n : Nat} {xs : List Value} {w w' : World}
theorem Ofr.nil (B : Nat) (e : TypeId) (sz : Nat) (w : World) : Ofr B e sz (.slice none 0 0) 0 [] w := ⟨by simp, .inl ⟨rfl, rfl⟩⟩
theorem Jak (h : w.ownsRow B e sz v n xs) : Ofr B e sz v n xs w := by
 refine ⟨h.1, ?_⟩;rcases h.2 with q | ⟨g, cap, cur, rfl, hb, hg, h1, h2, h3, h4⟩
 ·exact .inl q
 ·refine .inr ⟨g, 0, cap, cur, rfl, hb, hg, h1, h2, by omega, fun j hj => ?_⟩
  rw [← h4, Nat.zero_add, List.getElem?_take, if_pos hj, Array.getElem?_toList]
theorem Ofr.wr {A : Nat → Prop} (h : Ofr B e sz v n xs w) (hw : Wr A w w') (hA : ∀ q, v.ownBlock = some q → ¬ A q) : Ofr B e sz v n xs w' := by
 refine ⟨h.len, ?_⟩;rcases h.or_ with q | ⟨g, o, cap, C, rfl, hb, hg, h1, h2, h3, h4⟩
 ·exact .inl q
 ·exact .inr ⟨g, o, cap, C, rfl, hb, hg.wr hw (hA g rfl), h1, h2, h3, h4⟩
theorem Ofr.below (h : Ofr B e sz v n xs w) (hb : Below w.heap.size w w') : Ofr B e sz v n xs w' := h.wr (A := fun _ => False) (Jad hb) (fun _ _ q => q)
theorem Ofr.lt (h : Ofr B e sz v n xs w) : ∀ q, v.ownBlock = some q → B ≤ q ∧ q < w.heap.size := by
 intro q hq;rcases h.or_ with ⟨rfl, _⟩ | ⟨g, o, cap, C, rfl, hb, hg, _⟩
 ·cases hq
 ·simp only [Value.ownBlock, Option.some.injEq] at hq
  subst hq;exact ⟨hb, hg.lt⟩
theorem Ofr.ne {C : Array Value} {T : TypeId} {b : Nat} (h : Ofr B e sz v n xs w) (k : Bk C T w b) (hne : T ≠ e) : ∀ q, v.ownBlock = some q → q ≠ b := by
 intro q hq;rcases h.or_ with ⟨rfl, _⟩ | ⟨g, o, cap, C', rfl, hb, hg, _⟩
 ·cases hq
 ·simp only [Value.ownBlock, Option.some.injEq] at hq
  subst hq;rintro rfl;unfold Bk at hg k;rw [hg] at k;simp only [Option.some.injEq, Obj.cells.injEq] at k;exact hne k.2.1.symm
theorem Ofr.shape (h : Ofr B e sz v n xs w) (hn : 0 < n) : ∃ g o cap, v = .slice (some ⟨g, o, none⟩) n cap ∧ n ≤ cap ∧ cap ≤ maxLen ∧ (∀ j, j < n * sz → w.cell? ⟨g, o + j, none⟩ = xs[j]?) ∧ (∀ j, w.frozen? ⟨g, j, none⟩ = false) ∧ B ≤ g ∧ g < w.heap.size := by
 rcases h.or_ with ⟨_, rfl⟩ | ⟨g, o, cap, C, rfl, hb, hg, h1, h2, h3, h4⟩
 ·omega
 ·exact ⟨g, o, cap, rfl, h1, h2, fun j hj => by rw [hg.cell]; exact h4 j hj, hg.free, hb, hg.lt⟩
theorem Ofr.val (h : Ofr B e sz v n xs w) : ∃ ao cap, v = .slice ao n cap ∧ cap ≤ maxLen ∧ n ≤ cap := by
 rcases h.or_ with ⟨rfl, rfl⟩ | ⟨g, o, cap, C, rfl, hb, hg, h1, h2, _⟩
 ·exact ⟨none, 0, rfl, Nat.zero_le _, Nat.le_refl _⟩
 ·exact ⟨_, _, rfl, h2, h1⟩
theorem Ofr.set {g o cap : Nat} (h : Ofr B e sz (.slice (some ⟨g, o, none⟩) n cap) n xs w) {j : Nat} (hj : j < n * sz) (u : Value) :
  Ofr B e sz (.slice (some ⟨g, o, none⟩) n cap) n (xs.set j u) (w.setCell ⟨g, o + j, none⟩ u) := by
 refine ⟨by rw [List.length_set]; exact h.len, ?_⟩;rcases h.or_ with ⟨q, _⟩ | ⟨g', o', cap', C, he, hb, hg, h1, h2, h3, h4⟩
 ·cases q
 ·simp only [Value.slice.injEq, Option.some.injEq, Addr.mk.injEq, true_and, and_true] at he
  obtain ⟨⟨rfl, rfl⟩, rfl⟩ := he;refine .inr ⟨g, o, cap, _, rfl, hb, hg.set (o + j) u, h1, h2, by simpa using h3, fun i hi => ?_⟩;rw [Array.getElem?_setIfInBounds, List.getElem?_set];have hsz : n * sz ≤ cap * sz := Nat.mul_le_mul_right _ h1;by_cases hij : i = j
  ·subst hij
   rw [if_pos rfl, if_pos rfl, if_pos (by omega), if_pos (by rw [h.len]; exact hi)]
  ·rw [if_neg (by omega), if_neg (by omega)]
   exact h4 i hi
theorem Ofr.rest {g o cap : Nat} (h : Ofr B e sz (.slice (some ⟨g, o, none⟩) (n + 1) cap) (n + 1) xs w) : Ofr B e sz (.slice (some ⟨g, o + sz, none⟩) n (cap - 1)) n (xs.drop sz) w := by
 have hl := h.len;refine ⟨by rw [List.length_drop, hl, Nat.add_mul]; omega, ?_⟩;rcases h.or_ with ⟨q, _⟩ | ⟨g', o', cap', C, he, hb, hg, h1, h2, h3, h4⟩
 ·cases q
 ·simp only [Value.slice.injEq, Option.some.injEq, Addr.mk.injEq, true_and, and_true] at he
  obtain ⟨⟨rfl, rfl⟩, rfl⟩ := he
  have hc : cap * sz = (cap - 1) * sz + sz := by
   obtain ⟨c', rfl⟩ : ∃ c', cap = c' + 1 := ⟨cap - 1, by omega⟩
   rw [Nat.add_sub_cancel, Nat.add_mul, Nat.one_mul]
  refine .inr ⟨g, o + sz, cap - 1, C, rfl, hb, hg, by omega, by omega, by rw [h3, hc]; omega, fun j hj => ?_⟩;rw [List.getElem?_drop, ← h4 (sz + j) (by rw [Nat.add_mul]; omega), Nat.add_assoc]
variable {P : Program}
theorem Jd2 (t ty : TypeId) (i : TypeInfo) (z : Value) (bytes : Nat) (ht : P.underlying t = some (.slice e)) (hi : P.info? e = some i) (hz : i.zero = some z)
  (hsize : i.size = sz) (hby : i.bytes = bytes) (hzs : z.cells.size = sz) (hsz : 0 < sz) (h : Ofr B e sz v n xs w)
  (a : Addr) (m c : Nat) (news : List Value) (hl : news.length = m * sz) (hnews : ∀ j u, news[j]? = some u → w.cell? (a.add j) = some u) (h1 : ∀ u ∈ news, u.oneCell' = true)
  (h63 : n + m ≤ maxLen) (hbytes : (n + m) * bytes ≤ 140737488355328) (hbase : B ≤ w.heap.size) :
  ∃ v' w', (Builtin.append_ #[t, t] ty #[v, .slice (some a) m c]).run P w = .ok v' w' ∧ Ofr B e sz v' (n + m) (xs ++ news) w' ∧ Wr (fun q => v.ownBlock = some q) w w' ∧ (∀ q, v'.ownBlock = some q → v.ownBlock = some q ∨ w.heap.size ≤ q) := by
 have hlen := h.len;rcases h.or_ with ⟨rfl, rfl⟩ | ⟨g, o, cap, C, rfl, hb, hg, q1, q2, q3, q4⟩
 ·obtain rfl : xs = [] := by simpa using hlen
  obtain ⟨v', w', hr, r1, r2, _, r3⟩ := run_append_own_at (P := P) w B t ty e i z sz bytes ht hi hz hsize hby hzs hsz _ 0 [] (World.ownsRow_nil w B e sz) a m c news hl hnews h1 h63 hbytes hbase;refine ⟨v', w', hr, Jak r1, Jby r2 (fun q hq => .inl hq), fun q hq => ?_⟩;rcases r3 with r | r <;> rw [hq] at r
  ·exact .inl r.symm
  ·simp only [Option.some.injEq] at r; exact .inr (by omega)
 ·have hle : n * sz ≤ cap * sz := Nat.mul_le_mul_right _ q1
  have hcell : ∀ j u, xs[j]? = some u → w.cell? ((⟨g, o, none⟩ : Addr).add j) = some u := fun j u hu => by
   have hj : j < xs.length := (List.getElem?_eq_some_iff.1 hu).1;rw [Addr.add_lit, hg.cell, q4 j (by omega), hu]
  by_cases hroom : n + m ≤ cap
  ·have hin : (n + m) * sz ≤ cap * sz := Nat.mul_le_mul_right _ hroom
   have hin2 : n * sz + m * sz ≤ cap * sz := by rw [← Nat.add_mul]; exact hin
   have hr := run_append_room_cells (P := P) w t ty e i ht hi g o n cap a m c news (by rw [hsize]; exact hl) hnews h1 hroom (fun j hj => by
    rw [hsize, hg.cell];have : o + n * sz + j < C.size := by omega
    simp [this]) (fun j _ => hg.free _)
   rw [hsize] at hr;refine ⟨_, _, hr, ⟨by rw [List.length_append, hlen, hl, Nat.add_mul], .inr ⟨g, o, cap, _, rfl, hb, hg.sets news _, hroom, q2, by rw [Jiz]; exact q3, fun j hj => ?_⟩⟩, (Jko g news _ w).mono (fun q hq => .inl (by rw [hq]; rfl)), fun q hq => .inl hq⟩;rw [Nat.add_mul] at hj;by_cases hj2 : j < n * sz
   ·rw [Jgp _ _ _ _ (.inl (by omega)), List.getElem?_append_left (by omega)]
    exact q4 j hj2
   ·have := Jmz news (o + n * sz) C (j - n * sz) (by omega) (by omega)
    rw [show o + n * sz + (j - n * sz) = o + j by omega] at this;rw [this, List.getElem?_append_right (by omega), hlen]
  ·obtain ⟨v', w', hr, r1, r2⟩ := run_append_arg_grows (P := P) w t ty e i z sz bytes ht hi hz hsize hby hzs hsz ⟨g, o, none⟩ n cap xs hlen hcell a m c news hl hnews (by omega) h63 hbytes
   exact ⟨v', w', hr, Jak (Jaq r1 hbase), Jby r2 (fun q hq => by cases hq), fun q hq => .inr (r1.lt q hq).1⟩
theorem Jc8 {ops : Array Oper} {rest : List Oper} {o : Oper} {a : Act} {Q : Exit → Act → World → Prop} (hgd : o.guard = none) (s x : Operand) (t : TypeId)
  (hop : o.op = .call { callee := .builtin .append, args := #[s, x], argTypes := #[t, t] })
  (i : TypeInfo) (z : Value) (bytes : Nat) (ht : P.underlying t = some (.slice e)) (hi : P.info? e = some i) (hz : i.zero = some z) (hsize : i.size = sz) (hby : i.bytes = bytes) (hzs : z.cells.size = sz) (hsz : 0 < sz)
  (hs : a.eval s = v) (h : Ofr B e sz v n xs w) (ad : Addr) (m c : Nat) (news : List Value) (hx : a.eval x = .slice (some ad) m c) (hl : news.length = m * sz) (hnews : ∀ j u, news[j]? = some u → w.cell? (ad.add j) = some u) (h1 : ∀ u ∈ news, u.oneCell' = true)
  (h63 : n + m ≤ maxLen) (hbytes : (n + m) * bytes ≤ 140737488355328) (hbase : B ≤ w.heap.size)
  (hk : ∀ v' w', Ofr B e sz v' (n + m) (xs ++ news) w' → Wr (fun q => v.ownBlock = some q) w w' → (∀ q, v'.ownBlock = some q → v.ownBlock = some q ∨ w.heap.size ≤ q) → wpList P ops Q rest (a.put o.dst v') w') :
  wpList P ops Q (o :: rest) a w := by
 refine wpList_plain hgd fun K hK => ?_
 obtain ⟨v', w', hr, h2, h3, h4⟩ := Jd2 (P := P) t o.type i z bytes ht hi hz hsize hby hzs hsz h ad m c news hl hnews h1 h63 hbytes hbase;unfold Oper.wp execOp;simp only [hop, resolve, invoke, builtin, Sem.run_bind, Sem.run_pure, Result.andThen_ok, List.map_toArray, List.map_cons, List.map_nil, hs, hx, hr];exact hK _ _ (hk v' w' h2 h3 h4)
theorem Jdw {ops : Array Oper} {o : Oper} {a : Act} {K : Act → World → Prop} {Q : Exit → Act → World → Prop} {E : Prop} (hgd : o.guard = none) (s x : Operand) (t : TypeId)
  (hop : o.op = .call { callee := .builtin .append, args := #[s, x], argTypes := #[t, t] })
  (i : TypeInfo) (z : Value) (bytes : Nat) (ht : P.underlying t = some (.slice e)) (hi : P.info? e = some i) (hz : i.zero = some z) (hsize : i.size = sz) (hby : i.bytes = bytes) (hzs : z.cells.size = sz) (hsz : 0 < sz)
  (hs : a.eval s = v) (h : Ofr B e sz v n xs w) (ad : Addr) (m c : Nat) (news : List Value) (hx : a.eval x = .slice (some ad) m c) (hl : news.length = m * sz) (hnews : ∀ j u, news[j]? = some u → w.cell? (ad.add j) = some u) (h1 : ∀ u ∈ news, u.oneCell' = true)
  (h63 : n + m ≤ maxLen) (hbytes : (n + m) * bytes ≤ 140737488355328) (hbase : B ≤ w.heap.size)
  (hk : ∀ v' w', Ofr B e sz v' (n + m) (xs ++ news) w' → Wr (fun q => v.ownBlock = some q) w w' → (∀ q, v'.ownBlock = some q → v.ownBlock = some q ∨ w.heap.size ≤ q) → K (a.put o.dst v') w') :
  if Region.wanted o (yielded ops a.tmps) = true then Oper.wp P o a w K Q else E := by
 have hw : Region.wanted o (yielded ops a.tmps) = true := by simp [Region.wanted, hgd]
 rw [if_pos hw];obtain ⟨v', w', hr, h2, h3, h4⟩ := Jd2 (P := P) t o.type i z bytes ht hi hz hsize hby hzs hsz h ad m c news hl hnews h1 h63 hbytes hbase;unfold Oper.wp execOp;simp only [hop, resolve, invoke, builtin, Sem.run_bind, Sem.run_pure, Result.andThen_ok, List.map_toArray, List.map_cons, List.map_nil, hs, hx, hr];exact hk v' w' h2 h3 h4
end
end
end Go.Proofs.YtmammmjmipgmoaaGreatDoor
