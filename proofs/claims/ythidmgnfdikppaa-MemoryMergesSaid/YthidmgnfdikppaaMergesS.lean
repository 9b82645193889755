/- Layer 11: the cells of an Iter as a range over a function. -/
import Derived.Test.YthidmgnfdikppaaMergesR
import Derived.RangeFuncNested
import Derived.RangeFuncBound
import Derived.RangeFuncCalls
import Derived.RangeFuncLeaves
import Derived.Shelf.Abstract
import Derived.Shelf.RegionOpen
import Derived.OwnWalkIn
import Derived.TacticsInMore
import Derived.LoopNIn
import Derived.LoopIn
import Derived.RangeFuncBox
import Derived.RangeFuncFrom
import Derived.Maps.OwnIn
import Derived.Deep.LoopGhost
namespace Go.Proofs.Ythidmgnfdikppaa
set_option linter.unusedVariables false
open Go Go.RowKit Go.Shelf
attribute [local go_sem ↓] run_index_S
attribute [local go_sem] S_append S_extract
attribute [local go_sem] Oper.semAt_some

def pv11 : Option Nat → Value
  | some b => .pointer (some ⟨b, 0, none⟩)
  | none => .pointer none
def ItO (B N : Nat) (p : Option Nat) (L : List M.Cl) (w : World) : Prop := match p with
  | some bi => It11 B N bi L w
  | none => L = []
theorem ItO.below {B N : Nat} {p : Option Nat} {L : List M.Cl} {w w' : World} (h : ItO B N p L w) (hb : Below w.heap.size w w') : ItO B N p L w' := by
  cases p with
  | none => exact h
  | some bi => exact It11.below h hb
set_option maxHeartbeats 4000000 in
set_option maxRecDepth 100000 in
theorem nextNull11_any (B : Nat) (w : World) (hB : B ≤ w.heap.size) : Calls Try.prog 48 #[.pointer none] w fun e w' => e = .returned (.tuple #[.agg (clA M.cl0), .bool false]) ∧ Below B w w' ∧ NextKeeps w w' := by
  have HB := Lib.hid hB
  clear hB
  go_enter Try.func48, Try.ntmps48
  go_wp2_with fail
  try simp only [Exit.inBlock, Exit.then]
  have HX := Lib.hid (rowIn_new (clA M.cl0) 38 w)
  exact bodyPost_ret (ret_rowP2 rfl _ _ w.heap.size rfl (load_struct Try.underlying38 (by kernel_rfl) HX.out)) rfl ⟨rfl, (Below.refl _ _).alloc HB.out _, .below ((Below.refl _ _).alloc (Nat.le_refl _) _)⟩
theorem nextO_any (B N : Nat) (p : Option Nat) (L : List M.Cl) (w : World) (h : ItO B N p L w) (hB : B ≤ w.heap.size) : Calls Try.prog 48 #[pv11 p] w fun e w' => e = .returned (.tuple #[.agg (clA (L.headD M.cl0)), .bool (!L.isEmpty)]) ∧ ItO B N p L.tail w' ∧ Below B w w' ∧ NextKeeps w w' := by
  cases p with
  | none =>
    have h : L = [] := h
    subst h
    exact (nextNull11_any B w hB).mono fun e w' hh => ⟨hh.1, rfl, hh.2⟩
  | some bi =>
    cases L with
    | nil => exact (nextNil11_any B N bi w h).mono fun e w' hh => hh
    | cons c L => exact (nextCons11_any B N bi c L w h).mono fun e w' hh => hh
theorem each11F_any (p : Option Nat) (w : World) : Calls Try.prog 91 #[pv11 p] w fun e w' => e = .returned (.func (.func 126) #[] #[.pointer (some ⟨w.heap.size, 0, none⟩)]) ∧ w' = w.alloc (.cells #[pv11 p] 64) := by
  cases p with
  | none =>
    unfold pv11
    go_enter Try.func91, Try.ntmps91
    go_wp2_with fail
    go_ret
    exact ⟨rfl, rfl⟩
  | some bi =>
    unfold pv11
    go_enter Try.func91, Try.ntmps91
    go_wp2_with fail
    go_ret
    exact ⟨rfl, rfl⟩
theorem NextKeeps.row {w w' : World} (h : NextKeeps w w') {C : Array Value} {T : TypeId} {b : Nat} (hr : RowIn C T w b) (h1 : T ≠ 127) (h2 : T ≠ 71) : RowIn C T w' b :=
  h.same b _ hr fun C' fz' => ⟨fun e => by injection e with _ e _; exact h1 e, fun e => by injection e with _ e _; exact h2 e⟩
theorem NextKeeps.own {w w' : World} (h : NextKeeps w w') {B : Nat} {T : TypeId} {sz n : Nat} {v : Value} {xs : List Value} (ho : w.ownsRow B T sz v n xs) (h1 : T ≠ 127) (h2 : T ≠ 71) : w'.ownsRow B T sz v n xs := by
  refine ⟨ho.1, ?_⟩
  rcases ho.2 with h0 | ⟨g, cap', cur, hv, hB, hg, r⟩
  · exact .inl h0
  · exact .inr ⟨g, cap', cur, hv, hB, h.same g _ hg fun C' fz' => ⟨fun e => by injection e with _ e _; exact h1 e, fun e => by injection e with _ e _; exact h2 e⟩, r⟩
theorem ItO.other {B N : Nat} {p : Option Nat} {L : List M.Cl} {w w' : World} {C : Array Value} {tc : Nat} (h : ItO B N p L w) (hr : RowIn C 38 w tc) (hN : N ≤ tc) (ht : Two tc none w w') : ItO B N p L w' := by
  cases p with
  | none => exact h
  | some bi =>
    obtain ⟨ao, n, cap, H, R, hi⟩ := h
    have h1 : bi ≠ tc := rowIn_ne hi.hq.row hr (by decide)
    have h2 := row_apart hr hi.hq.own (by decide)
    refine ⟨ao, n, cap, H, R, hi.keep ht.size (fun b hb => ht.block b ?_ ?_ (by simp))⟩
    · rcases hb with e | e | ⟨_, C, fz, e⟩
      · rw [e]; exact hi.hq.row.lt
      · exact (hi.hq.lt e).2
      · exact (Array.getElem?_eq_some_iff.1 e).1
    · rcases hb with e | e | ⟨e, _⟩
      · rw [e]; exact h1
      · exact h2 b e
      · omega
theorem two_set3 {w : World} {tc : Nat} (a b c : Value) : Two tc none w (((w.setCell ⟨tc, 0, none⟩ a).setCell ⟨tc, 1, none⟩ b).setCell ⟨tc, 2, none⟩ c) :=
  (((Two.refl tc none w).set (p := ⟨tc, 0, none⟩) rfl a).set (p := ⟨tc, 1, none⟩) rfl b).set (p := ⟨tc, 2, none⟩) rfl c
theorem rowIn_set3 {w : World} {tc : Nat} {x y : M.Cl} {T : TypeId} (h : RowIn (clA x) T w tc) : RowIn (clA y) T (((w.setCell ⟨tc, 0, none⟩ (.string (S y.key))).setCell ⟨tc, 1, none⟩ (.int .i64 y.seq)).setCell ⟨tc, 2, none⟩ (.string (S y.val))) tc :=
  ((h.set 0 _).set 1 _).set 2 _
theorem least_go11 {p : Nat → Prop} (h : ∃ n, p n) : ∃ k, p k ∧ k = leastOf p := ⟨leastOf p, (leastOf_spec h).1, rfl⟩
theorem least_lt11 {p q : Nat → Prop} {k m : Nat} (h : q m) (hk : k = leastOf p) (hm : m < k) : leastOf q < leastOf p := hk ▸ Nat.lt_of_le_of_lt ((leastOf_spec ⟨m, h⟩).2 m h) hm
/-- What holds ahead of a round: k cells are still to come, the one that is at hand with them. -/
def EaK (B N : Nat) (p : Option Nat) (L : List M.Cl) (J : Nat → List M.Cl → World → Prop) (bx tc k : Nat) (ok : Value) (w : World) : Prop :=
  ∃ pre rem, rem.length = k ∧ L = pre ++ rem ∧ ok = .bool (!rem.isEmpty) ∧ RowIn (clA (rem.headD M.cl0)) 38 w tc ∧ ItO B N p rem.tail w ∧ J tc pre w ∧ RowIn #[pv11 p] 64 w bx ∧ B ≤ w.heap.size
set_option maxHeartbeats 4000000 in
set_option maxRecDepth 100000 in
theorem each11_in (n : Nat) (hn : 1 ≤ n) (B N : Nat) (p : Option Nat) (L : List M.Cl) (J : Nat → List M.Cl → World → Prop) (lp bx : Nat)
    (hK : ∀ tc pre W W', J tc pre W → NextKeeps W W' → Below B W W' → J tc pre W')
    (hS : ∀ tc pre W W', J tc pre W → Two tc none W W' → W'.heap.size = W.heap.size → J tc pre W')
    (hY : ∀ tc pre x rest W, J tc pre W → ItO B N p rest W → RowIn (clA x) 38 W tc → RowIn #[pv11 p] 64 W bx → L = pre ++ x :: rest → YieldAt Fence.wide (n - 1) Try.prog lp #[.agg (clA x)] W fun e W' =>
      e = .returned (.bool true) ∧ J tc (pre ++ [x]) W' ∧ ItO B N p rest W' ∧ RowIn (clA x) 38 W' tc ∧ RowIn #[pv11 p] 64 W' bx ∧ B ≤ W'.heap.size)
    (W : World) (hbx : RowIn #[pv11 p] 64 W bx) (hI : ItO B N p L W) (hB : B ≤ W.heap.size) (hN : N ≤ W.heap.size) (h0 : ∀ tc W', W.heap.size ≤ tc → NextKeeps W W' → Below B W W' → J tc [] W') :
    CallsIn Fence.wide n Try.prog 126 #[.func (.yield lp) #[] #[], .pointer (some ⟨bx, 0, none⟩)] W fun e W' => (∃ v, e = .returned v) ∧ ∃ tc, J tc L W' := by
  have HJ := Lib.hid (And.intro hK (And.intro hS (And.intro hY h0)))
  have C0 := Lib.hid (nextO_any B N p L W hI hB)
  have x0 : W.cell? ⟨bx, 0, none⟩ = some (pv11 p) := hbx.cell 0
  have HX := Lib.hid hbx
  have HB := Lib.hid hB
  clear hK hS hY h0 hI hbx hB
  refine callsIn_of_wp Try.func126 rfl trivial ?_ rfl
  simp only [Try.ntmps126, List.size_toArray, List.length_cons, List.length_nil, Nat.reduceAdd, Nat.reduceSub, Array.replicate_succ, Array.replicate_zero, List.push_toArray, List.append_toArray, List.nil_append, List.cons_append]
  gi_wp2
  refine ⟨trivial, (callsIn_wide.2 (C0.out)).mono ?_⟩
  rintro e W1 ⟨rfl, hI1, hb1, hk1⟩
  have HE := Lib.hid (show EaK B N p L J bx W1.heap.size L.length (.bool (!L.isEmpty)) (W1.alloc (.cells (clA (L.headD M.cl0)) 38)) from by
    have hal : Below W1.heap.size W1 (W1.alloc (.cells (clA (L.headD M.cl0)) 38)) := (Below.refl _ _).alloc (Nat.le_refl _) _
    refine ⟨[], L, rfl, rfl, rfl, rowIn_new _ _ _, hI1.below hal, HJ.out.2.2.2 _ _ (hk1.size) (hk1.trans (.below hal)) (hb1.trans (hal.mono (Nat.le_trans HB.out hb1.size))), (hk1.row HX.out (by decide) (by decide)).more _, Nat.le_trans HB.out (Nat.le_trans hb1.size hal.size)⟩)
  have HNT := Lib.hid (Nat.le_trans hN hk1.size)
  clear hI1 hb1 hk1 C0 x0 hN
  generalize (!L.isEmpty) = b0 at *
  generalize L.headD M.cl0 = hd0 at *
  gi_wp2
  have HE : Hid (EaK B N p L J bx W1.heap.size L.length (.bool b0) (W1.alloc (.cells #[.string (S hd0.key), .int .i64 hd0.seq, .string (S hd0.val)] 38))) := HE
  generalize W1.alloc (.cells #[.string (S hd0.key), .int .i64 hd0.seq, .string (S hd0.val)] 38) = W2 at *
  generalize W1.heap.size = tc at *
  gi_loopw [4] (fun ok wr => ∃ k, EaK B N p L J bx tc k ok wr) (fun ok wr => leastOf (fun k => EaK B N p L J bx tc k ok wr))
  case atStart => exact ⟨_, HE.out⟩
  case round =>
    clear HE
    obtain ⟨k, hk1, hk2⟩ := least_go11 hrel
    have HK2 := Lib.hid hk2
    obtain ⟨pre, rem, hlen, hL, rfl, hrow, hIt, hj, hbx, hB⟩ := hk1
    clear hk2 hrel
    cases rem with
    | nil =>
      have HJL := Lib.hid (show J tc L wr from by rw [hL, List.append_nil]; exact hj)
      clear hL hlen hrow hIt hj hbx hB HK2
      gi_wp2
      refine ⟨fun _ h => (by cases h), ?_⟩
      gi_wp2
      go_end0
      exact ⟨⟨_, rfl⟩, tc, HJL.out⟩
    | cons x rest =>
      obtain ⟨fn, tmps, assign, body, hy, hR⟩ := HJ.out.2.2.1 tc pre x rest wr hj hIt hrow hbx hL
      have r0 : wr.cell? ⟨tc, 0, none⟩ = some (.string (S x.key)) := hrow.cell 0
      have r1 : wr.cell? ⟨tc, 1, none⟩ = some (.int .i64 x.seq) := hrow.cell 1
      have r2 : wr.cell? ⟨tc, 2, none⟩ = some (.string (S x.val)) := hrow.cell 2
      have HL := Lib.hid hL
      have HLN := Lib.hid hlen
      clear hL hlen hrow hIt hj hbx hB
      gi_wp2
      refine hR.mono ?_
      rintro e W3 ⟨rfl, hj3, hI3, hr3, hb3, hB3⟩
      have x0 : W3.cell? ⟨bx, 0, none⟩ = some (pv11 p) := hb3.cell 0
      have C3 := Lib.hid (nextO_any B N p rest W3 hI3 hB3)
      have HJ3 := Lib.hid hj3
      have HR3 := Lib.hid hr3
      have HB3 := Lib.hid (And.intro hb3 hB3)
      clear hj3 hI3 hr3 hb3 hB3 r0 r1 r2 hy hR
      gi_wp2
      refine ⟨trivial, (callsIn_wide.2 (C3.out)).mono ?_⟩
      rintro e W4 ⟨rfl, hI4, hb4, hk4⟩
      have hr4 := hk4.row HR3.out (by decide) (by decide)
      have r0 : W4.cell? ⟨tc, 0, none⟩ = some (.string (S x.key)) := hr4.cell 0
      have r1 : W4.cell? ⟨tc, 1, none⟩ = some (.int .i64 x.seq) := hr4.cell 1
      have r2 : W4.cell? ⟨tc, 2, none⟩ = some (.string (S x.val)) := hr4.cell 2
      have f0 := hr4.free 0
      have f1 := hr4.free 1
      have f2 := hr4.free 2
      have HR4 := Lib.hid hr4
      have HI4 := Lib.hid hI4
      have HJ4 := Lib.hid (HJ.out.1 tc _ _ _ HJ3.out hk4 hb4)
      have HB4 := Lib.hid (And.intro (hk4.row HB3.out.1 (by decide) (by decide)) (Nat.le_trans HB3.out.2 hb4.size))
      obtain ⟨hd1, hh1⟩ : ∃ y, y = rest.headD M.cl0 := ⟨_, rfl⟩
      obtain ⟨b1, hh2⟩ : ∃ y, y = !rest.isEmpty := ⟨_, rfl⟩
      rw [← hh1, ← hh2]
      have HH := Lib.hid (And.intro hh1 hh2)
      clear hI4 hb4 hk4 hr4 hh1 hh2 C3 x0
      gi_wp2
      have HNW := Lib.hid (two_set3 (w := W4) (tc := tc) (.string (S hd1.key)) (.int .i64 hd1.seq) (.string (S hd1.val)))
      have HEK : EaK B N p L J bx tc rest.length (.bool b1) (((W4.setCell ⟨tc, 0, none⟩ (.string (S hd1.key))).setCell ⟨tc, 1, none⟩ (.int .i64 hd1.seq)).setCell ⟨tc, 2, none⟩ (.string (S hd1.val))) := by
        refine ⟨pre ++ [x], rest, rfl, by rw [HL.out]; simp, by rw [HH.out.2], ?_, ?_, ?_, ?_, ?_⟩
        · rw [← HH.out.1]; exact rowIn_set3 HR4.out
        · exact HI4.out.other HR4.out HNT.out HNW.out
        · exact HJ.out.2.1 tc _ _ _ HJ4.out HNW.out (by simp)
        · exact (HNW.out.block bx HB4.out.1.lt (rowIn_ne HB4.out.1 HR4.out (by decide)) (by simp)).trans HB4.out.1
        · exact Nat.le_trans HB4.out.2 HNW.out.size
      exact ⟨⟨_, HEK⟩, least_lt11 HEK HK2.out (by rw [← HLN.out]; simp)⟩

end Go.Proofs.Ythidmgnfdikppaa
