import Derived.Test.YtmammmjmipgmoaaGreatDoorZO
import Derived.Test.YtmammmjmipgmoaaGreatDoorZQ
import Derived.Test.YtmammmjmipgmoaaGreatDoorZM
import Derived.Test.YtmammmjmipgmoaaGreatDoorZF
import Derived.Maps.OwnIn
import Derived.RangeFuncNested
import Derived.Test.YtmammmjmipgmoaaGreatDoorZQh
set_option linter.unusedVariables false
set_option maxRecDepth 100000
set_option maxHeartbeats 16000000
namespace Go.Proofs.YtmammmjmipgmoaaGreatDoor
open Go Go.RowKit Go.Shelf
attribute [local go_sem ↓] run_index_S
attribute [local go_sem] S_append S_extract
attribute [local go_sem] Oper.semAt_some
section
variable {X : Nat → Prop} {B b d : Nat} {D : Dk.St} {w : World}
open Hl
def rdV6 (bl bg tb : Nat) : Value := .func (Fn.func 111) #[] #[.pointer (some ⟨bl, 0, none⟩), .pointer (some ⟨bg, 0, none⟩), .pointer (some ⟨tb, 0, none⟩)]
theorem Jow {bl bg tb ga cap : Nat} {T1 T2 T3 T4 : TypeId} {C : Array Value} (s : Sm) (v : Value) (h : DkX X B d D w) (hv : Vr w) (tx u : List UInt8) (hr : Dk.read (nm s.n) D = (0, tx)) (kb : Bk C T1 w b) (hC : 2 < C.size) (hC0 : C[0]? = some (.pointer (some ⟨d, 0, none⟩)))
  (k1 : Bk #[.pointer (some ⟨b, 0, none⟩)] T2 w bl) (k2 : Bk #[.int .i64 (s.n : Nat), v] T3 w bg) (kt : Bk #[.string (S u)] 9 w tb) (kg : Bk #[rdV6 bl bg tb] T4 w ga) (n1 : bl ≠ tb) (n2 : bg ≠ tb) (n3 : ga ≠ tb) (n4 : b ≠ tb) (hn : s.n ≤ 1000) :
  Calls Tryz.prog 61 #[.pointer (some ⟨b, 0, none⟩), .slice (some ⟨ga, 0, none⟩) 1 cap] w fun e w' => e = .returned (.int .i64 0) ∧ ∃ w1, Below w.heap.size w w1 ∧ w' = w1.setCell ⟨tb, 0, none⟩ (.string (S tx)) := by
 have keep : ∀ w', (∃ w1, Below w.heap.size w w1 ∧ w' = w1.setCell ⟨tb, 0, none⟩ (.string (S tx))) → Wr (fun q => q = tb) w w' := by
  rintro w' ⟨w1, h1, rfl⟩;exact (Jad h1).trans (Jai _ _ _ rfl)
 have key := Jc7 [(111, #[], #[.pointer (some ⟨bl, 0, none⟩), .pointer (some ⟨bg, 0, none⟩), .pointer (some ⟨tb, 0, none⟩)])] ga cap (fun i w' => (i = 0 ∧ w' = w) ∨ (i = 1 ∧ ∃ w1, Below w.heap.size w w1 ∧ w' = w1.setCell ⟨tb, 0, none⟩ (.string (S tx)))) (fun _ _ => False) w (.inl ⟨rfl, rfl⟩)
  (fun i w' hR j hj => by
   match j, hj with
   | 0, _ =>
    rcases hR with ⟨_, rfl⟩ | ⟨_, q⟩
    ·exact kg.cell 0
    ·exact (kg.wr (keep _ q) n3).cell 0)
  (fun i hi w' hR => by
   match i, hi with
   | 0, _ =>
    rcases hR with ⟨_, rfl⟩ | ⟨q, _⟩
    ·refine (Jqb (X := X) (B := B) (b := b) (d := d) (D := D) h hv s v (k1.cell 0) (k2.cell 0) (k2.cell 1) (by rw [kb.cell]; exact hC0) u kt n1 n2 n4 hn).mono ?_
     rintro e w2 ⟨rfl, q⟩;rw [hr] at q;exact ⟨0, by rw [hr], fun _ => .inr ⟨rfl, q⟩, fun z => absurd rfl z⟩
    ·cases q)
  (by simp) (fun i hi => by
   match i, hi with
   | 0, _ => exact Jav (fn := Tryz.f111) (by kernel_rfl) (by kernel_rfl) rfl)
 have k2' := Jgr (b := b) _ (fun v w' => v = 0 ∧ ∃ w1, Below w.heap.size w w1 ∧ w' = w1.setCell ⟨tb, 0, none⟩ (.string (S tx))) (key.mono (by
  rintro e w2 ⟨v, rfl, q1, q2⟩;refine ⟨v, rfl, ?_⟩;by_cases hv0 : v = 0
  ·rcases q1 hv0 with ⟨q, _⟩ | ⟨_, q⟩
   ·cases q
   ·exact ⟨hv0, q⟩
  ·exact (q2 hv0).elim)) (by
  rintro v w2 ⟨_, q⟩
  exact ⟨_, _, kb.wr (keep _ q) n4, hC⟩)
 refine k2'.mono ?_;rintro e w2 ⟨v, w1, rfl, ⟨rfl, q⟩, rfl⟩;exact ⟨rfl, q⟩
def rdW6 (b : Nat) (n : Nat) (v : Value) (a c : Nat) (w : World) : World := (((((((w.alloc (.cells #[.pointer (some ⟨b, 0, none⟩)] 33)).alloc (.cells #[.int .i64 (n : Nat), v] 88)).alloc (.cells #[.int .i64 (a : Nat)] 3)).alloc (.cells #[.int .i64 (c : Nat)] 3)).alloc (.cells #[.slice none 0 0] 52)).alloc (.cells #[.int .i64 0] 25)).alloc (.cells #[.string (S [])] 9)).alloc (.cells #[rdV6 w.heap.size (w.heap.size + 1) (w.heap.size + 6)] 58)
structure RdB (b n : Nat) (v : Value) (a c : Nat) (w0 W : World) (bl bg bf bu rs re tb ga : Nat) : Prop where
 bel : Below w0.heap.size w0 W
 l : Bk #[.pointer (some ⟨b, 0, none⟩)] 33 W bl
 g : Bk #[.int .i64 (n : Nat), v] 88 W bg
 f : Bk #[.int .i64 (a : Nat)] 3 W bf
 u : Bk #[.int .i64 (c : Nat)] 3 W bu
 r : Bk #[.slice none 0 0] 52 W rs
 e : Bk #[.int .i64 0] 25 W re
 t : Bk #[.string (S [])] 9 W tb
 a : Bk #[rdV6 bl bg tb] 58 W ga
 o : w0.heap.size ≤ bl ∧ bl < bg ∧ bg < bf ∧ bf < bu ∧ bu < rs ∧ rs < re ∧ re < tb ∧ tb < ga ∧ ga < W.heap.size
structure RdC (n : Nat) (v : Value) (a c : Nat) (tx : List UInt8) (w0 W : World) (bg bf bu rs re tb : Nat) : Prop where
 bel : Below w0.heap.size w0 W
 g : Bk #[.int .i64 (n : Nat), v] 88 W bg
 f : Bk #[.int .i64 (a : Nat)] 3 W bf
 u : Bk #[.int .i64 (c : Nat)] 3 W bu
 r : Bk #[.slice none 0 0] 52 W rs
 e : Bk #[.int .i64 0] 25 W re
 t : Bk #[.string (S tx)] 9 W tb
 o : w0.heap.size < bg ∧ bg < bf ∧ bf < bu ∧ bu < rs ∧ rs < re ∧ re < tb ∧ tb < W.heap.size
theorem RdB.call {b n : Nat} {v : Value} {a c : Nat} {w0 W w1 : World} {bl bg bf bu rs re tb ga : Nat} (h : RdB b n v a c w0 W bl bg bf bu rs re tb ga) (hb : Below W.heap.size W w1) (tx : List UInt8) : RdC n v a c tx w0 (w1.setCell ⟨tb, 0, none⟩ (.string (S tx))) bg bf bu rs re tb := by
 obtain ⟨o1, o2, o3, o4, o5, o6, o7, o8, o9⟩ := h.o;have hs := hb.size;have h1 := h.bel.size;refine ⟨?_, (h.g.below hb).other (by omega) _ _, (h.f.below hb).other (by omega) _ _, (h.u.below hb).other (by omega) _ _, (h.r.below hb).other (by omega) _ _, (h.e.below hb).other (by omega) _ _, (h.t.below hb).set 0 _, ?_⟩
 ·exact (Jaa h.bel hb).setCell (p := ⟨tb, 0, none⟩) (by simp only; omega) _
 ·refine ⟨by omega, by omega, by omega, by omega, by omega, by omega, ?_⟩
  simp only [World.setCell, Array.size_modify];omega
theorem rdW6_b (b n : Nat) (v : Value) (a c : Nat) (w : World) : RdB b n v a c w (rdW6 b n v a c w) w.heap.size (w.heap.size + 1) (w.heap.size + 2) (w.heap.size + 3) (w.heap.size + 4) (w.heap.size + 5) (w.heap.size + 6) (w.heap.size + 7) := by
 have nx : ∀ (W : World) (C : Array Value) (T : TypeId) (k : Nat), W.heap.size = k → Bk C T (W.alloc (.cells C T)) k := fun W C T k e => by rw [← e]; exact Jae _ _ _
 refine ⟨?_, ?_, ?_, ?_, ?_, ?_, ?_, ?_, ?_, ?_⟩
 ·exact ((((((((Below.refl _ w).alloc (Nat.le_refl _) _).alloc (by simp) _).alloc (by simp; omega) _).alloc (by simp; omega) _).alloc (by simp; omega) _).alloc (by simp; omega) _).alloc (by simp; omega) _).alloc (by simp; omega) _
 ·exact (((((((nx _ _ _ _ rfl).more _).more _).more _).more _).more _).more _).more _
 ·exact ((((((nx _ _ _ _ (by simp)).more _).more _).more _).more _).more _).more _
 ·exact (((((nx _ _ _ _ (by simp)).more _).more _).more _).more _).more _
 ·exact ((((nx _ _ _ _ (by simp)).more _).more _).more _).more _
 ·exact (((nx _ _ _ _ (by simp)).more _).more _).more _
 ·exact ((nx _ _ _ _ (by simp)).more _).more _
 ·exact (nx _ _ _ _ (by simp)).more _
 ·exact nx _ _ _ _ (by simp)
 ·refine ⟨by omega, by omega, by omega, by omega, by omega, by omega, by omega, by omega, ?_⟩
  unfold rdW6;simp
end
theorem Jqc (w : World) (o : Obj) (x : M.Sp) (T : TypeId) : ∀ j u, (spL x)[j]? = some u → ((w.alloc o).alloc (.cells #[.int .i64 x.trace, .int .i64 x.id, .int .i64 x.parent, .string (S x.svc), .string (S x.host), .int .i64 x.start, .int .i64 x.dur, .string (S x.note)] T)).cell? ((⟨w.heap.size + 1, 0, none⟩ : Addr).add j) = some u := by
 have := Jmf (w.alloc o) x T;rw [World.size_alloc] at this;exact this
theorem Je2 {A : Nat → Prop} {W W' : World} (hw : Wr A W W') (hA : ∀ k, A k → ∃ o : Obj, W.heap[k]? = some o ∧ o.isCells = true) : KeepsOthers W W' :=
 ⟨hw.size, fun k o hk ho => (hw.block k (Array.getElem?_eq_some_iff.1 hk).1 (fun ha => by
  obtain ⟨o', h1, h2⟩ := hA k ha;rw [hk] at h1;cases h1
  rw [ho] at h2
  cases h2)).trans hk⟩
theorem Je3 {W W' : World} (hb : Below W.heap.size W W') : KeepsOthers W W' := Je2 (A := fun _ => False) (Jad hb) (fun _ q => q.elim)
theorem Jcy {C : Array Value} {T : TypeId} {W : World} {b : Nat} (h : Bk C T W b) : ∃ o : Obj, W.heap[b]? = some o ∧ o.isCells = true := ⟨_, h, rfl⟩
theorem Je4 {B : Nat} {e : TypeId} {sz : Nat} {v : Value} {n : Nat} {xs : List Value} {W : World} (h : W.ownsRow B e sz v n xs) : ∀ q, v.ownBlock = some q → ∃ o : Obj, W.heap[q]? = some o ∧ o.isCells = true := by
 intro q hq;rcases h.2 with ⟨rfl, _⟩ | ⟨g, cap, cur, rfl, _, hg, _⟩
 ·cases hq
 ·simp only [Value.ownBlock, Option.some.injEq] at hq
  subst hq;exact ⟨_, hg, rfl⟩
theorem Jcz {C : Array Value} {T : TypeId} {W W' : World} {b : Nat} {row : Option Nat} (h : Bk C T W b) (hg : W.grownBy W' row) (hr : ∀ r, row = some r → ∃ o : Obj, W.heap[r]? = some o ∧ o.isCells = false) : Bk C T W' b :=
 h.grown hg (fun e => by
  obtain ⟨o, h1, h2⟩ := hr b e.symm;obtain ⟨o', h3, h4⟩ := Jcy h;rw [h1] at h3;cases h3
  rw [h4] at h2
  cases h2)
theorem Jef {B : Nat} {e : TypeId} {sz : Nat} {v : Value} {n : Nat} {xs : List Value} {W W' : World} {row : Option Nat} (h : W.ownsRow B e sz v n xs) (hg : W.grownBy W' row) (hr : ∀ r, row = some r → ∃ o : Obj, W.heap[r]? = some o ∧ o.isCells = false) : W'.ownsRow B e sz v n xs := by
 refine h.kept hg ?_;rcases h.2 with ⟨rfl, _⟩ | ⟨g, cap, cur, rfl, _, hgb, _⟩
 ·exact .inl rfl
 ·refine .inr fun e' => ?_
  obtain ⟨o, ho, hc⟩ := hr g (by simpa [Value.ownBlock] using e'.symm);rw [hgb] at ho; cases ho; cases hc
open Hl in
structure RdI (sn a c : Nat) (w2 : World) (pre : List (List UInt8 × Nat)) (W : World) : Prop where
 s : ∃ ao cap, Bk #[.slice ao (selP sn a pre).length cap] 52 W w2.heap.size ∧ W.ownsRow (w2.heap.size + 3) 39 8 (.slice ao (selP sn a pre).length cap) (selP sn a pre).length (sps (selP sn a pre))
 n : Bk #[.int .i64 (sn + pre.length : Nat)] 3 W (w2.heap.size + 1)
 bel : Below w2.heap.size w2 W
 sz : w2.heap.size + 3 ≤ W.heap.size
 up : pre = [] ∨ sn + pre.length ≤ c
def RdX (sn a c : Nat) (w2 : World) (cd : Code) (pre : List (List UInt8 × Nat)) (W : World) : Prop :=
 cd = .exit 0 ∧ ∃ pre' x, pre = pre' ++ [x] ∧ RdI sn a c w2 pre' W ∧ c ≤ sn + pre'.length
theorem Jkr (sn a c : Nat) (w2 : World) (B : Nat) (hB : w2.heap.size ≤ B) : OwnFrom B (RdI sn a c w2) := by
 rintro pre W W' row ⟨⟨ao, cap, h1, h2⟩, h3, h4, h5, h7⟩ hg hr;have hr' : ∀ r, row = some r → ∃ o : Obj, W.heap[r]? = some o ∧ o.isCells = false := fun r e => (hr r e).2
 exact ⟨⟨ao, cap, Jcz h1 hg hr', Jef h2 hg hr'⟩, Jcz h3 hg hr', h4.grown hg h4.size (fun k e => Nat.le_trans hB (hr k e).1), Nat.le_trans h5 hg.size, h7⟩
theorem Jqd (sn a c : Nat) (w2 : World) (B : Nat) (hB : w2.heap.size ≤ B) (cd : Code) : OwnFrom B (RdX sn a c w2 cd) := by
 rintro pre W W' row ⟨h1, p, x, h2, h3, h4⟩ hg hr;exact ⟨h1, p, x, h2, Jkr sn a c w2 B hB p W W' row h3 hg hr, h4⟩
theorem RdI.step {sn a c : Nat} {w2 W W' : World} {pre pre' : List (List UInt8 × Nat)} (h : RdI sn a c w2 pre W) {ao : Option Addr} {cap : Nat} {v : Value} {k : Nat} {xs : List Value} (hv : W.ownsRow (w2.heap.size + 3) 39 8 v k xs) (hb : Bk #[v] 52 W w2.heap.size)
  (hw : Wr (fun q => q = w2.heap.size ∨ q = w2.heap.size + 1 ∨ v.ownBlock = some q) W W')
  (h1 : Bk #[.slice ao (Hl.selP sn a pre').length cap] 52 W' w2.heap.size) (h2 : W'.ownsRow (w2.heap.size + 3) 39 8 (.slice ao (Hl.selP sn a pre').length cap) (Hl.selP sn a pre').length (sps (Hl.selP sn a pre')))
  (h3 : Bk #[.int .i64 (sn + pre'.length : Nat)] 3 W' (w2.heap.size + 1)) (h5 : pre' = [] ∨ sn + pre'.length ≤ c) : KeepsOthers W W' ∧ KpB (w2.heap.size + 2) W W' ∧ RdI sn a c w2 pre' W' := by
 refine ⟨Je2 hw (fun q hq => ?_), ⟨World.cell?_of_block (a := ⟨w2.heap.size + 2, 0, none⟩) (hw.block _ (by have := h.sz; show w2.heap.size + 2 < W.heap.size; omega) (fun q => ?_)), hw.size⟩, ⟨⟨ao, cap, h1, h2⟩, h3, ?_, Nat.le_trans h.sz hw.size, h5⟩⟩
 ·rcases hq with rfl | rfl | q
  ·exact Jcy hb
  ·exact Jcy h.n
  ·exact Je4 hv _ q
 ·rcases q with q | q | q
  ·simp only at q; omega
  ·simp only at q; omega
  ·have := (hv.lt _ q).1; simp only at this; omega
 ·refine h.bel.trans (hw.below (fun q hq => ?_) (by have := h.sz; omega))
  rcases hq with q | q | q
  ·omega
  ·omega
  ·have := (hv.lt _ q).1; omega
open Hl in
theorem Jox {X : Nat → Prop} {B b d : Nat} {D : Dk.St} {w : World} {T1 : TypeId} {C : Array Value} (n : Nat) (hn3 : 3 ≤ n) (s : Sm) (v : Value) (a c : Nat) (h : DkX X B d D w) (hv : Vr w) (L : List M.Sp) (tl : List UInt8) (hr : Dk.read (nm s.n) D = (0, dat L ++ tl)) (kb : Bk C T1 w b) (hC : 2 < C.size) (hC0 : C[0]? = some (.pointer (some ⟨d, 0, none⟩)))
  (hm : Mays L) (ht : Tail tl) (hl : (dat L ++ tl).length ≤ 1000000) (hL : L.length ≤ 1000) (hn : s.n ≤ 1000) (ha : a ≤ 1000000) (hc : c ≤ 1000000) :
  CallsIn Fence.wide n Tryz.prog 57 #[.pointer (some ⟨b, 0, none⟩), .agg #[.int .i64 (s.n : Nat), v], .int .i64 (a : Nat), .int .i64 (c : Nat)] w fun e w' => ∃ ao cap, e = .returned (.tuple #[.slice ao (part6 s.n a c L).length cap, .int .i64 0]) ∧ w'.ownsRow w.heap.size 39 8 (.slice ao (part6 s.n a c L).length cap) (part6 s.n a c L).length (sps (part6 s.n a c L)) ∧ Below w.heap.size w w' := by
 have h1 : 1 ≤ n := by omega
 have CE := Qh (fun l W => Jf5 l W);have HR := Qh (fun W (k : Below w.heap.size w W) (bl bg tb ga : Nat) (T2 T3 T4 : TypeId) (u : List UInt8) => Jow (bl := bl) (bg := bg) (tb := tb) (ga := ga) (cap := 1) (T2 := T2) (T3 := T3) (T4 := T4) s v (h.below k) (hv.below k) (dat L ++ tl) u hr (kb.below k) hC hC0);refine callsIn_of_wp_marks Tryz.func57 rfl trivial ?_ rfl;simp only [Tryz.ntmps57, List.size_toArray, List.length_cons, List.length_nil, Nat.reduceAdd, Nat.reduceSub, Array.replicate_succ, Array.replicate_zero, List.push_toArray, List.append_toArray, List.nil_append, List.cons_append];gi_wp2
 have HB0 := Qh (rdW6_b b s.n v a c w);have hS0 : ({ data := #[] } : ByteArray) = S [] := rfl;rw [hS0];show Fence.wide.fn _ ∧ CallsIn Fence.wide (n - 1) Tryz.prog _ _ (rdW6 b s.n v a c w) _
 obtain ⟨W8, hW8⟩ : ∃ W, W = rdW6 b s.n v a c w := ⟨_, rfl⟩
 rw [← hW8] at HB0 ⊢;obtain ⟨bg, hbg⟩ : ∃ k, k = w.heap.size + 1 := ⟨_, rfl⟩
 obtain ⟨bf, hbf⟩ : ∃ k, k = w.heap.size + 2 := ⟨_, rfl⟩
 obtain ⟨bu, hbu⟩ : ∃ k, k = w.heap.size + 3 := ⟨_, rfl⟩
 obtain ⟨rs, hrs⟩ : ∃ k, k = w.heap.size + 4 := ⟨_, rfl⟩
 obtain ⟨re, hre⟩ : ∃ k, k = w.heap.size + 5 := ⟨_, rfl⟩
 obtain ⟨tb, htb⟩ : ∃ k, k = w.heap.size + 6 := ⟨_, rfl⟩
 obtain ⟨ga, hga⟩ : ∃ k, k = w.heap.size + 7 := ⟨_, rfl⟩
 simp only [Nat.add_assoc, Nat.reduceAdd];rw [← hbg, ← hbf, ← hbu, ← hrs, ← hre, ← htb, ← hga] at HB0 ⊢;clear hbg hbf hbu hrs hre htb hga hW8;have ho := HB0.o.o;have C0 := HR.o W8 HB0.o.bel w.heap.size bg tb ga _ _ _ [] HB0.o.l HB0.o.g HB0.o.t HB0.o.a (by omega) (by omega) (by omega) (by have := kb.lt; omega) hn;have HM := Qh hm;have HT := Qh ht;have HL := Qh hl;clear h hv hr kb hC hC0 hm ht hl ho HR;generalize hsn : s.n = sn at *;refine ⟨trivial, (callsIn_wide.2 C0).mono ?_⟩;rintro e w2 ⟨rfl, w1, hb1, rfl⟩;have HC := Qh (HB0.o.call hb1 (dat L ++ tl));clear hb1 C0 HB0;generalize (w1.setCell ⟨tb, 0, none⟩ (.string (S (dat L ++ tl)))) = w2 at *;have c0 : ∀ o, (w2.alloc o).cell? ⟨bg, 0, none⟩ = some (.int .i64 (sn : Nat)) := fun o => (HC.o.g.more o).cell 0
 have c1 : ∀ o o', ((w2.alloc o).alloc o').cell? ⟨tb, 0, none⟩ = some (.string (S (dat L ++ tl))) := fun o o' => ((HC.o.t.more o).more o').cell 0
 gi_wp2
 refine ⟨trivial, (callsIn_wide.2 (CE.o _ _)).mono ?_⟩;rintro e w3 ⟨rfl, rfl⟩;gi_wp2
 have hbox : (((w2.alloc (.cells #[.slice none 0 0] 52)).alloc (.cells #[.int .i64 (sn : Nat)] 3)).alloc (.cells #[.string (S (dat L ++ tl))] 9)).cell? ⟨w2.heap.size + 1 + 1, 0, none⟩ = some (.string (S (dat L ++ tl))) := by simp [go_sem]
 have hA : Bk #[.slice none 0 0] 52 (((w2.alloc (.cells #[.slice none 0 0] 52)).alloc (.cells #[.int .i64 (sn : Nat)] 3)).alloc (.cells #[.string (S (dat L ++ tl))] 9)) w2.heap.size := ((Jae _ _ _).more _).more _
 have hB : Bk #[.int .i64 (sn : Nat)] 3 (((w2.alloc (.cells #[.slice none 0 0] 52)).alloc (.cells #[.int .i64 (sn : Nat)] 3)).alloc (.cells #[.string (S (dat L ++ tl))] 9)) (w2.heap.size + 1) := by
  have := (Jae #[.int .i64 (sn : Nat)] 3 (w2.alloc (.cells #[.slice none 0 0] 52))).more (.cells #[.string (S (dat L ++ tl))] 9);rw [World.size_alloc] at this;exact this
 have hW : Below w2.heap.size w2 (((w2.alloc (.cells #[.slice none 0 0] 52)).alloc (.cells #[.int .i64 (sn : Nat)] 3)).alloc (.cells #[.string (S (dat L ++ tl))] 9)) := ((Qa _).alloc (by simp) _).alloc (by simp; omega) _;have hsz : (((w2.alloc (.cells #[.slice none 0 0] 52)).alloc (.cells #[.int .i64 (sn : Nat)] 3)).alloc (.cells #[.string (S (dat L ++ tl))] 9)).heap.size = w2.heap.size + 3 := by simp
 generalize (((w2.alloc (.cells #[.slice none 0 0] 52)).alloc (.cells #[.int .i64 (sn : Nat)] 3)).alloc (.cells #[.string (S (dat L ++ tl))] 9)) = W0 at *;have hI0 : RdI sn a c w2 [] W0 := ⟨⟨none, 0, by rw [selP_nil]; exact hA, by rw [selP_nil]; exact World.ownsRow_nil _ _ _ _⟩, by simpa using hB, hW, by omega, .inl rfl⟩
 clear hA hB hW c0 c1 CE;have HCC := HC.o
 refine wpIn_rangeFunc_ownF rfl h1 (gf := 150) (lb := #[.pointer (some ⟨w2.heap.size + 1 + 1, 0, none⟩)]) rfl trivial (Jav Tryz.func150 (by kernel_rfl) rfl)
  (Jfk (dat L ++ tl) HL.o (n - 1) (by omega) (w2.heap.size + 1 + 1) (w2.heap.size + 3) W0 (by omega) (by omega) hbox) kpB_t (kpB_b (by omega)) (Below.refl _ _) (fun _ => rfl)
  (fun (ys : List (RunX (dat L ++ tl))) W => RdI sn a c w2 (Jax ys) W) (fun cd (ys : List (RunX (dat L ++ tl))) W => RdX sn a c w2 cd (Jax ys) W) (fun s => Jkr sn a c w2 _ (by omega) (Jax s)) (fun cd s => Jqd sn a c w2 _ (by omega) cd (Jax s)) hI0
  (fun (x : RunX (dat L ++ tl)) => { tmps := #[.pointer (some ⟨b, 0, none⟩), .agg #[.int .i64 (sn : Nat), v], .int .i64 (a : Nat), .int .i64 (c : Nat), .pointer (some ⟨w.heap.size, 0, none⟩), .pointer (some ⟨bg, 0, none⟩), .pointer (some ⟨bf, 0, none⟩), .pointer (some ⟨bu, 0, none⟩), .pointer (some ⟨rs, 0, none⟩), .pointer (some ⟨re, 0, none⟩), .pointer (some ⟨tb, 0, none⟩), .int .i64 0, .pointer (some ⟨w2.heap.size, 0, none⟩), .pointer (some ⟨w2.heap.size + 1, 0, none⟩), .string (S x.1.1), undef, undef, .pointer (some ⟨b, 0, none⟩), .func (Fn.func 111) #[] #[.pointer (some ⟨w.heap.size, 0, none⟩), .pointer (some ⟨bg, 0, none⟩), .pointer (some ⟨tb, 0, none⟩)], .slice (some ⟨ga, 0, none⟩) 1 1, .int .i64 0, .int .i64 0, .bool false, undef, .pointer (some ⟨bg, 0, none⟩), .int .i64 (sn : Nat), .string (S (dat L ++ tl)), .func (Fn.func 150) #[] #[.pointer (some ⟨w2.heap.size + 1 + 1, 0, none⟩)], .string (S x.1.1), .int .i64 (x.1.2 : Nat), undef, undef, undef, undef, undef, undef, undef, undef, undef, undef, undef, undef, undef, undef, undef, undef, undef, undef, undef, undef, undef], defers := [] }) ?assign ?body ?done ?stop
 case assign =>
  intro lp x W K hK;gi_wp2
  exact hK
 case body =>
  rintro lp pre0 ⟨x, hx⟩ W hI hlen;obtain ⟨pre, hpre⟩ : ∃ pre, pre = Jax pre0 := ⟨_, rfl⟩
  have HVS := Qh (show Jax (pre0 ++ [⟨x, hx⟩]) = pre ++ [x] from by rw [Jdc, hpre]);rw [← Je1] at hlen;change RdI sn a c w2 (Jax pre0) W at hI
  rw [← hpre] at hI hlen;dsimp only
  obtain ⟨⟨ao, cap, hs, hrow⟩, hnn, hbel, hsz2, hup⟩ := id hI;have HI := Qh hI;have hkl := selP_len sn a pre;have HU := Qh (HCC.u.below hbel);have HF := Qh (HCC.f.below hbel);have HR := Qh (HCC.r.below hbel);have HE := Qh (HCC.e.below hbel);have HS := Qh hs;have HRow := Qh hrow;have HUP := Qh hup;clear hup hbel hpre;generalize hK : selP sn a pre = K at *;have HK := Qh hK;clear hK;have cu := HU.o.cell 0;have cf := HF.o.cell 0;obtain ⟨m, hm⟩ : ∃ m, m = pre.length := ⟨_, rfl⟩
  rw [← hm] at hnn hkl;have HN := Qh hnn;have cn := HN.o.cell 0;simp only [List.getElem?_toArray, List.getElem?_cons_zero] at cu cf cn;have HKL := Qh hkl;clear hkl;have HM2 := Qh hm;have hm3 : m ≤ 2000000 := by rw [hm]; have := HL.o; omega
  clear hm hI hlen hrow hs hnn;by_cases hge : c ≤ sn + m
  ·have d1 : decide ((c : Int) ≤ ((sn + m : Nat) : Int)) = true := by simp; omega
   have d2 : decide (c ≤ sn + m) = true := by simpa using hge
   gi_wp2
   exact ⟨KeepsOthers.refl _, show RdX sn a c w2 (.exit 0) (Jax (pre0 ++ [⟨x, hx⟩])) W from by rw [HVS.o]; exact ⟨rfl, pre, x, rfl, HI.o, by rw [← HM2.o]; exact hge⟩⟩
  ·have d1 : decide ((c : Int) ≤ ((sn + m : Nat) : Int)) = false := by simp; omega
   have d2 : decide (c ≤ sn + m) = false := by simpa using hge
   have hsm : sn + m ≤ 2002000 := by omega
   by_cases hta : a ≤ sn + m
   ·have d3 : decide ((a : Int) ≤ ((sn + m : Nat) : Int)) = true := by simp; omega
    have d4 : decide (a ≤ sn + m) = true := by simpa using hta
    have hdec : ∃ y, M.dec x.1 = some y := by
     rw [show M.runs (dat L ++ tl) 0 = recs 0 L from by have := runs_rec HT.o L [] HM.o; simpa using this] at hx;have h2 : x.1 ∈ L.map M.enc := by rw [← recs_fst L 0]; exact List.mem_map_of_mem hx
     obtain ⟨y, hy, e⟩ := List.mem_map.1 h2;exact ⟨y, by rw [← e, M.dec_enc (HM.o y hy).2 (HM.o y hy).1]⟩
    obtain ⟨y, hy⟩ := hdec
    have hxl : x.1.length ≤ 140737488351232 := by
     rw [show M.runs (dat L ++ tl) 0 = recs 0 L from by have := runs_rec HT.o L [] HM.o; simpa using this] at hx;have h2 : x.1 ∈ L.map M.enc := by rw [← recs_fst L 0]; exact List.mem_map_of_mem hx
     obtain ⟨z, hz, e⟩ := List.mem_map.1 h2;rw [← e];have := M.enc_len (HM.o z hz).1;omega
    have CD := Qh (Jfv x.1 hxl W);rw [hy] at CD;change Hid (Calls Tryz.prog 113 #[.string (S x.1)] W fun e w' => e = .returned (.tuple #[.agg #[.int .i64 y.trace, .int .i64 y.id, .int .i64 y.parent, .string (S y.svc), .string (S y.host), .int .i64 y.start, .int .i64 y.dur, .string (S y.note)], .int .i64 0]) ∧ Below W.heap.size W w') at CD
    gi_wp2
    refine ⟨trivial, fun _ => by omega, (CallsIn.inRound lp (callsIn_wide.2 CD.o)).mono ?_⟩;rintro e w5 ⟨rfl, hb5⟩;have HS5 := Qh (HS.o.below hb5);have HN5 := Qh (HN.o.below hb5);have HR5 := Qh (Jaf HRow.o hb5);have HB5 := Qh hb5;have cs : ∀ C, (w5.alloc (.cells C 39)).cell? ⟨w2.heap.size, 0, none⟩ = some (.slice ao K.length cap) := fun C => (HS5.o.more _).cell 0
    have hwr : IntKind.i64.wrap (((sn + m : Nat) : Int) + 1) = ((sn + (m + 1) : Nat) : Int) := by rw [IntWalk.i64_in _ (by omega)]; omega
    have hkm : K.length + 1 ≤ 2002000 := by have := HKL.o; omega
    have hs5 := hb5.size;have hz2 : w2.heap.size + 3 ≤ w5.heap.size := by omega
    obtain ⟨i0, z0, hi0, hz0, h01, h02, h03⟩ := Jdl;clear hb5 CD cn cu cf;gi_wp2_with (gi_at_builtin; go_loud (refine wpListIn_append_own_at _ rfl _ _ 52 rfl (w2.heap.size + 3) 39 i0 z0 8 88 Tryz.underlying52 hi0 hz0 h01 h02 h03 (by decide) (.slice ao K.length cap) K.length (sps K) rfl ((HR5.o.alloc _).alloc _) ⟨w5.heap.size + 1, 0, none⟩ 1 1 (spL y) rfl rfl (Jqc w5 _ y _) (Jgh y) (by unfold maxLen; omega) (by omega) (by rw [World.size_alloc, World.size_alloc]; omega) ?_; intro v7 w7 ho7 hg7 _ h7; obtain ⟨ao3, cap3, rfl⟩ := Jf0 ho7; have HO7 := Qh ho7; have HG7 := Qh hg7; have hk7 := ((HS5.o.more _).more _).grown hg7 (fun e => (Jak HR5.o).ne HS5.o (by decide) _ e.symm rfl); have n0 := hk7.cell 0; have f0 := hk7.free 0; have HK7 := Qh hk7; have hn7 := ((HN5.o.more _).more _).grown hg7 (fun e => (Jak HR5.o).ne HN5.o (by decide) _ e.symm rfl); have HN7 := Qh hn7; have cn7 : ∀ u, (w7.setCell ⟨w2.heap.size, 0, none⟩ u).cell? ⟨w2.heap.size + 1, 0, none⟩ = some (.int .i64 (sn + m : Nat)) := (fun u => (HN7.o.other (c := w2.heap.size) (Nat.succ_ne_self _) 0 u).cell 0); have fn7 : ∀ u, (w7.setCell ⟨w2.heap.size, 0, none⟩ u).frozen? ⟨w2.heap.size + 1, 0, none⟩ = false := (fun u => (HN7.o.other (c := w2.heap.size) (Nat.succ_ne_self _) 0 u).free 0); clear ho7 hg7 h7 hk7 hn7))
    have htk : selP sn a (pre ++ [x]) = K ++ [y] := by rw [selP_take x (by rw [← HM2.o]; exact hta), HK.o, hy]; rfl
    have hw7 : Wr (fun q => q = w2.heap.size ∨ q = w2.heap.size + 1 ∨ (Value.slice ao K.length cap).ownBlock = some q) W ((w7.setCell ⟨w2.heap.size, 0, none⟩ (.slice ao3 (K.length + 1) cap3)).setCell ⟨w2.heap.size + 1, 0, none⟩ (.int .i64 (sn + m + 1 : Nat))) :=
     ((((Jad HB5.o).trans ((Jcv _ _).trans (Jcv _ _))).trans (Jby HG7.o (fun q hq => .inl (.inr (.inr hq))))).trans (Jai _ _ _ (.inl rfl))).trans (Jai _ _ _ (.inr (.inl rfl)))
    have hst := HI.o.step (pre' := pre ++ [x]) (ao := ao3) (cap := cap3) HRow.o HS.o hw7 (by
      rw [htk, List.length_append, List.length_singleton]
      exact (HK7.o.set 0 _).other (by omega) _ _) (by
      rw [htk, List.length_append, List.length_singleton, Jd8, Jkg]
      exact Jaw (Jaw HO7.o ((Jak HO7.o).ne HK7.o (by decide))) (fun q hq => (Jak HO7.o).ne HN7.o (by decide) q hq)) (by
     have := (HN7.o.other (c := w2.heap.size) (by omega) 0 (.slice ao3 (K.length + 1) cap3)).set 0 (.int .i64 (sn + m + 1 : Nat));rw [List.length_append, List.length_singleton, ← HM2.o]
     exact this) (.inr (by rw [List.length_append, List.length_singleton, ← HM2.o]; omega))
    have hv : (.int .i64 (sn + m + 1 : Nat) : Value) = .int .i64 ((sn : Int) + (m : Int) + 1) := by congr 1
    rw [hv] at hst;exact ⟨hst.1, hst.2.1, show RdI sn a c w2 (Jax (pre0 ++ [⟨x, hx⟩])) _ from by rw [HVS.o]; exact hst.2.2⟩
   ·have d3 : decide ((a : Int) ≤ ((sn + m : Nat) : Int)) = false := by simp; omega
    have d4 : decide (a ≤ sn + m) = false := by simpa using hta
    have hwr : IntKind.i64.wrap (((sn + m : Nat) : Int) + 1) = ((sn + (m + 1) : Nat) : Int) := by rw [IntWalk.i64_in _ (by omega)]; omega
    have cfn := HN.o.free 0;gi_wp2
    have hsk : selP sn a (pre ++ [x]) = K := by rw [selP_skip x (by rw [← HM2.o]; omega)]; exact HK.o
    have hst := HI.o.step (pre' := pre ++ [x]) (ao := ao) (cap := cap) HRow.o HS.o (Jai W ⟨w2.heap.size + 1, 0, none⟩ (.int .i64 (sn + m + 1 : Nat)) (.inr (.inl rfl))) (by rw [hsk]; exact HS.o.other (by omega) _ _) (by rw [hsk]; exact Jaw HRow.o ((Jak HRow.o).ne HN.o (by decide))) (by
     have := HN.o.set 0 (.int .i64 (sn + m + 1 : Nat));rw [List.length_append, List.length_singleton, ← HM2.o]
     exact this) (.inr (by rw [List.length_append, List.length_singleton, ← HM2.o]; omega))
    have hv : (.int .i64 (sn + m + 1 : Nat) : Value) = .int .i64 ((sn : Int) + (m : Int) + 1) := by congr 1
    rw [hv] at hst;exact ⟨hst.1, hst.2.1, show RdI sn a c w2 (Jax (pre0 ++ [⟨x, hx⟩])) _ from by rw [HVS.o]; exact hst.2.2⟩
 case done =>
  rintro D ys W hD hys hI hK;have hru : M.runs (dat L ++ tl) 0 = recs 0 L := by have := runs_rec HT.o L [] HM.o; simpa using this
  rw [hru] at hys;change RdI sn a c w2 (Jax ys) W at hI
  rw [hys] at hI
  have hKE : selP sn a (recs 0 L) = part6 sn a c L := sel_done HM.o (by
   rcases hI.up with q | q
   ·left
    have := recs_len L 0;rw [q] at this;exact List.length_eq_zero_iff.1 this.symm
   ·right; rw [recs_len] at q; exact q)
  obtain ⟨⟨ao, cap, hs, hrow⟩, hnn, hbel, hsz2, hup⟩ := hI;rw [hKE] at hs hrow;have HR := Qh (HCC.r.below hbel);have HE := Qh (HCC.e.below hbel);have ho := HCC.o;have hw2 := HCC.bel.size;obtain ⟨K, hKK⟩ : ∃ K, K = part6 sn a c L := ⟨_, rfl⟩
  have hsn2 := hsn;rw [← hKK] at hs hrow;have cs := hs.cell 0;have HS := Qh hs;have HRow := Qh hrow;have HBel := Qh hbel;have HKK := Qh hKK;have xr := HR.o.cell 0;have fr0 := HR.o.free 0;have n1 : ¬ (re = rs) := by omega
  have xe : ∀ u, (W.setCell ⟨rs, 0, none⟩ u).cell? ⟨re, 0, none⟩ = some (.int .i64 0) := fun u => (HE.o.other n1 _ _).cell 0
  have fe : ∀ u, (W.setCell ⟨rs, 0, none⟩ u).frozen? ⟨re, 0, none⟩ = false := fun u => (HE.o.other n1 _ _).free 0
  have hDs : W.heap[D]? = some (.deferred (some [])) := hK;have hd1 : D ≠ rs := by omega
  have hd2 : D ≠ re := by omega
  have h9 : w.heap.size ≤ rs ∧ w.heap.size ≤ re ∧ w.heap.size ≤ w2.heap.size ∧ w.heap.size ≤ D := by omega
  have HOO := Qh ho;clear hs hrow hbel hKK hup hnn hsz2 hK ho;gi_wp2
  have hK2 : ((W.setCell ⟨rs, 0, none⟩ (.slice ao K.length cap)).setCell ⟨re, 0, none⟩ (.int .i64 0)).heap[D]? = some (.deferred (some [])) := by
   rw [Below.heap_setCell _ _ _ _ hd2, Below.heap_setCell _ _ _ _ hd1];exact hDs
  refine ⟨by simp, .inl ⟨_, _, rfl, run_takeDeferred hK2, ?_⟩⟩;have b1 := (HR.o.set 0 (.slice ao K.length cap)).other (c := re) (by omega) 0 (.int .i64 0);have b2 := (HE.o.other (c := rs) n1 0 (.slice ao K.length cap)).set 0 (.int .i64 0);have r1 := Jaw (i := 0) (u := .int .i64 0) (Jaw (i := 0) (u := .slice ao K.length cap) HRow.o (fun q hq => (Jak HRow.o).ne HR.o (by decide) q hq)) (r := re) (fun q hq => (Jak HRow.o).ne HE.o (by decide) q hq);have l1 := ((HCC.bel.trans (HBel.o.mono h9.2.2.1)).setCell (p := ⟨rs, 0, none⟩) h9.1 (.slice ao K.length cap)).setCell (p := ⟨re, 0, none⟩) h9.2.1 (.int .i64 0);have hwt := grownBy_putObj' ((W.setCell ⟨rs, 0, none⟩ (.slice ao K.length cap)).setCell ⟨re, 0, none⟩ (.int .i64 0)) D (.deferred none);have hrt : ∀ r, some D = some r → ∃ o : Obj, ((W.setCell ⟨rs, 0, none⟩ (.slice ao K.length cap)).setCell ⟨re, 0, none⟩ (.int .i64 0)).heap[r]? = some o ∧ o.isCells = false := fun r e => by cases e; exact ⟨_, hK2, rfl⟩
  have t1 := (Jcz b1 hwt hrt).cell 0;have t2 := (Jcz b2 hwt hrt).cell 0;have t3 := Jef r1 hwt hrt;have t4 := l1.grown hwt l1.size (fun k e => by cases e; exact h9.2.2.2);generalize (((W.setCell ⟨rs, 0, none⟩ (.slice ao K.length cap)).setCell ⟨re, 0, none⟩ (.int .i64 0)).putObj D (.deferred none)) = WZ at *;refine ⟨.tuple #[.slice ao K.length cap, .int .i64 0], ?_, ao, cap, ?_, ?_, t4⟩
  ·simp [results, Tryz.f57, go_sem, t1, t2]
  ·rw [hsn2, ← HKK.o]
  ·rw [hsn2, ← HKK.o]
   exact Jaq t3 (by omega)
 case stop =>
  rintro D cd pre W hD hp hX hK;have hru : M.runs (dat L ++ tl) 0 = recs 0 L := by have := runs_rec HT.o L [] HM.o; simpa using this
  rw [hru] at hp;change RdX sn a c w2 cd (Jax pre) W at hX
  obtain ⟨rfl, p, x, hpx, hI, hcp⟩ := hX;rw [hpx] at hp;have hKE : selP sn a p = part6 sn a c L := sel_stop HM.o (List.IsPrefix.trans (List.prefix_append _ _) hp) hcp hI.up;clear hpx hp hcp;obtain ⟨⟨ao, cap, hs, hrow⟩, hnn, hbel, hsz2, hup⟩ := hI;rw [hKE] at hs hrow;have HR := Qh (HCC.r.below hbel);have HE := Qh (HCC.e.below hbel);have ho := HCC.o;have hw2 := HCC.bel.size;obtain ⟨K, hKK⟩ : ∃ K, K = part6 sn a c L := ⟨_, rfl⟩
  have hsn2 := hsn;rw [← hKK] at hs hrow;have cs := hs.cell 0;have HS := Qh hs;have HRow := Qh hrow;have HBel := Qh hbel;have HKK := Qh hKK;have xr := HR.o.cell 0;have fr0 := HR.o.free 0;have n1 : ¬ (re = rs) := by omega
  have xe : ∀ u, (W.setCell ⟨rs, 0, none⟩ u).cell? ⟨re, 0, none⟩ = some (.int .i64 0) := fun u => (HE.o.other n1 _ _).cell 0
  have fe : ∀ u, (W.setCell ⟨rs, 0, none⟩ u).frozen? ⟨re, 0, none⟩ = false := fun u => (HE.o.other n1 _ _).free 0
  have hDs : W.heap[D]? = some (.deferred (some [])) := hK;have hd1 : D ≠ rs := by omega
  have hd2 : D ≠ re := by omega
  have h9 : w.heap.size ≤ rs ∧ w.heap.size ≤ re ∧ w.heap.size ≤ w2.heap.size ∧ w.heap.size ≤ D := by omega
  have HOO := Qh ho;clear hs hrow hbel hKK hup hnn hsz2 hK ho;gi_wp2
  have hK2 : ((W.setCell ⟨rs, 0, none⟩ (.slice ao K.length cap)).setCell ⟨re, 0, none⟩ (.int .i64 0)).heap[D]? = some (.deferred (some [])) := by
   rw [Below.heap_setCell _ _ _ _ hd2, Below.heap_setCell _ _ _ _ hd1];exact hDs
  refine ⟨by simp, .inl ⟨_, _, rfl, run_takeDeferred hK2, ?_⟩⟩;have b1 := (HR.o.set 0 (.slice ao K.length cap)).other (c := re) (by omega) 0 (.int .i64 0);have b2 := (HE.o.other (c := rs) n1 0 (.slice ao K.length cap)).set 0 (.int .i64 0);have r1 := Jaw (i := 0) (u := .int .i64 0) (Jaw (i := 0) (u := .slice ao K.length cap) HRow.o (fun q hq => (Jak HRow.o).ne HR.o (by decide) q hq)) (r := re) (fun q hq => (Jak HRow.o).ne HE.o (by decide) q hq);have l1 := ((HCC.bel.trans (HBel.o.mono h9.2.2.1)).setCell (p := ⟨rs, 0, none⟩) h9.1 (.slice ao K.length cap)).setCell (p := ⟨re, 0, none⟩) h9.2.1 (.int .i64 0);have hwt := grownBy_putObj' ((W.setCell ⟨rs, 0, none⟩ (.slice ao K.length cap)).setCell ⟨re, 0, none⟩ (.int .i64 0)) D (.deferred none);have hrt : ∀ r, some D = some r → ∃ o : Obj, ((W.setCell ⟨rs, 0, none⟩ (.slice ao K.length cap)).setCell ⟨re, 0, none⟩ (.int .i64 0)).heap[r]? = some o ∧ o.isCells = false := fun r e => by cases e; exact ⟨_, hK2, rfl⟩
  have t1 := (Jcz b1 hwt hrt).cell 0;have t2 := (Jcz b2 hwt hrt).cell 0;have t3 := Jef r1 hwt hrt;have t4 := l1.grown hwt l1.size (fun k e => by cases e; exact h9.2.2.2);generalize (((W.setCell ⟨rs, 0, none⟩ (.slice ao K.length cap)).setCell ⟨re, 0, none⟩ (.int .i64 0)).putObj D (.deferred none)) = WZ at *;refine ⟨.tuple #[.slice ao K.length cap, .int .i64 0], ?_, ao, cap, ?_, ?_, t4⟩
  ·simp [results, Tryz.f57, go_sem, t1, t2]
  ·rw [hsn2, ← HKK.o]
  ·rw [hsn2, ← HKK.o]
   exact Jaq t3 (by omega)
theorem Jm8 {X : Nat → Prop} {B b d : Nat} {D : Dk.St} {w : World} {T1 : TypeId} {C : Array Value} (s : Hl.Sm) (v : Value) (a c : Nat) (h : DkX X B d D w) (hv : Vr w) (L : List M.Sp) (tl : List UInt8) (hr : Dk.read (Hl.nm s.n) D = (0, Hl.dat L ++ tl)) (kb : Bk C T1 w b) (hC : 2 < C.size) (hC0 : C[0]? = some (.pointer (some ⟨d, 0, none⟩)))
  (hm : Hl.Mays L) (ht : Hl.Tail tl) (hl : (Hl.dat L ++ tl).length ≤ 1000000) (hL : L.length ≤ 1000) (hn : s.n ≤ 1000) (ha : a ≤ 1000000) (hc : c ≤ 1000000) :
  Calls Tryz.prog 57 #[.pointer (some ⟨b, 0, none⟩), .agg #[.int .i64 (s.n : Nat), v], .int .i64 (a : Nat), .int .i64 (c : Nat)] w fun e w' => ∃ ao cap, e = .returned (.tuple #[.slice ao (Hl.part6 s.n a c L).length cap, .int .i64 0]) ∧ w'.ownsRow w.heap.size 39 8 (.slice ao (Hl.part6 s.n a c L).length cap) (Hl.part6 s.n a c L).length (sps (Hl.part6 s.n a c L)) ∧ Below w.heap.size w w' :=
 callsIn_wide.1 (Jox 4 (by omega) s v a c h hv L tl hr kb hC hC0 hm ht hl hL hn ha hc)
end Go.Proofs.YtmammmjmipgmoaaGreatDoor
