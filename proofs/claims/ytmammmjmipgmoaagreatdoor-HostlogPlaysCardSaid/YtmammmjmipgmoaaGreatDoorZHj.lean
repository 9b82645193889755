import Derived.Test.YtmammmjmipgmoaaGreatDoorZHf
import Derived.Test.YtmammmjmipgmoaaGreatDoorZV
import Derived.Test.YtmammmjmipgmoaaGreatDoorZC
import Derived.Test.YtmammmjmipgmoaaGreatDoorZF
import Derived.Test.YtmammmjmipgmoaaGreatDoorZQh
set_option linter.unusedVariables false
set_option maxRecDepth 100000
set_option maxHeartbeats 16000000
namespace Go.Proofs.YtmammmjmipgmoaaGreatDoor
open Go Go.RowKit Go.Maps
structure Ra6 where
 kind : Int
 s : M.Sp
 n : Int
 m : Int
 keep : List Int
 o : Option Addr
 k : Nat
def ra06 : Ra6 := ⟨0, M.sp0, 0, 0, [], none, 0⟩
def raA6 (r : Ra6) : Array Value := #[.int .u8 r.kind, .int .i64 r.s.trace, .int .i64 r.s.id, .int .i64 r.s.parent, .string (S r.s.svc), .string (S r.s.host), .int .i64 r.s.start, .int .i64 r.s.dur, .string (S r.s.note), .int .i64 r.n, .int .i64 r.m, .slice r.o r.keep.length r.k]
structure RaW6 (r : Ra6) : Prop where
 kind : 0 ≤ r.kind ∧ r.kind ≤ 255
 s : r.s.ints
 n : -9223372036854775808 ≤ r.n ∧ r.n ≤ 9223372036854775807
 m : -9223372036854775808 ≤ r.m ∧ r.m ≤ 9223372036854775807
 keep : NsI5 r.keep
structure Jh1 (L : List Ra6) : Prop where
 n : L.length ≤ 9223372036854775807
 each : ∀ r, r ∈ L → RaW6 r
def RaAt6 (w : World) (g o : Nat) (r : Ra6) : Prop := (w.cell? ⟨g, o, none⟩ = some (.int .u8 r.kind) ∧ w.cell? ⟨g, o + 1, none⟩ = some (.int .i64 r.s.trace) ∧ w.cell? ⟨g, o + 2, none⟩ = some (.int .i64 r.s.id) ∧ w.cell? ⟨g, o + 3, none⟩ = some (.int .i64 r.s.parent) ∧ w.cell? ⟨g, o + 4, none⟩ = some (.string (S r.s.svc)) ∧ w.cell? ⟨g, o + 5, none⟩ = some (.string (S r.s.host)) ∧ w.cell? ⟨g, o + 6, none⟩ = some (.int .i64 r.s.start) ∧ w.cell? ⟨g, o + 7, none⟩ = some (.int .i64 r.s.dur) ∧ w.cell? ⟨g, o + 8, none⟩ = some (.string (S r.s.note)) ∧ w.cell? ⟨g, o + 9, none⟩ = some (.int .i64 r.n) ∧ w.cell? ⟨g, o + 10, none⟩ = some (.int .i64 r.m) ∧ w.cell? ⟨g, o + 11, none⟩ = some (.slice r.o r.keep.length r.k)) ∧ NsA5 w r.o r.keep
def RasAt6 (w : World) (ao : Option Addr) (L : List Ra6) : Prop := L ≠ [] → ∃ g off, ao = some ⟨g, off, none⟩ ∧ ∀ j, j < L.length → RaAt6 w g (off + j * 12) (L.getD j ra06)
section
variable {w w' : World} {ao : Option Addr} {L : List Ra6}
theorem RaAt6.below {g o : Nat} {r : Ra6} (h : RaAt6 w g o r) (hb : Below w.heap.size w w') : RaAt6 w' g o r := by
 obtain ⟨⟨h0, h1, h2, h3, h4, h5, h6, h7, h8, h9, h10, h11⟩, hk⟩ := h;exact ⟨⟨Jab h0 hb, Jab h1 hb, Jab h2 hb, Jab h3 hb, Jab h4 hb, Jab h5 hb, Jab h6 hb, Jab h7 hb, Jab h8 hb, Jab h9 hb, Jab h10 hb, Jab h11 hb⟩, hk.below hb⟩
theorem RasAt6.below (h : RasAt6 w ao L) (hb : Below w.heap.size w w') : RasAt6 w' ao L := fun hn => by
 obtain ⟨g, off, e, hc⟩ := h hn;exact ⟨g, off, e, fun j hj => (hc j hj).below hb⟩
theorem RasAt6.off (h : RasAt6 w ao L) {j : Nat} (hj : j < L.length) : ∃ g off, ao = some ⟨g, off, none⟩ ∧ RaAt6 w g (off + j * 12) (L.getD j ra06) := by
 obtain ⟨g, off, e, hc⟩ := h (fun h => by rw [h] at hj; simp at hj);exact ⟨g, off, e, hc j hj⟩
end
section
variable {H : Type} {enc : TypeId × Value → H} {W : World} {fuel : Nat} {cs : List Value} {x : DataW H × List MemPlace} {B : Nat} {sp : Nat → Bool} {hd : Bool} {r : Reach} {b0 : Nat} {v : Value} {d : DataW H} {p : List MemPlace}
theorem Jna (hf : DataW.trod enc Tryz.prog W B sp hd fuel 39 cs = some x) : ∃ y : M.Sp, cs = spL y ∧ y.ints := by
 have ct : Tryz.prog.cellsOf 39 = 8 := by kernel_rfl
 have k0 : Tryz.prog.cellsOf 3 = 1 := by kernel_rfl
 have k1 : Tryz.prog.cellsOf 9 = 1 := by kernel_rfl
 obtain ⟨xs, n, _, _, hlen, hn, hel⟩ := DataW.trod_struct Tryz.underlying39 hf;have hnn : xs.length = 8 := hn;rw [ct] at hlen;match cs, hlen with
 | [c0, c1, c2, c3, c4, c5, c6, c7], _ =>
  have h0 : DataW.trod enc Tryz.prog W B sp hd n 3 (List.take (Tryz.prog.cellsOf 3) (List.drop 0 [c0, c1, c2, c3, c4, c5, c6, c7])) = xs[0]? := hel 0 _ rfl;rw [k0] at h0;obtain ⟨x0, hx0⟩ : ∃ x, xs[0]? = some x := ⟨xs[0], by simp [hnn]⟩
  rw [hx0] at h0;have h1 : DataW.trod enc Tryz.prog W B sp hd n 3 (List.take (Tryz.prog.cellsOf 3) (List.drop 1 [c0, c1, c2, c3, c4, c5, c6, c7])) = xs[1]? := hel 1 _ rfl;rw [k0] at h1;obtain ⟨x1, hx1⟩ : ∃ x, xs[1]? = some x := ⟨xs[1], by simp [hnn]⟩
  rw [hx1] at h1;have h2 : DataW.trod enc Tryz.prog W B sp hd n 3 (List.take (Tryz.prog.cellsOf 3) (List.drop 2 [c0, c1, c2, c3, c4, c5, c6, c7])) = xs[2]? := hel 2 _ rfl;rw [k0] at h2;obtain ⟨x2, hx2⟩ : ∃ x, xs[2]? = some x := ⟨xs[2], by simp [hnn]⟩
  rw [hx2] at h2;have h3 : DataW.trod enc Tryz.prog W B sp hd n 9 (List.take (Tryz.prog.cellsOf 9) (List.drop 3 [c0, c1, c2, c3, c4, c5, c6, c7])) = xs[3]? := hel 3 _ rfl;rw [k1] at h3;obtain ⟨x3, hx3⟩ : ∃ x, xs[3]? = some x := ⟨xs[3], by simp [hnn]⟩
  rw [hx3] at h3;have h4 : DataW.trod enc Tryz.prog W B sp hd n 9 (List.take (Tryz.prog.cellsOf 9) (List.drop 4 [c0, c1, c2, c3, c4, c5, c6, c7])) = xs[4]? := hel 4 _ rfl;rw [k1] at h4;obtain ⟨x4, hx4⟩ : ∃ x, xs[4]? = some x := ⟨xs[4], by simp [hnn]⟩
  rw [hx4] at h4;have h5 : DataW.trod enc Tryz.prog W B sp hd n 3 (List.take (Tryz.prog.cellsOf 3) (List.drop 5 [c0, c1, c2, c3, c4, c5, c6, c7])) = xs[5]? := hel 5 _ rfl;rw [k0] at h5;obtain ⟨x5, hx5⟩ : ∃ x, xs[5]? = some x := ⟨xs[5], by simp [hnn]⟩
  rw [hx5] at h5;have h6 : DataW.trod enc Tryz.prog W B sp hd n 3 (List.take (Tryz.prog.cellsOf 3) (List.drop 6 [c0, c1, c2, c3, c4, c5, c6, c7])) = xs[6]? := hel 6 _ rfl;rw [k0] at h6;obtain ⟨x6, hx6⟩ : ∃ x, xs[6]? = some x := ⟨xs[6], by simp [hnn]⟩
  rw [hx6] at h6;have h7 : DataW.trod enc Tryz.prog W B sp hd n 9 (List.take (Tryz.prog.cellsOf 9) (List.drop 7 [c0, c1, c2, c3, c4, c5, c6, c7])) = xs[7]? := hel 7 _ rfl;rw [k1] at h7;obtain ⟨x7, hx7⟩ : ∃ x, xs[7]? = some x := ⟨xs[7], by simp [hnn]⟩
  rw [hx7] at h7;obtain ⟨a0, e0, _, w0⟩ := DataW.trod_int Tryz.underlying3 h0;obtain ⟨a1, e1, _, w1⟩ := DataW.trod_int Tryz.underlying3 h1;obtain ⟨a2, e2, _, w2⟩ := DataW.trod_int Tryz.underlying3 h2;obtain ⟨a3, e3, _, w3⟩ := DataW.trod_string Tryz.underlying9 h3;obtain ⟨a4, e4, _, w4⟩ := DataW.trod_string Tryz.underlying9 h4;obtain ⟨a5, e5, _, w5⟩ := DataW.trod_int Tryz.underlying3 h5;obtain ⟨a6, e6, _, w6⟩ := DataW.trod_int Tryz.underlying3 h6;obtain ⟨a7, e7, _, w7⟩ := DataW.trod_string Tryz.underlying9 h7;have r0 := Jcm w0;have r1 := Jcm w1;have r2 := Jcm w2;have r5 := Jcm w5;have r6 := Jcm w6;simp at e0 e1 e2 e3 e4 e5 e6 e7;exact ⟨⟨a0, a1, a2, a3.data.toList, a4.data.toList, a5, a6, a7.data.toList⟩, by rw [e0, e1, e2, e3, e4, e5, e6, e7]; rfl, ⟨r0.1, r0.2, r1.1, r1.2, r2.1, r2.2, r5.1, r5.2, r6.1, r6.2⟩⟩
theorem Jnb (hf : DataW.trod enc Tryz.prog W 0 sp hd fuel 42 cs = some x) : ∃ y : Ra6, cs = [.int .u8 y.kind, .int .i64 y.s.trace, .int .i64 y.s.id, .int .i64 y.s.parent, .string (S y.s.svc), .string (S y.s.host), .int .i64 y.s.start, .int .i64 y.s.dur, .string (S y.s.note), .int .i64 y.n, .int .i64 y.m, .slice y.o y.keep.length y.k] ∧ RaW6 y ∧ NsA5 W y.o y.keep := by
 have ct : Tryz.prog.cellsOf 42 = 12 := by kernel_rfl
 have k0 : Tryz.prog.cellsOf 5 = 1 := by kernel_rfl
 have k1 : Tryz.prog.cellsOf 39 = 8 := by kernel_rfl
 have k2 : Tryz.prog.cellsOf 3 = 1 := by kernel_rfl
 have k3 : Tryz.prog.cellsOf 3 = 1 := by kernel_rfl
 have k4 : Tryz.prog.cellsOf 40 = 1 := by kernel_rfl
 obtain ⟨xs, n, _, _, hlen, hn, hel⟩ := DataW.trod_struct Tryz.underlying42 hf;have hnn : xs.length = 5 := hn;rw [ct] at hlen;match cs, hlen with
 | [c0, c1, c2, c3, c4, c5, c6, c7, c8, c9, c10, c11], _ =>
  have h0 : DataW.trod enc Tryz.prog W 0 sp hd n 5 (List.take (Tryz.prog.cellsOf 5) (List.drop 0 [c0, c1, c2, c3, c4, c5, c6, c7, c8, c9, c10, c11])) = xs[0]? := hel 0 _ rfl;rw [k0] at h0;obtain ⟨x0, hx0⟩ : ∃ x, xs[0]? = some x := ⟨xs[0], by simp [hnn]⟩
  rw [hx0] at h0;have h1 : DataW.trod enc Tryz.prog W 0 sp hd n 39 (List.take (Tryz.prog.cellsOf 39) (List.drop 1 [c0, c1, c2, c3, c4, c5, c6, c7, c8, c9, c10, c11])) = xs[1]? := hel 1 _ rfl;rw [k1] at h1;obtain ⟨x1, hx1⟩ : ∃ x, xs[1]? = some x := ⟨xs[1], by simp [hnn]⟩
  rw [hx1] at h1;have h2 : DataW.trod enc Tryz.prog W 0 sp hd n 3 (List.take (Tryz.prog.cellsOf 3) (List.drop 9 [c0, c1, c2, c3, c4, c5, c6, c7, c8, c9, c10, c11])) = xs[2]? := hel 2 _ rfl;rw [k2] at h2;obtain ⟨x2, hx2⟩ : ∃ x, xs[2]? = some x := ⟨xs[2], by simp [hnn]⟩
  rw [hx2] at h2;have h3 : DataW.trod enc Tryz.prog W 0 sp hd n 3 (List.take (Tryz.prog.cellsOf 3) (List.drop 10 [c0, c1, c2, c3, c4, c5, c6, c7, c8, c9, c10, c11])) = xs[3]? := hel 3 _ rfl;rw [k3] at h3;obtain ⟨x3, hx3⟩ : ∃ x, xs[3]? = some x := ⟨xs[3], by simp [hnn]⟩
  rw [hx3] at h3;have h4 : DataW.trod enc Tryz.prog W 0 sp hd n 40 (List.take (Tryz.prog.cellsOf 40) (List.drop 11 [c0, c1, c2, c3, c4, c5, c6, c7, c8, c9, c10, c11])) = xs[4]? := hel 4 _ rfl;rw [k4] at h4;obtain ⟨x4, hx4⟩ : ∃ x, xs[4]? = some x := ⟨xs[4], by simp [hnn]⟩
  rw [hx4] at h4;obtain ⟨a0, e0, _, w0⟩ := DataW.trod_int Tryz.underlying5 h0;obtain ⟨y1, e1, w1⟩ := Jna h1;obtain ⟨a2, e2, _, w2⟩ := DataW.trod_int Tryz.underlying3 h2;obtain ⟨a3, e3, _, w3⟩ := DataW.trod_int Tryz.underlying3 h3;obtain ⟨l5, o5, q5, e4, w5, n5⟩ := Jmt h4;simp at e0 e2 e3 e4;unfold spL at e1;simp at e1;obtain ⟨f1, f2, f3, f4, f5, f6, f7, f8⟩ := e1;have r0 := u8_wf5 w0;exact ⟨⟨a0, y1, a2, a3, l5, o5, q5⟩, by rw [e0, f1, f2, f3, f4, f5, f6, f7, f8, e2, e3, e4], ⟨r0, w1, Jcm w2, Jcm w3, w5⟩, n5⟩
theorem Jlm (hf : DataW.trod enc Tryz.prog W 0 sp hd fuel 22 cs = some x) : ∃ (L : List Ra6) (ao : Option Addr) (cap : Nat), cs = [.slice ao L.length cap] ∧ Jh1 L ∧ RasAt6 W ao L := by
 have c8 : Tryz.prog.cellsOf 42 = 12 := by kernel_rfl
 rcases Deep.open_slice Tryz.underlying22 hf with ⟨hcs, _⟩ | ⟨a, len, cap, m, n, D, Pz, hcs, _, hl, hm, hmm, _, hx⟩
 ·exact ⟨[], none, 0, hcs, ⟨by simp, by simp⟩, fun h => absurd rfl h⟩
 ·rw [c8] at hx
  have hlm : len ≤ m := by rw [hmm]; split <;> omega
  unfold maxLen at hm
  obtain ⟨L, hL, hp⟩ := Jeu ra06 len (p := fun i y => W.cells? 0 (a.add (i * 12)) 12 = some ([.int .u8 y.kind, .int .i64 y.s.trace, .int .i64 y.s.id, .int .i64 y.s.parent, .string (S y.s.svc), .string (S y.s.host), .int .i64 y.s.start, .int .i64 y.s.dur, .string (S y.s.note), .int .i64 y.n, .int .i64 y.m, .slice y.o y.keep.length y.k]) ∧ RaW6 y ∧ NsA5 W y.o y.keep) (fun i hi => by
   obtain ⟨cs', h1, h2⟩ := hx i (by omega);obtain ⟨y, rfl, hok, hns⟩ := Jnb h2
   exact ⟨y, h1, hok, hns⟩)
  refine ⟨L, some a, cap, by rw [hcs, hL], ⟨by omega, fun y hym => ?_⟩, fun hne => ?_⟩
  ·obtain ⟨i, hi, rfl⟩ := List.mem_iff_getElem.1 hym
   have := (hp i (by omega)).2.1;simpa [List.getD, List.getElem?_eq_getElem hi] using this
  ·have h0 : 0 < len := by rw [← hL]; exact List.length_pos_iff.2 hne
   have e := Jfe (Jda (hp 0 h0).1 0 _ rfl);simp only [Nat.zero_mul, show ∀ x : Addr, x.add 0 = x from fun x => if_pos rfl] at e;refine ⟨a.block, a.off, by rw [← e], fun j hj => ?_⟩;have hc := Jda (hp j (by omega)).1;rw [e, Addr.add_lit] at hc;exact ⟨⟨(hc 0 _ rfl), (hc 1 _ rfl), (hc 2 _ rfl), (hc 3 _ rfl), (hc 4 _ rfl), (hc 5 _ rfl), (hc 6 _ rfl), (hc 7 _ rfl), (hc 8 _ rfl), (hc 9 _ rfl), (hc 10 _ rfl), (hc 11 _ rfl)⟩, (hp j (by omega)).2.2⟩
def URas6 (W : World) (v : Value) : Prop := ∃ (L : List Ra6) (ao : Option Addr) (cap : Nat), v = .slice ao L.length cap ∧ Jh1 L ∧ RasAt6 W ao L
theorem open_ras6 (hv : Value.okWide Tryz.prog W r b0 22 v) (h : DataW.Trod enc Tryz.prog W 0 (fun _ => true) true 22 v d p) : URas6 W v := by
 obtain ⟨a0, len, cap, rfl⟩ := WideShapes.okWide_slice Tryz.underlying22 hv;obtain ⟨fuel, hf⟩ := h;obtain ⟨L, ao, cap', hcs, h1, h2⟩ := Jlm hf;simp [Value.cells] at hcs;obtain ⟨rfl, rfl, rfl⟩ := hcs;exact ⟨L, a0, cap, rfl, h1, h2⟩
end
structure FewR6 (r : Ra6) : Prop where
 note : r.s.note.length ≤ 200
 svc : r.s.svc.length ≤ 200
 host : r.s.host.length ≤ 200
 keep : r.keep.length ≤ 100
theorem FewR6.fits {r : Ra6} (h : FewR6 r) (k : RaW6 r) : r.s.fits := k.s.fits (by have := h.svc; omega) (by have := h.host; omega) (by have := h.note; omega)
structure Few6 (L : List Ra6) : Prop where
 n : L.length ≤ 150
 each : ∀ j, j < L.length → FewR6 (L.getD j ra06)
def Jqh (L : List Ra6) (w : World) (e : Ending) (w' : World) : Prop := (e = .returned (.bool true) ∧ w = w') ∨ (e = .returned (.bool false) ∧ Few6 L ∧ w = w')
theorem great6 (L : List Ra6) (ao : Option Addr) (cap : Nat) (w : World) (hI : Jh1 L) (h : RasAt6 w ao L) : Calls Tryz.prog 10 #[.slice ao L.length cap] w (Jqh L w) := by
 have hn := hI.n;have HI := Qh hI;have HA := Qh h;clear hI h;go_enter Tryz.func10, Tryz.ntmps10;go_wp2_with fail;go_loop [3] (fun i => ∃ k : Nat, k ≤ L.length ∧ i = .int .i64 k ∧ Hid (∀ j, j < k → FewR6 (L.getD j ra06))) (fun i => L.length - (intOf i).toNat)
 case atStart => exact ⟨0, Nat.zero_le _, rfl, Qh (fun j hj => by omega)⟩
 case round =>
  obtain ⟨k, hk, rfl, HF⟩ := hrel;by_cases hlt : k < L.length
  ·have d1 : decide (k < L.length) = true := by simpa using hlt
   obtain ⟨g, off, rfl, ⟨c0, c1, c2, c3, c4, c5, c6, c7, c8, c9, c10, c11⟩, -⟩ := HA.o.off hlt;have HR := Qh (HI.o.each (L.getD k ra06) (by rw [show L.getD k ra06 = L[k] from by simp [List.getD, hlt]]; exact List.getElem_mem hlt));have b4 := HR.o.keep.n
   have HG := Qh (show FewR6 (L.getD k ra06) → ∀ j, j < k + 1 → FewR6 (L.getD j ra06) from fun h j hj => by
    by_cases e : j = k
    ·rw [e]; exact h
    ·exact HF.o j (by omega))
   clear c0 c1 c2 c3 c6 c7 c9 c10;generalize L.getD k ra06 = r at *;obtain ⟨rk, ⟨t1, t2, t3, t4, t5, t6, t7, t8⟩, rn, rm, rkp, roA, rkk⟩ := r;simp only at b4 c4 c5 c8 c11;go_wp2_with fail
   all_goals first
    | (go_ret; exact .inl ⟨rfl, rfl⟩)
    | (go_round
       case rel => exact ⟨k + 1, by omega, by go_num, Qh (HG.o ⟨by simp only; omega, by simp only; omega, by simp only; omega, by simp only; omega⟩)⟩
       case measure => simp [intOf]; omega)
  ·have d1 : decide (k < L.length) = false := by simpa using hlt
   obtain rfl : k = L.length := by omega
   by_cases h150 : 150 < L.length
   ·have d2 : decide (150 < (L.length : Int)) = true := by simp; omega
    go_wp2_with fail;go_ret;exact .inl ⟨rfl, rfl⟩
   ·have d2 : decide (150 < (L.length : Int)) = false := by simp; omega
    go_wp2_with fail;go_ret;exact .inr ⟨rfl, ⟨by omega, HF.o⟩, rfl⟩
end Go.Proofs.YtmammmjmipgmoaaGreatDoor
