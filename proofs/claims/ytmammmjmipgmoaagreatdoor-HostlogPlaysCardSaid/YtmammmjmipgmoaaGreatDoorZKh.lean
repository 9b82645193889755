import Derived.Test.YtmammmjmipgmoaaGreatDoorZKg
import Derived.Test.YtmammmjmipgmoaaGreatDoorZF
import Derived.Test.YtmammmjmipgmoaaGreatDoorZQh
set_option linter.unusedVariables false
set_option maxRecDepth 100000
set_option maxHeartbeats 16000000
namespace Go.Proofs.YtmammmjmipgmoaaGreatDoor
section
open Go Go.RowKit Go.Maps
theorem Je5 {ops : Array Oper} {rest : List Oper} {o : Oper} {a : Act} {w : World} {Q : Exit → Act → World → Prop} (hgd : o.guard = none) (ty : TypeId) (x y : Operand) (ho : o.op = .store ty x y)
  (g off n cap base : Nat) (e : TypeId) (cells : Array Value) (xs : List Value) (hx : a.eval x = .pointer (some ⟨g, off, none⟩)) (hy : a.eval y = .agg cells)
  (hr : w.ownsRow base e cells.size (.slice (some ⟨g, 0, none⟩) n cap) n xs) (hi : (Tryz.prog.info? ty).map (·.size) = some cells.size)
  (hfit : off + cells.size ≤ n * cells.size) (h1 : ∀ v ∈ cells.toList, v.oneCell' = true)
  (h : ∀ w' xs', w'.ownsRow base e cells.size (.slice (some ⟨g, 0, none⟩) n cap) n xs' → Wr (fun q => q = g) w w' → wpList Tryz.prog ops Q rest (a.put o.dst undef) w') : wpList Tryz.prog ops Q (o :: rest) a w := by
 obtain ⟨hl, hr⟩ := hr;rcases hr with ⟨e', _⟩ | ⟨g', cap', cur, e', hB, hg, hc, hm, hs, ht⟩
 ·cases e'
 injection e' with e1 e2 e3
 injection e1 with e1
 injection e1 with e1
 subst e1; subst e3
 have hfit2 : off + cells.size ≤ cur.size := by
  rw [hs];exact Nat.le_trans hfit (Nat.mul_le_mul_right _ hc)
 obtain ⟨C, hC⟩ : ∃ C, C = (cur.toList.take off ++ cells.toList ++ cur.toList.drop (off + cells.size)).toArray := ⟨_, rfl⟩
 have hCs : C.size = cur.size := by
  rw [hC];simp;omega
 have hrun : (storeVar ty ⟨g, off, none⟩ (.agg cells)).run Tryz.prog w = .ok () (w.setRow g C) := by
  have := run_storeCells_at (P := Tryz.prog) g off e cells.toList 0 cur w hg (by simpa using hfit2) h1;rw [hC];cases hq : Tryz.prog.info? ty with
  | none => simp [hq] at hi
  | some i =>
   have hs : cells.size = i.size := by simp [hq] at hi; omega
   simpa [storeVar, sizeOf, typeInfo, hq, Value.cells, hs] using this
 have hw' : (w.setRow g C).heap[g]? = some (.cells C e (0, 0)) := setRow_heap w g _ _ _ _ hg
 have hrow : (w.setRow g C).ownsRow base e cells.size (.slice (some ⟨g, 0, none⟩) n cap) n (C.toList.take (n * cells.size)) := by
  refine ⟨?_, .inr ⟨g, cap, C, rfl, hB, hw', hc, hm, by rw [hCs]; exact hs, rfl⟩⟩;rw [List.length_take, Array.length_toList, hCs, hs];exact Nat.min_eq_left (Nat.mul_le_mul_right _ hc)
 have hwr : Wr (fun q => q = g) w (w.setRow g C) := ⟨rfl, rfl, rfl, by simp [World.setRow], fun k hk hn => by
  unfold World.setRow;simp only [Array.getElem?_modify]
  rw [if_neg (fun e => hn e.symm)]⟩
 refine wpList_plain hgd fun K hK => ?_
 unfold Oper.wp execOp;simp only [ho, hx, hy, Instr.storeAt, Instr.sureAddr, Sem.run_bind, Sem.run_pure, Result.andThen_ok, hrun];exact hK _ _ (h _ _ hrow hwr)
section
open Hl
variable {B d r x b q i : Nat} {G : Hl.Lg} {D Dr : Dk.St} {w w' : World} {P : Nat → Prop} {lp ld : Option (Nat × Hl.Lg)}
theorem Hl.Inv.reads (hi : Inv i G D) (a m : Int) (ha : -9223372036854775808 ≤ a ∧ a ≤ 9223372036854775807) (hm : -9223372036854775808 ≤ m ∧ m ≤ 9223372036854775807) : ∃ (K : List M.Sp) (nb : Nat) (er : Int), K.length ≤ 1000 ∧
  (∀ (P : Nat → Prop) (B d r b : Nat) (ld : Option (Nat × Hl.Lg)) (Dr : Dk.St) (w : World), Bn P B d r (some (b, G)) D ld Dr w → Calls Tryz.prog 17 #[.pointer (some ⟨b, 0, none⟩), .int .i64 a, .int .i64 m] w (Jeg K nb er w)) ∧
  (∀ (P : Nat → Prop) (B d r q : Nat) (lp : Option (Nat × Hl.Lg)) (Dp : Dk.St) (w : World), Bn P B d r lp Dp (some (q, G)) D w → Calls Tryz.prog 45 #[.pointer (some ⟨q, 0, none⟩), .int .i64 a, .int .i64 m] w (Jeg K nb er w)) := by
 by_cases hs : Hl.state D G = 0
 ·obtain ⟨F, Z, hl, _⟩ := hi.lv hs
  refine ⟨readS Z D G a m, readNb D G a m, readE D G a m, ?_, fun P B d r b ld Dr w k => ?_, fun P B d r q lp Dp w k => ?_⟩
  ·unfold readS
   split
   ·rw [readAll_eq _ _ Z F hl.hz.cn, List.length_drop, List.length_take]
    have := hl.small;have := cnt_flat Z;omega
   ·exact Nat.zero_le _
  ·obtain ⟨X, hX⟩ := k.hg
   exact Jdp hX Z hl.gs hl.rd a m ha hm (by rw [hl.sure]; have := hl.small; have := sureN_le Z D.L; omega)
  ·obtain ⟨c, vs, hX⟩ := k.dc
   exact Jo4 hX Z hl.gs (fun _ => hl.rd) (fun _ => hl.rcok) (fun _ => hl.rcsf) (fun _ => hl.cnd) a m ha hm
 ·refine ⟨[], 0, 51, Nat.zero_le _, fun P B d r b ld Dr w k => ?_, fun P B d r q lp Dp w k => ?_⟩
  ·obtain ⟨X, hX⟩ := k.hg
   exact Jlt hX a m hs
  ·obtain ⟨c, vs, hX⟩ := k.dc
   exact Jhy hX a m hs
theorem Jlv : (Tryz.prog.info? 39).map (·.size) = some 8 := by kernel_rfl
theorem Jng (h : Bn (fun k => k = x) B d r (some (b, G)) D (some (q, G)) D w) (hi : Inv i G D) (h8 : i ≤ 800) (hbx : Bk (bxC d r (.pointer (some ⟨b, 0, none⟩)) (.pointer (some ⟨q, 0, none⟩))) 36 w x) (y : Ra6) (hy : RaP6 B w y) (m : Nat) (hm : y.kind % 13 = (m : Int)) (hk : m = 9) : Calls Tryz.prog 15 #[.pointer (some ⟨x, 0, none⟩), .agg (raA6 y)] w (ActB i B d r x w) := by
 have hbw := (Below.refl w.heap.size w).alloc (Nat.le_refl _) (.cells (raA6 y) 42);have HO := Qh h.dok;have HN := Qh (h.newrow hbw);have HX := Qh (hbx.below hbw);have HR := Qh (hy.below (hbw.mono h.size));have HB := Qh (hbw.mono h.size);have HI := Qh hi;have H8 := Qh h8;obtain ⟨xb, hxb⟩ : ∃ z, z = w.heap.size := ⟨_, rfl⟩
 obtain ⟨w1, hw1⟩ : ∃ z, z = w.alloc (.cells (raA6 y) 42) := ⟨_, rfl⟩
 have HY := Qh (show Bk (raA6 y) 42 w1 xb from by rw [hw1, hxb]; exact Jae _ _ _);have HPQ := Qh (show (fun k => k = x ∨ (w.heap.size ≤ k ∧ k < w1.heap.size)) x ∧ (fun k => k = x ∨ (w.heap.size ≤ k ∧ k < w1.heap.size)) xb ∧ ∀ k, k = x → (fun k => k = x ∨ (w.heap.size ≤ k ∧ k < w1.heap.size)) k from ⟨.inl rfl, .inr ⟨by omega, HY.o.lt⟩, fun k hk => .inl hk⟩);rw [← hw1] at HN HX HR HB;generalize (fun k => k = x ∨ (w.heap.size ≤ k ∧ k < w1.heap.size)) = P at *;obtain ⟨hk0, hk1⟩ := hy.kind;have HI2 := Qh (hi.next_ (j := i + 1) (by omega));obtain ⟨KL, nb, er, hKl, hCP, hCD⟩ := hi.reads y.n y.m hy.n hy.m;have CP := Qh hCP;have CD := Qh hCD;have HK := Qh hKl;clear h hi h8 hbx hy hbw  hCP hCD hKl;have hHY := HY.o;unfold raA6 at hw1 hHY ⊢;subst hk;go_enter Tryz.func15, Tryz.ntmps15;go_upto_region 12 with fail
 rw [← hw1, ← hxb];clear hw1 hHY hxb;replace HN := Qh (HN.o.below (Below.refl _ _).drew);replace HX := Qh HX.o.drew;replace HY := Qh HY.o.drew;replace HB := Qh HB.o.drew;replace HR := Qh (HR.o.below (Below.refl _ _).drew);refine wp_region_held_drew (S := fun V => V.cell? ⟨x, 1, none⟩ = some (.pointer (some ⟨b, 0, none⟩)) ∧ V.cell? ⟨x, 3, none⟩ = some (.pointer (some ⟨q, 0, none⟩)) ∧ V.cell? ⟨xb, 9, none⟩ = some (.int .i64 y.n) ∧ V.cell? ⟨xb, 10, none⟩ = some (.int .i64 y.m)) (by kernel_rfl) ?_ (fun hQ => ?_)
 ·exact ⟨HX.o.cell 1, HX.o.cell 3, HY.o.cell 9, HY.o.cell 10⟩
 obtain ⟨w1d, hv⟩ : ∃ q, q = World.drew w1 := ⟨_, rfl⟩
 rw [← hv] at HN HX HY HB HR hQ ⊢;clear hv;have HX0 := Qh (show x < w1d.heap.size from HX.o.lt);refine tkH 0 ?_;refine tkH 1 ?_;refine tkH 2 ?_;refine tkH 3 ?_;refine tkH 4 ?_;refine tkH 5 ?_;refine tkH 6 ?_;refine tkH 7 ?_;refine tqH 8 fun K hK => ?_
 go_simp;have CJ := Qh (CP.o _ _ _ _ _ _ _ _ HN.o);go_simp;go_at_call 17;with_reducible refine (CJ.o).mono ?_
 rintro e v1 ⟨aov1, capv1, rfl, ho, hb⟩;replace HB := Qh (HB.o.trans (hb.mono HN.o.size));replace HR := Qh (HR.o.below (hb.mono HN.o.size));replace HX := Qh (HX.o.below hb);replace HY := Qh (HY.o.below hb);have HSv1 := Qh (Jaq ho HN.o.size);have HQ := Qh (show ∀ k, (Value.slice aov1 KL.length capv1).ownBlock = some k → (fun k => P k ∨ (w1d.heap.size ≤ k ∧ k < v1.heap.size)) k ∧ B ≤ k from fun k hk => ⟨.inr (ho.lt k hk), Nat.le_trans HN.o.size (ho.lt k hk).1⟩);have HPL := Qh (show ∀ k, k = x → (fun k => P k ∨ (w1d.heap.size ≤ k ∧ k < v1.heap.size)) k from fun k hk => .inl (HPQ.o.2.2 k hk));have HXQ := Qh (show ∀ k, (Value.slice aov1 KL.length capv1).ownBlock = some k → k ≠ x from fun k hk e => by have h1 := (ho.lt k hk).1; have h2 := HX0.o; omega);replace HN := Qh (HN.o.newrow hb);generalize (fun k => P k ∨ (w1d.heap.size ≤ k ∧ k < v1.heap.size)) = P1 at *;clear ho hb CJ;go_wp2_with fail;refine hK.out _ _ ?_ (fun hQ => ?_)
 ·exact ⟨HX.o.cell 1, HX.o.cell 3, HY.o.cell 9, HY.o.cell 10⟩
 clear hK K;refine tkH 9 ?_;refine tkH 10 ?_;refine tkH 11 ?_;refine tkH 12 ?_;refine tkH 13 ?_;refine tkH 14 ?_;refine tkH 15 ?_;refine wpAnyH_done (by kernel_rfl) ?_ _;clear hQ;go_upto_region 13 with fail
 replace HSv1 := Qh (Jaf HSv1.o (Below.refl _ _).drew);replace HN := Qh (HN.o.below (Below.refl _ _).drew);replace HX := Qh HX.o.drew;replace HY := Qh HY.o.drew;replace HB := Qh HB.o.drew;replace HR := Qh (HR.o.below (Below.refl _ _).drew);refine wp_region_held_drew (S := fun V => V.cell? ⟨x, 1, none⟩ = some (.pointer (some ⟨b, 0, none⟩)) ∧ V.cell? ⟨x, 3, none⟩ = some (.pointer (some ⟨q, 0, none⟩)) ∧ V.cell? ⟨xb, 9, none⟩ = some (.int .i64 y.n) ∧ V.cell? ⟨xb, 10, none⟩ = some (.int .i64 y.m)) (by kernel_rfl) ?_ (fun hQ => ?_)
 ·exact ⟨HX.o.cell 1, HX.o.cell 3, HY.o.cell 9, HY.o.cell 10⟩
 obtain ⟨v1d, hv⟩ : ∃ q, q = World.drew v1 := ⟨_, rfl⟩
 rw [← hv] at HN HX HY HB HR HSv1 hQ ⊢;clear hv;refine tkH 0 ?_;refine tkH 1 ?_;refine tkH 2 ?_;refine tkH 3 ?_;refine tkH 4 ?_;refine tkH 5 ?_;refine tkH 6 ?_;refine tkH 7 ?_;refine tqH 8 fun K hK => ?_
 go_simp;have CJ := Qh (CD.o _ _ _ _ _ _ _ _ HN.o);go_simp;go_at_call 45;with_reducible refine (CJ.o).mono ?_
 rintro e v2 ⟨aov2, capv2, rfl, ho, hb⟩;replace HB := Qh (HB.o.trans (hb.mono HN.o.size));replace HR := Qh (HR.o.below (hb.mono HN.o.size));replace HX := Qh (HX.o.below hb);replace HY := Qh (HY.o.below hb);have HSv2 := Qh (Jaq ho HN.o.size);replace HSv1 := Qh (Jaf HSv1.o hb);replace HN := Qh (HN.o.below hb);clear ho hb CJ;go_wp2_with fail;refine hK.out _ _ ?_ (fun hQ => ?_)
 ·exact ⟨HX.o.cell 1, HX.o.cell 3, HY.o.cell 9, HY.o.cell 10⟩
 clear hK K;refine tkH 9 ?_;refine tkH 10 ?_;refine tkH 11 ?_;refine tkH 12 ?_;refine tkH 13 ?_;refine tkH 14 ?_;refine tkH 15 ?_;refine wpAnyH_done (by kernel_rfl) ?_ _;clear hQ HY HR HX0 HPQ CP CD;have CS := Qh (Jhp capv1 capv2 (Jg8 HSv1.o rfl) (Jg8 HSv2.o rfl) (by have := HK.o; omega) (by have := HK.o; omega));have s0 : (((nb : Nat) : Int) == ((nb : Nat) : Int)) = true := by simp
 have s1 : (er == er) = true := by simp
 go_wp2_with fail;with_reducible refine CS.o.mono ?_
 rintro e v3 ⟨he, -, hb⟩;obtain rfl := he (by trivial);have HL := Qh (show Bn P1 B d r (some (b, G)) D (some (q, G)) D v3 ∧ Bk (bxC d r (.pointer (some ⟨b, 0, none⟩)) (.pointer (some ⟨q, 0, none⟩))) 36 v3 x ∧ (∃ xs, v3.ownsRow B 39 8 (.slice aov1 KL.length capv1) KL.length xs) ∧ Below B w v3 from ⟨HN.o.below hb, HX.o.below hb, ⟨_, Jaf HSv1.o hb⟩, HB.o.trans (hb.mono HN.o.size)⟩);clear he hb CS HN HX HSv1 HSv2 HB;go_wp2_with fail;go_loopw [14] (fun v wq => ∃ j : Nat, j ≤ KL.length ∧ v = .int .i64 j ∧ Hid (Bn P1 B d r (some (b, G)) D (some (q, G)) D wq ∧ Bk (bxC d r (.pointer (some ⟨b, 0, none⟩)) (.pointer (some ⟨q, 0, none⟩))) 36 wq x ∧ (∃ xs, wq.ownsRow B 39 8 (.slice aov1 KL.length capv1) KL.length xs) ∧ Below B w wq)) (fun v _ => KL.length - (intOf v).toNat)
 case atStart => exact ⟨0, Nat.zero_le _, rfl, HL⟩
 case round =>
  clear HL;obtain ⟨wx, rfl⟩ : ∃ z, z = wr := ⟨_, rfl⟩
  obtain ⟨j, hj, rfl, HQR⟩ := hrel;obtain ⟨hQ1, hQ2, ⟨xs, hQ3⟩, hQ4⟩ := HQR.o;have HQ1 := Qh hQ1;have HQ2 := Qh hQ2;have HQ3 := Qh hQ3;have HQ4 := Qh hQ4;clear HQR hQ1 hQ2 hQ4;by_cases hlt : j < KL.length
  ·have d2 : decide ((j : Int) < (KL.length : Int)) = true := by simpa using hlt
   have d2' : decide (j < KL.length) = true := by simpa using hlt
   obtain ⟨g, rfl⟩ : ∃ g, aov1 = some ⟨g, 0, none⟩ := by
    rcases hQ3.2 with ⟨e9, e8⟩ | ⟨g9, cap9, cur9, e9, _⟩
    ·omega
    ·injection e9 with e9 _ _; exact ⟨g9, e9⟩
   have hj1 : (0 : Int) ≤ (j : Int) := by omega
   have hj2 : (j : Int) < (KL.length : Int) := by omega
   have e1 : IntKind.i64.wrap ((j : Int) + 1) = ((j + 1 : Nat) : Int) := by rw [IntWalk.i64_in _ (by have := HK.o; omega)]; omega
   clear hQ3;go_wp2_with (refine Je5 rfl 39 _ _ rfl g _ KL.length capv1 B 39 _ xs rfl rfl HQ3.o Jlv (by simp; omega) (by simp [Value.oneCell']) ?_; intro wy xs' hy' hwy; have HY1 := Qh hy'; have HY2 := Qh hwy; clear hy' hwy)
   have HF := Qh (show Bn P1 B d r (some (b, G)) D (some (q, G)) D wy ∧ Bk (bxC d r (.pointer (some ⟨b, 0, none⟩)) (.pointer (some ⟨q, 0, none⟩))) 36 wy x ∧ (∃ xs, wy.ownsRow B 39 8 (.slice (some ⟨g, 0, none⟩) KL.length capv1) KL.length xs) ∧ Below B w wy from
    ⟨HQ1.o.wr HY2.o (fun k hk => by have e9 : k = g := hk; rw [e9]; exact (HQ.o g rfl).1), HQ2.o.wr HY2.o (fun hk => HXQ.o g rfl hk.symm), ⟨_, HY1.o⟩, HQ4.o.trans (HY2.o.below (fun k hk => by have e9 : k = g := hk; rw [e9]; exact (HQ.o g rfl).2) HQ1.o.size)⟩)
   clear HY1 HY2 HQ1 HQ2 HQ3 HQ4;go_roundw
   case rel => exact ⟨j + 1, by omega, rfl, HF⟩
   case measure => simp [intOf]; omega
  ·have d2 : decide ((j : Int) < (KL.length : Int)) = false := by simpa using hlt
   have d2' : decide (j < KL.length) = false := by simpa using hlt
   clear hQ3;go_wp2_with fail;go_ret;exact ⟨rfl, HQ4.o, b, q, G, D, HQ1.o.less HPL.o, HI2.o, HQ2.o⟩
end
end
section
open Go Go.RowKit Go.Maps
section
open Hl
variable {B d r x b q i : Nat} {G : Hl.Lg} {D Dr : Dk.St} {w w' : World} {P : Nat → Prop} {lp ld : Option (Nat × Hl.Lg)}
theorem Jlw (h : Bn (fun k => k = x) B d r (some (b, G)) D (some (q, G)) D w) (hi : Inv i G D) (h8 : i ≤ 800) (hbx : Bk (bxC d r (.pointer (some ⟨b, 0, none⟩)) (.pointer (some ⟨q, 0, none⟩))) 36 w x) (y : Ra6) (hy : RaP6 B w y) (m : Nat) (hm : y.kind % 13 = (m : Int)) (hk : m = 10) : Calls Tryz.prog 15 #[.pointer (some ⟨x, 0, none⟩), .agg (raA6 y)] w (ActB i B d r x w) := by
 have hbw := (Below.refl w.heap.size w).alloc (Nat.le_refl _) (.cells (raA6 y) 42);have HO := Qh h.dok;have HN := Qh (h.newrow hbw);have HX := Qh (hbx.below hbw);have HR := Qh (hy.below (hbw.mono h.size));have HB := Qh (hbw.mono h.size);have HI := Qh hi;have H8 := Qh h8;obtain ⟨xb, hxb⟩ : ∃ z, z = w.heap.size := ⟨_, rfl⟩
 obtain ⟨w1, hw1⟩ : ∃ z, z = w.alloc (.cells (raA6 y) 42) := ⟨_, rfl⟩
 have HY := Qh (show Bk (raA6 y) 42 w1 xb from by rw [hw1, hxb]; exact Jae _ _ _);have HPQ := Qh (show (fun k => k = x ∨ (w.heap.size ≤ k ∧ k < w1.heap.size)) x ∧ (fun k => k = x ∨ (w.heap.size ≤ k ∧ k < w1.heap.size)) xb ∧ ∀ k, k = x → (fun k => k = x ∨ (w.heap.size ≤ k ∧ k < w1.heap.size)) k from ⟨.inl rfl, .inr ⟨by omega, HY.o.lt⟩, fun k hk => .inl hk⟩);rw [← hw1] at HN HX HR HB;generalize (fun k => k = x ∨ (w.heap.size ≤ k ∧ k < w1.heap.size)) = P at *;obtain ⟨hk0, hk1⟩ := hy.kind;have HIC := Qh (hi.crash6 y.keep);have HI2 := Qh (hi.crash6 y.keep).start6;have HST := Qh (show (Dk.crash y.keep D).2.starts ≤ 1000000000 from by have := (hi.crash6 y.keep).few; omega);have HOP := Qh (fun W (k : Bn P B d r (some (b, G)) (Dk.start (Dk.crash y.keep D).2).2 (some (q, G)) (Dk.start (Dk.crash y.keep D).2).2 W) (kx : Bk (bxC d r (.pointer (some ⟨b, 0, none⟩)) (.pointer (some ⟨q, 0, none⟩))) 36 W x) => Jhj (k.less HPQ.o.2.2) (HI2.o).1 (by omega) (HI2.o).2 kx);clear h hi h8 hbx hy hbw;have hHY := HY.o;unfold raA6 at hw1 hHY ⊢;subst hk;go_enter Tryz.func15, Tryz.ntmps15;go_upto_region 21 with fail
 rw [← hw1, ← hxb];clear hw1 hHY hxb;replace HN := Qh (HN.o.below (Below.refl _ _).drew);replace HX := Qh HX.o.drew;replace HY := Qh HY.o.drew;replace HB := Qh HB.o.drew;replace HR := Qh (HR.o.below (Below.refl _ _).drew);refine wp_region_held_drew (S := fun V => V.cell? ⟨x, 0, none⟩ = some (.pointer (some ⟨d, 0, none⟩)) ∧ V.cell? ⟨x, 2, none⟩ = some (.pointer (some ⟨r, 0, none⟩)) ∧ V.cell? ⟨xb, 11, none⟩ = some (.slice y.o y.keep.length y.k)) (by kernel_rfl) ?_ (fun hQ => ?_)
 ·exact ⟨HX.o.cell 0, HX.o.cell 2, HY.o.cell 11⟩
 obtain ⟨w1d, hv⟩ : ∃ q, q = World.drew w1 := ⟨_, rfl⟩
 rw [← hv] at HN HX HY HB HR hQ ⊢;clear hv;refine tkH 0 ?_;refine tkH 1 ?_;refine tkH 2 ?_;refine tkH 3 ?_;refine tkH 4 ?_;refine tkH 5 ?_;refine tkH 7 ?_;refine tkH 8 ?_;refine tkH 9 ?_;refine tkH 10 ?_;refine tkH 11 ?_;refine tkH 12 ?_;refine tqH 6 fun K hK => ?_
 go_simp;have CJ := Qh (HN.o.crashP HR.o);go_simp;go_at_call 27;with_reducible refine (CJ.o).mono ?_
 rintro e v1 ⟨rfl, hn, hw⟩;replace HB := Qh (HB.o.trans (hw.below (fun k hk => hk.1) HN.o.size));replace HR := Qh (HR.o.below (hw.below (fun k hk => hk.1) HN.o.size));replace HX := Qh (HX.o.wr hw (fun z => z.2 HPQ.o.1));replace HY := Qh (HY.o.wr hw (fun z => z.2 HPQ.o.2.1));replace HN := Qh hn;clear hn hw CJ;go_wp2_with fail;refine hK.out _ _ ?_ (fun hQ => ?_)
 ·exact ⟨HX.o.cell 0, HX.o.cell 2, HY.o.cell 11⟩
 clear hK K;refine tqH 13 fun K hK => ?_
 go_simp;have CJ := Qh (HN.o.crashD HR.o);go_simp;go_at_call 46;with_reducible refine (CJ.o).mono ?_
 rintro e v2 ⟨rfl, hn, hw⟩;replace HB := Qh (HB.o.trans (hw.below (fun k hk => hk.1) HN.o.size));replace HR := Qh (HR.o.below (hw.below (fun k hk => hk.1) HN.o.size));replace HX := Qh (HX.o.wr hw (fun z => z.2 HPQ.o.1));replace HY := Qh (HY.o.wr hw (fun z => z.2 HPQ.o.2.1));replace HN := Qh hn;clear hn hw CJ;go_wp2_with fail;refine hK.out _ _ ?_ (fun hQ => ?_)
 ·exact ⟨HX.o.cell 0, HX.o.cell 2, HY.o.cell 11⟩
 clear hK K;refine tkH 14 ?_;refine tkH 15 ?_;refine wpAnyH_done (by kernel_rfl) ?_ _;have s0 : (((Dk.crash y.keep D).1 : Int) == (Dk.crash y.keep D).1) = true := by simp
 have x0 := HX.o.cell 0;simp at x0;clear hQ HY HR;go_wp2_with fail;with_reducible refine (HN.o.startP HST.o).mono ?_
 rintro e v3 ⟨rfl, hn, hw⟩;clear x0;replace HB := Qh (HB.o.trans (hw.below (fun k hk => hk.1) HN.o.size));replace HX := Qh (HX.o.wr hw (fun z => z.2 HPQ.o.1));replace HN := Qh hn;clear hn hw;have x2 := HX.o.cell 2;simp at x2;go_wp2_with fail;with_reducible refine (HN.o.startD HST.o).mono ?_
 rintro e v4 ⟨rfl, hn, hw⟩;clear x2;replace HB := Qh (HB.o.trans (hw.below (fun k hk => hk.1) HN.o.size));replace HX := Qh (HX.o.wr hw (fun z => z.2 HPQ.o.1));replace HN := Qh hn;clear hn hw;go_wp2_with fail;with_reducible refine (HOP.o _ HN.o HX.o).mono ?_
 rintro e v9 ⟨rfl, hb, hc⟩;have HF := Qh (show Below B w v9 ∧ Bch (i + 1) B d r x v9 from ⟨HB.o.trans hb, hc⟩);clear hb hc HB HX HN;go_wp2_with fail;go_ret;exact ⟨rfl, HF.o.1, HF.o.2⟩
theorem Jlx (h : Bn (fun k => k = x) B d r (some (b, G)) D (some (q, G)) D w) (hi : Inv i G D) (h8 : i ≤ 800) (hbx : Bk (bxC d r (.pointer (some ⟨b, 0, none⟩)) (.pointer (some ⟨q, 0, none⟩))) 36 w x) (y : Ra6) (hy : RaP6 B w y) (m : Nat) (hm : y.kind % 13 = (m : Int)) (hk : m = 12) : Calls Tryz.prog 15 #[.pointer (some ⟨x, 0, none⟩), .agg (raA6 y)] w (ActB i B d r x w) := by
 have hbw := (Below.refl w.heap.size w).alloc (Nat.le_refl _) (.cells (raA6 y) 42);have HO := Qh h.dok;have HN := Qh (h.newrow hbw);have HX := Qh (hbx.below hbw);have HR := Qh (hy.below (hbw.mono h.size));have HB := Qh (hbw.mono h.size);have HI := Qh hi;have H8 := Qh h8;obtain ⟨xb, hxb⟩ : ∃ z, z = w.heap.size := ⟨_, rfl⟩
 obtain ⟨w1, hw1⟩ : ∃ z, z = w.alloc (.cells (raA6 y) 42) := ⟨_, rfl⟩
 have HY := Qh (show Bk (raA6 y) 42 w1 xb from by rw [hw1, hxb]; exact Jae _ _ _);have HPQ := Qh (show (fun k => k = x ∨ (w.heap.size ≤ k ∧ k < w1.heap.size)) x ∧ (fun k => k = x ∨ (w.heap.size ≤ k ∧ k < w1.heap.size)) xb ∧ ∀ k, k = x → (fun k => k = x ∨ (w.heap.size ≤ k ∧ k < w1.heap.size)) k from ⟨.inl rfl, .inr ⟨by omega, HY.o.lt⟩, fun k hk => .inl hk⟩);rw [← hw1] at HN HX HR HB;generalize (fun k => k = x ∨ (w.heap.size ≤ k ∧ k < w1.heap.size)) = P at *;obtain ⟨hk0, hk1⟩ := hy.kind;have HI2 := Qh hi.start6;have HST := Qh (show D.starts ≤ 1000000000 from by have := hi.few; omega);have HOP := Qh (fun W (k : Bn P B d r (some (b, G)) (Dk.start D).2 (some (q, G)) (Dk.start D).2 W) (kx : Bk (bxC d r (.pointer (some ⟨b, 0, none⟩)) (.pointer (some ⟨q, 0, none⟩))) 36 W x) => Jhj (k.less HPQ.o.2.2) (HI2.o).1 (by omega) (HI2.o).2 kx);clear h hi h8 hbx hy hbw;have hHY := HY.o;unfold raA6 at hw1 hHY ⊢;subst hk;go_enter Tryz.func15, Tryz.ntmps15;go_upto_region 28 with fail
 rw [← hw1, ← hxb];clear hw1 hHY hxb;replace HN := Qh (HN.o.below (Below.refl _ _).drew);replace HX := Qh HX.o.drew;replace HY := Qh HY.o.drew;replace HB := Qh HB.o.drew;replace HR := Qh (HR.o.below (Below.refl _ _).drew);refine wp_region_held_drew (S := fun V => V.cell? ⟨x, 0, none⟩ = some (.pointer (some ⟨d, 0, none⟩)) ∧ V.cell? ⟨x, 2, none⟩ = some (.pointer (some ⟨r, 0, none⟩))) (by kernel_rfl) ?_ (fun hQ => ?_)
 ·exact ⟨HX.o.cell 0, HX.o.cell 2⟩
 obtain ⟨w1d, hv⟩ : ∃ q, q = World.drew w1 := ⟨_, rfl⟩
 rw [← hv] at HN HX HY HB HR hQ ⊢;clear hv;refine tkH 0 ?_;refine tkH 1 ?_;refine tkH 2 ?_;refine tkH 3 ?_;refine tkH 5 ?_;refine tkH 6 ?_;refine tkH 7 ?_;refine tkH 8 ?_;refine tqH 4 fun K hK => ?_
 go_simp;have CJ := Qh (HN.o.startP HST.o);go_simp;go_at_call 31;with_reducible refine (CJ.o).mono ?_
 rintro e v1 ⟨rfl, hn, hw⟩;replace HB := Qh (HB.o.trans (hw.below (fun k hk => hk.1) HN.o.size));replace HR := Qh (HR.o.below (hw.below (fun k hk => hk.1) HN.o.size));replace HX := Qh (HX.o.wr hw (fun z => z.2 HPQ.o.1));replace HY := Qh (HY.o.wr hw (fun z => z.2 HPQ.o.2.1));replace HN := Qh hn;clear hn hw CJ;go_wp2_with fail;refine hK.out _ _ ?_ (fun hQ => ?_)
 ·exact ⟨HX.o.cell 0, HX.o.cell 2⟩
 clear hK K;refine tqH 9 fun K hK => ?_
 go_simp;have CJ := Qh (HN.o.startD HST.o);go_simp;go_at_call 47;with_reducible refine (CJ.o).mono ?_
 rintro e v2 ⟨rfl, hn, hw⟩;replace HB := Qh (HB.o.trans (hw.below (fun k hk => hk.1) HN.o.size));replace HR := Qh (HR.o.below (hw.below (fun k hk => hk.1) HN.o.size));replace HX := Qh (HX.o.wr hw (fun z => z.2 HPQ.o.1));replace HY := Qh (HY.o.wr hw (fun z => z.2 HPQ.o.2.1));replace HN := Qh hn;clear hn hw CJ;go_wp2_with fail;refine hK.out _ _ ?_ (fun hQ => ?_)
 ·exact ⟨HX.o.cell 0, HX.o.cell 2⟩
 clear hK K;refine tkH 10 ?_;refine tkH 11 ?_;refine wpAnyH_done (by kernel_rfl) ?_ _;have s0 : (((Dk.start D).1 : Int) == (Dk.start D).1) = true := by simp
 clear hQ HY HR;go_wp2_with fail;with_reducible refine (HOP.o _ HN.o HX.o).mono ?_
 rintro e v9 ⟨rfl, hb, hc⟩;have HF := Qh (show Below B w v9 ∧ Bch (i + 1) B d r x v9 from ⟨HB.o.trans hb, hc⟩);clear hb hc HB HX HN;go_wp2_with fail;go_ret;exact ⟨rfl, HF.o.1, HF.o.2⟩
end
end
end Go.Proofs.YtmammmjmipgmoaaGreatDoor
