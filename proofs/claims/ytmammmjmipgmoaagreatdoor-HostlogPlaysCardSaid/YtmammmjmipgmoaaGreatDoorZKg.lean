import Derived.Test.YtmammmjmipgmoaaGreatDoorZKf
import Derived.Test.YtmammmjmipgmoaaGreatDoorZHj
import Derived.Test.YtmammmjmipgmoaaGreatDoorZQh
set_option linter.unusedVariables false
set_option maxRecDepth 100000
set_option maxHeartbeats 16000000
namespace Go.Proofs.YtmammmjmipgmoaaGreatDoor
open Go Go.RowKit Go.Maps
section
open Hl
variable {B d r x b q i : Nat} {G : Hl.Lg} {D Dr : Dk.St} {w w' : World} {P : Nat → Prop} {lp ld : Option (Nat × Hl.Lg)}
theorem Hl.Inv.ends (hi : Inv i G D) (h8 : i ≤ 800) (hs : Hl.state D G = 0) : endN G ≤ 890 ∧ G.S.length < 1000 ∧ RcOk D G ∧ ∀ s ∈ G.S, s.n ≤ 1000 := by
 obtain ⟨F, Z, hl, hk⟩ := hi.lv hs;exact ⟨by rw [hl.endN]; omega, hl.fewS, hl.rcok, fun s hs => by have := (hl.rcok.rec_ s hs).2.2; omega⟩
theorem Hl.Inv.rcok (hi : Inv i G D) : Hl.state D G = 0 → RcOk D G := fun hs => by obtain ⟨F, Z, hl, _⟩ := hi.lv hs; exact hl.rcok
abbrev WrB (P : Nat → Prop) (B : Nat) (w w' : World) : Prop := Wr (fun k => B ≤ k ∧ ¬ P k) w w'
theorem Bn.appP (k : Bn P B d r (some (b, G)) D ld Dr w) (hi : Inv i G D) (h8 : i ≤ 800) (s : M.Sp) (hf : s.fits) :
  Calls Tryz.prog 19 #[.pointer (some ⟨b, 0, none⟩), spA6 s] w fun e w' => e = .returned (.int .i64 (append6 s G D).1) ∧ Bn P B d r (some (b, (append6 s G D).2.2)) (append6 s G D).2.1 ld Dr w' ∧ WrB P B w w' := by
 by_cases hs : Hl.state D G = 0
 ·obtain ⟨q1, q2, q3, q4⟩ := hi.ends h8 hs
  exact k.plog (fun X h1 h2 h3 => Jfi h1 h2 h3 s hf q1 q2)
 ·have e : append6 s G D = (Hl.state D G, D, G) := if_pos hs
  rw [e];exact k.plog (fun X h1 h2 h3 => Ji8 h1 s hs)
theorem Bn.appD (k : Bn P B d r lp Dr (some (q, G)) D w) (hO : Dk.Ok D) (hi : Inv i G D) (h8 : i ≤ 800) (s : M.Sp) (hf : s.fits) :
  Calls Tryz.prog 49 #[.pointer (some ⟨q, 0, none⟩), spA6 s] w fun e w' => e = .returned (.int .i64 (append6 s G D).1) ∧ Bn P B d r lp Dr (some (q, (append6 s G D).2.2)) (append6 s G D).2.1 w' ∧ WrB P B w w' := by
 by_cases hs : Hl.state D G = 0
 ·obtain ⟨q1, q2, q3, q4⟩ := hi.ends h8 hs
  exact k.dlog (fun c vs h hB => Jlo h hO hB hi.rcok s hf q1 q2)
 ·have e : append6 s G D = (Hl.state D G, D, G) := if_pos hs
  rw [e, Jb0 hs];exact k.dlog (fun c vs h hB => Jf9 h s hs)
theorem Bn.rotP (k : Bn P B d r (some (b, G)) D ld Dr w) (hi : Inv i G D) (h8 : i ≤ 800) :
  Calls Tryz.prog 21 #[.pointer (some ⟨b, 0, none⟩)] w fun e w' => e = .returned (.int .i64 (rotate6 G D).1) ∧ Bn P B d r (some (b, (rotate6 G D).2.2)) (rotate6 G D).2.1 ld Dr w' ∧ WrB P B w w' := by
 by_cases hs : Hl.state D G = 0
 ·obtain ⟨q1, q2, q3, q4⟩ := hi.ends h8 hs
  exact k.plog (fun X h1 h2 h3 => Jcf h1 h2 h3 q1 q2)
 ·have e : rotate6 G D = (Hl.state D G, D, G) := if_pos hs
  rw [e];exact k.plog (fun X h1 h2 h3 => Ji9 h1 hs)
theorem Bn.rotD (k : Bn P B d r lp Dr (some (q, G)) D w) (hO : Dk.Ok D) (hi : Inv i G D) (h8 : i ≤ 800) :
  Calls Tryz.prog 43 #[.pointer (some ⟨q, 0, none⟩)] w fun e w' => e = .returned (.int .i64 (rotate6 G D).1) ∧ Bn P B d r lp Dr (some (q, (rotate6 G D).2.2)) (rotate6 G D).2.1 w' ∧ WrB P B w w' := by
 by_cases hs : Hl.state D G = 0
 ·obtain ⟨q1, q2, q3, q4⟩ := hi.ends h8 hs
  exact k.dlog (fun c vs h hB => Jln h hO hB hi.rcok q1 q2)
 ·have e : rotate6 G D = (Hl.state D G, D, G) := if_pos hs
  rw [e, Jb0 hs];exact k.dlog (fun c vs h hB => Jga h hs)
theorem Bn.synP (k : Bn P B d r (some (b, G)) D ld Dr w) :
  Calls Tryz.prog 20 #[.pointer (some ⟨b, 0, none⟩)] w fun e w' => e = .returned (.int .i64 (Hl.sync G D).1) ∧ Bn P B d r (some (b, (Hl.sync G D).2.2)) (Hl.sync G D).2.1 ld Dr w' ∧ WrB P B w w' :=
 k.plog (fun X h1 h2 h3 => Jez h1 h2 h3)
theorem Bn.synD (k : Bn P B d r lp Dr (some (q, G)) D w) (hO : Dk.Ok D) (hi : Inv i G D) :
  Calls Tryz.prog 42 #[.pointer (some ⟨q, 0, none⟩)] w fun e w' => e = .returned (.int .i64 (Hl.sync G D).1) ∧ Bn P B d r lp Dr (some (q, (Hl.sync G D).2.2)) (Hl.sync G D).2.1 w' ∧ WrB P B w w' :=
 k.dlog (fun c vs h hB => Jo3 h hO hi.rcok)
theorem Bn.retP (k : Bn P B d r (some (b, G)) D ld Dr w) (n : Int) (hn : n ≤ 9223372036854775807) :
  Calls Tryz.prog 22 #[.pointer (some ⟨b, 0, none⟩), .int .i64 n] w fun e w' => e = .returned (.int .i64 (retain6 n G D).1) ∧ Bn P B d r (some (b, (retain6 n G D).2.2)) (retain6 n G D).2.1 ld Dr w' ∧ WrB P B w w' :=
 k.plog (fun X h1 h2 h3 => Jdy h1 h2 h3 n hn)
theorem Bn.retD (k : Bn P B d r lp Dr (some (q, G)) D w) (hO : Dk.Ok D) (hi : Inv i G D) (h8 : i ≤ 800) (n : Int) (hn : n ≤ 9223372036854775807) :
  Calls Tryz.prog 44 #[.pointer (some ⟨q, 0, none⟩), .int .i64 n] w fun e w' => e = .returned (.int .i64 (retain6 n G D).1) ∧ Bn P B d r lp Dr (some (q, (retain6 n G D).2.2)) (retain6 n G D).2.1 w' ∧ WrB P B w w' := by
 by_cases hs : Hl.state D G = 0
 ·obtain ⟨q1, q2, q3, q4⟩ := hi.ends h8 hs
  exact k.dlog (fun c vs h hB => Jlp h hO hB n hn q4)
 ·have e : retain6 n G D = (Hl.state D G, D, G) := if_pos hs
  rw [e, Jb0 hs];exact k.dlog (fun c vs h hB => Jgb h n hs)
structure RaP6 (B : Nat) (w : World) (y : Ra6) : Prop where
 kind : 0 ≤ y.kind ∧ y.kind ≤ 255
 fits : y.s.fits
 n : -9223372036854775808 ≤ y.n ∧ y.n ≤ 9223372036854775807
 m : -9223372036854775808 ≤ y.m ∧ y.m ≤ 9223372036854775807
 keep : Dk.KsOk y.keep
 at_ : NsA5 w y.o y.keep
 blk : ∀ a, y.keep ≠ [] → y.o = some a → a.block < B
theorem RaP6.below {y : Ra6} (h : RaP6 B w y) (hb : Below B w w') : RaP6 B w' y := by
 refine ⟨h.kind, h.fits, h.n, h.m, h.keep, fun hn => ?_, h.blk⟩;obtain ⟨g, off, e, hc⟩ := h.at_ hn;exact ⟨g, off, e, fun j hj => (hb.cell (p := ⟨g, off + j, none⟩) (show g < B from h.blk ⟨g, off, none⟩ hn e)).trans (hc j hj)⟩
theorem Bn.failP (k : Bn P B d r lp D ld Dr w) {y : Ra6} (hy : RaP6 B w y) :
  Calls Tryz.prog 29 #[.pointer (some ⟨d, 0, none⟩), .int .i64 y.n, .slice y.o y.keep.length y.k] w fun e w' => e = .returned (.int .i64 (Dk.fail y.n y.keep D).1) ∧ Bn P B d r lp (Dk.fail y.n y.keep D).2 ld Dr w' ∧ WrB P B w w' :=
 k.pdisk (fun X h1 h2 h3 => failX h1 h2 h3 y.n y.keep y.o y.k hy.n.2 hy.keep hy.at_)
theorem Bn.failD (k : Bn P B d r lp Dr ld D w) {y : Ra6} (hy : RaP6 B w y) :
  Calls Tryz.prog 48 #[.pointer (some ⟨r, 0, none⟩), .int .i64 y.n, .slice y.o y.keep.length y.k] w fun e w' => e = .returned (.int .i64 (Dk.fail y.n y.keep D).1) ∧ Bn P B d r lp Dr ld (Dk.fail y.n y.keep D).2 w' ∧ WrB P B w w' :=
 k.ddisk (fun c h1 h2 h3 => rFail5 h1 h3 y.n hy.n.2 y.keep y.o y.k hy.keep hy.at_ (fun a hn e => by have := hy.blk a hn e; omega))
theorem Bn.crashP (k : Bn P B d r lp D ld Dr w) {y : Ra6} (hy : RaP6 B w y) :
  Calls Tryz.prog 27 #[.pointer (some ⟨d, 0, none⟩), .slice y.o y.keep.length y.k] w fun e w' => e = .returned (.int .i64 (Dk.crash y.keep D).1) ∧ Bn P B d r lp (Dk.crash y.keep D).2 ld Dr w' ∧ WrB P B w w' :=
 k.pdisk (fun X h1 h2 h3 => crashX h1 h2 h3 y.keep y.o y.k hy.keep hy.at_ (fun a hn e => .inr (hy.blk a hn e)))
theorem Bn.crashD (k : Bn P B d r lp Dr ld D w) {y : Ra6} (hy : RaP6 B w y) :
  Calls Tryz.prog 46 #[.pointer (some ⟨r, 0, none⟩), .slice y.o y.keep.length y.k] w fun e w' => e = .returned (.int .i64 (Dk.crash y.keep D).1) ∧ Bn P B d r lp Dr ld (Dk.crash y.keep D).2 w' ∧ WrB P B w w' :=
 k.ddisk (fun c h1 h2 h3 => Jp0 h1 y.keep y.o y.k hy.keep hy.at_ (fun a hn e => by
  have hb := hy.blk a hn e;refine ⟨by omega, fun z hz e2 => ?_⟩;have h2' := (h1.fr z.block (.inr (.inl ⟨z, hz, rfl⟩))).1
  rcases h2' with p | p <;> omega))
theorem Bn.startP (k : Bn P B d r lp D ld Dr w) (hs : D.starts ≤ 1000000000) :
  Calls Tryz.prog 31 #[.pointer (some ⟨d, 0, none⟩)] w fun e w' => e = .returned (.int .i64 (Dk.start D).1) ∧ Bn P B d r lp (Dk.start D).2 ld Dr w' ∧ WrB P B w w' :=
 k.pdisk (fun X h1 h2 h3 => startX h1 h2 h3 hs)
theorem Bn.startD (k : Bn P B d r lp Dr ld D w) (hs : D.starts ≤ 1000000000) :
  Calls Tryz.prog 47 #[.pointer (some ⟨r, 0, none⟩)] w fun e w' => e = .returned (.int .i64 (Dk.start D).1) ∧ Bn P B d r lp Dr ld (Dk.start D).2 w' ∧ WrB P B w w' :=
 k.ddisk (fun c h1 h2 h3 => Jpz h1 hs)
def ActB (i B d r x : Nat) (w : World) (e : Ending) (w' : World) : Prop := e = .returned (.bool true) ∧ Below B w w' ∧ Bch (i + 1) B d r x w'
theorem Jne (h : Bn (fun k => k = x) B d r (some (b, G)) D (some (q, G)) D w) (hi : Inv i G D) (h8 : i ≤ 800) (hbx : Bk (bxC d r (.pointer (some ⟨b, 0, none⟩)) (.pointer (some ⟨q, 0, none⟩))) 36 w x) (y : Ra6) (hy : RaP6 B w y) (m : Nat) (hm : y.kind % 13 = (m : Int)) (hk : m = 5 ∨ m = 6) : Calls Tryz.prog 15 #[.pointer (some ⟨x, 0, none⟩), .agg (raA6 y)] w (ActB i B d r x w) := by
 have hbw := (Below.refl w.heap.size w).alloc (Nat.le_refl _) (.cells (raA6 y) 42);have HO := Qh h.dok;have HN := Qh (h.newrow hbw);have HX := Qh (hbx.below hbw);have HR := Qh (hy.below (hbw.mono h.size));have HB := Qh (hbw.mono h.size);have HI := Qh hi;have H8 := Qh h8;obtain ⟨xb, hxb⟩ : ∃ z, z = w.heap.size := ⟨_, rfl⟩
 obtain ⟨w1, hw1⟩ : ∃ z, z = w.alloc (.cells (raA6 y) 42) := ⟨_, rfl⟩
 have HY := Qh (show Bk (raA6 y) 42 w1 xb from by rw [hw1, hxb]; exact Jae _ _ _);have HPQ := Qh (show (fun k => k = x ∨ (w.heap.size ≤ k ∧ k < w1.heap.size)) x ∧ (fun k => k = x ∨ (w.heap.size ≤ k ∧ k < w1.heap.size)) xb ∧ ∀ k, k = x → (fun k => k = x ∨ (w.heap.size ≤ k ∧ k < w1.heap.size)) k from ⟨.inl rfl, .inr ⟨by omega, HY.o.lt⟩, fun k hk => .inl hk⟩);rw [← hw1] at HN HX HR HB;generalize (fun k => k = x ∨ (w.heap.size ≤ k ∧ k < w1.heap.size)) = P at *;obtain ⟨hk0, hk1⟩ := hy.kind;have HI2 := Qh (hi.sync6);clear h hi h8 hbx hy hbw;have hHY := HY.o;unfold raA6 at hw1 hHY ⊢;rcases hk with rfl | rfl
 all_goals
  go_enter Tryz.func15, Tryz.ntmps15;go_upto_region 6 with fail
  rw [← hw1, ← hxb];clear hw1 hHY hxb;replace HN := Qh (HN.o.below (Below.refl _ _).drew);replace HX := Qh HX.o.drew;replace HY := Qh HY.o.drew;replace HB := Qh HB.o.drew;replace HR := Qh (HR.o.below (Below.refl _ _).drew);refine wp_region_held_drew (S := fun V => V.cell? ⟨x, 1, none⟩ = some (.pointer (some ⟨b, 0, none⟩)) ∧ V.cell? ⟨x, 3, none⟩ = some (.pointer (some ⟨q, 0, none⟩))) (by kernel_rfl) ?_ (fun hQ => ?_)
  ·exact ⟨HX.o.cell 1, HX.o.cell 3⟩
  obtain ⟨w1d, hv⟩ : ∃ q, q = World.drew w1 := ⟨_, rfl⟩
  rw [← hv] at HN HX HY HB HR hQ ⊢;clear hv;refine tkH 0 ?_;refine tkH 1 ?_;refine tkH 2 ?_;refine tkH 3 ?_;refine tkH 5 ?_;refine tkH 6 ?_;refine tkH 7 ?_;refine tkH 8 ?_;refine tqH 4 fun K hK => ?_
  go_simp;have CJ := Qh (HN.o.synP);go_simp;go_at_call 20;with_reducible refine (CJ.o).mono ?_
  rintro e v1 ⟨rfl, hn, hw⟩;replace HB := Qh (HB.o.trans (hw.below (fun k hk => hk.1) HN.o.size));replace HR := Qh (HR.o.below (hw.below (fun k hk => hk.1) HN.o.size));replace HX := Qh (HX.o.wr hw (fun z => z.2 HPQ.o.1));replace HY := Qh (HY.o.wr hw (fun z => z.2 HPQ.o.2.1));replace HN := Qh hn;clear hn hw CJ;go_wp2_with fail;refine hK.out _ _ ?_ (fun hQ => ?_)
  ·exact ⟨HX.o.cell 1, HX.o.cell 3⟩
  clear hK K;refine tqH 9 fun K hK => ?_
  go_simp;have CJ := Qh (HN.o.synD HO.o HI.o);go_simp;go_at_call 42;with_reducible refine (CJ.o).mono ?_
  rintro e v2 ⟨rfl, hn, hw⟩;replace HB := Qh (HB.o.trans (hw.below (fun k hk => hk.1) HN.o.size));replace HR := Qh (HR.o.below (hw.below (fun k hk => hk.1) HN.o.size));replace HX := Qh (HX.o.wr hw (fun z => z.2 HPQ.o.1));replace HY := Qh (HY.o.wr hw (fun z => z.2 HPQ.o.2.1));replace HN := Qh hn;clear hn hw CJ;go_wp2_with fail;refine hK.out _ _ ?_ (fun hQ => ?_)
  ·exact ⟨HX.o.cell 1, HX.o.cell 3⟩
  clear hK K;refine tkH 10 ?_;refine tkH 11 ?_;refine wpAnyH_done (by kernel_rfl) ?_ _;have s0 : (((Hl.sync G D).1 : Int) == (Hl.sync G D).1) = true := by simp
  go_wp2_with fail;go_ret;exact ⟨rfl, HB.o, b, q, _, _, HN.o.less HPQ.o.2.2, HI2.o, HX.o⟩
theorem Jka (h : Bn (fun k => k = x) B d r (some (b, G)) D (some (q, G)) D w) (hi : Inv i G D) (h8 : i ≤ 800) (hbx : Bk (bxC d r (.pointer (some ⟨b, 0, none⟩)) (.pointer (some ⟨q, 0, none⟩))) 36 w x) (y : Ra6) (hy : RaP6 B w y) (m : Nat) (hm : y.kind % 13 = (m : Int)) (hk : m = 7) : Calls Tryz.prog 15 #[.pointer (some ⟨x, 0, none⟩), .agg (raA6 y)] w (ActB i B d r x w) := by
 have hbw := (Below.refl w.heap.size w).alloc (Nat.le_refl _) (.cells (raA6 y) 42);have HO := Qh h.dok;have HN := Qh (h.newrow hbw);have HX := Qh (hbx.below hbw);have HR := Qh (hy.below (hbw.mono h.size));have HB := Qh (hbw.mono h.size);have HI := Qh hi;have H8 := Qh h8;obtain ⟨xb, hxb⟩ : ∃ z, z = w.heap.size := ⟨_, rfl⟩
 obtain ⟨w1, hw1⟩ : ∃ z, z = w.alloc (.cells (raA6 y) 42) := ⟨_, rfl⟩
 have HY := Qh (show Bk (raA6 y) 42 w1 xb from by rw [hw1, hxb]; exact Jae _ _ _);have HPQ := Qh (show (fun k => k = x ∨ (w.heap.size ≤ k ∧ k < w1.heap.size)) x ∧ (fun k => k = x ∨ (w.heap.size ≤ k ∧ k < w1.heap.size)) xb ∧ ∀ k, k = x → (fun k => k = x ∨ (w.heap.size ≤ k ∧ k < w1.heap.size)) k from ⟨.inl rfl, .inr ⟨by omega, HY.o.lt⟩, fun k hk => .inl hk⟩);rw [← hw1] at HN HX HR HB;generalize (fun k => k = x ∨ (w.heap.size ≤ k ∧ k < w1.heap.size)) = P at *;obtain ⟨hk0, hk1⟩ := hy.kind;have HI2 := Qh (hi.rotate6 h8);clear h hi h8 hbx hy hbw;have hHY := HY.o;unfold raA6 at hw1 hHY ⊢;subst hk;go_enter Tryz.func15, Tryz.ntmps15;go_upto_region 8 with fail
 rw [← hw1, ← hxb];clear hw1 hHY hxb;replace HN := Qh (HN.o.below (Below.refl _ _).drew);replace HX := Qh HX.o.drew;replace HY := Qh HY.o.drew;replace HB := Qh HB.o.drew;replace HR := Qh (HR.o.below (Below.refl _ _).drew);refine wp_region_held_drew (S := fun V => V.cell? ⟨x, 1, none⟩ = some (.pointer (some ⟨b, 0, none⟩)) ∧ V.cell? ⟨x, 3, none⟩ = some (.pointer (some ⟨q, 0, none⟩))) (by kernel_rfl) ?_ (fun hQ => ?_)
 ·exact ⟨HX.o.cell 1, HX.o.cell 3⟩
 obtain ⟨w1d, hv⟩ : ∃ q, q = World.drew w1 := ⟨_, rfl⟩
 rw [← hv] at HN HX HY HB HR hQ ⊢;clear hv;refine tkH 0 ?_;refine tkH 1 ?_;refine tkH 2 ?_;refine tkH 3 ?_;refine tkH 5 ?_;refine tkH 6 ?_;refine tkH 7 ?_;refine tkH 8 ?_;refine tqH 4 fun K hK => ?_
 go_simp;have CJ := Qh (HN.o.rotP HI.o H8.o);go_simp;go_at_call 21;with_reducible refine (CJ.o).mono ?_
 rintro e v1 ⟨rfl, hn, hw⟩;replace HB := Qh (HB.o.trans (hw.below (fun k hk => hk.1) HN.o.size));replace HR := Qh (HR.o.below (hw.below (fun k hk => hk.1) HN.o.size));replace HX := Qh (HX.o.wr hw (fun z => z.2 HPQ.o.1));replace HY := Qh (HY.o.wr hw (fun z => z.2 HPQ.o.2.1));replace HN := Qh hn;clear hn hw CJ;go_wp2_with fail;refine hK.out _ _ ?_ (fun hQ => ?_)
 ·exact ⟨HX.o.cell 1, HX.o.cell 3⟩
 clear hK K;refine tqH 9 fun K hK => ?_
 go_simp;have CJ := Qh (HN.o.rotD HO.o HI.o H8.o);go_simp;go_at_call 43;with_reducible refine (CJ.o).mono ?_
 rintro e v2 ⟨rfl, hn, hw⟩;replace HB := Qh (HB.o.trans (hw.below (fun k hk => hk.1) HN.o.size));replace HR := Qh (HR.o.below (hw.below (fun k hk => hk.1) HN.o.size));replace HX := Qh (HX.o.wr hw (fun z => z.2 HPQ.o.1));replace HY := Qh (HY.o.wr hw (fun z => z.2 HPQ.o.2.1));replace HN := Qh hn;clear hn hw CJ;go_wp2_with fail;refine hK.out _ _ ?_ (fun hQ => ?_)
 ·exact ⟨HX.o.cell 1, HX.o.cell 3⟩
 clear hK K;refine tkH 10 ?_;refine tkH 11 ?_;refine wpAnyH_done (by kernel_rfl) ?_ _;have s0 : (((rotate6 G D).1 : Int) == (rotate6 G D).1) = true := by simp
 go_wp2_with fail;go_ret;exact ⟨rfl, HB.o, b, q, _, _, HN.o.less HPQ.o.2.2, HI2.o, HX.o⟩
theorem Jkb (h : Bn (fun k => k = x) B d r (some (b, G)) D (some (q, G)) D w) (hi : Inv i G D) (h8 : i ≤ 800) (hbx : Bk (bxC d r (.pointer (some ⟨b, 0, none⟩)) (.pointer (some ⟨q, 0, none⟩))) 36 w x) (y : Ra6) (hy : RaP6 B w y) (m : Nat) (hm : y.kind % 13 = (m : Int)) (hk : m = 8) : Calls Tryz.prog 15 #[.pointer (some ⟨x, 0, none⟩), .agg (raA6 y)] w (ActB i B d r x w) := by
 have hbw := (Below.refl w.heap.size w).alloc (Nat.le_refl _) (.cells (raA6 y) 42);have HO := Qh h.dok;have HN := Qh (h.newrow hbw);have HX := Qh (hbx.below hbw);have HR := Qh (hy.below (hbw.mono h.size));have HB := Qh (hbw.mono h.size);have HI := Qh hi;have H8 := Qh h8;obtain ⟨xb, hxb⟩ : ∃ z, z = w.heap.size := ⟨_, rfl⟩
 obtain ⟨w1, hw1⟩ : ∃ z, z = w.alloc (.cells (raA6 y) 42) := ⟨_, rfl⟩
 have HY := Qh (show Bk (raA6 y) 42 w1 xb from by rw [hw1, hxb]; exact Jae _ _ _);have HPQ := Qh (show (fun k => k = x ∨ (w.heap.size ≤ k ∧ k < w1.heap.size)) x ∧ (fun k => k = x ∨ (w.heap.size ≤ k ∧ k < w1.heap.size)) xb ∧ ∀ k, k = x → (fun k => k = x ∨ (w.heap.size ≤ k ∧ k < w1.heap.size)) k from ⟨.inl rfl, .inr ⟨by omega, HY.o.lt⟩, fun k hk => .inl hk⟩);rw [← hw1] at HN HX HR HB;generalize (fun k => k = x ∨ (w.heap.size ≤ k ∧ k < w1.heap.size)) = P at *;obtain ⟨hk0, hk1⟩ := hy.kind;have HI2 := Qh (hi.retain6 y.n);clear h hi h8 hbx hy hbw;have hHY := HY.o;unfold raA6 at hw1 hHY ⊢;subst hk;go_enter Tryz.func15, Tryz.ntmps15;go_upto_region 10 with fail
 rw [← hw1, ← hxb];clear hw1 hHY hxb;replace HN := Qh (HN.o.below (Below.refl _ _).drew);replace HX := Qh HX.o.drew;replace HY := Qh HY.o.drew;replace HB := Qh HB.o.drew;replace HR := Qh (HR.o.below (Below.refl _ _).drew);refine wp_region_held_drew (S := fun V => V.cell? ⟨x, 1, none⟩ = some (.pointer (some ⟨b, 0, none⟩)) ∧ V.cell? ⟨x, 3, none⟩ = some (.pointer (some ⟨q, 0, none⟩)) ∧ V.cell? ⟨xb, 9, none⟩ = some (.int .i64 y.n)) (by kernel_rfl) ?_ (fun hQ => ?_)
 ·exact ⟨HX.o.cell 1, HX.o.cell 3, HY.o.cell 9⟩
 obtain ⟨w1d, hv⟩ : ∃ q, q = World.drew w1 := ⟨_, rfl⟩
 rw [← hv] at HN HX HY HB HR hQ ⊢;clear hv;refine tkH 0 ?_;refine tkH 1 ?_;refine tkH 2 ?_;refine tkH 3 ?_;refine tkH 4 ?_;refine tkH 5 ?_;refine tkH 7 ?_;refine tkH 8 ?_;refine tkH 9 ?_;refine tkH 10 ?_;refine tkH 11 ?_;refine tkH 12 ?_;refine tqH 6 fun K hK => ?_
 go_simp;have CJ := Qh (HN.o.retP y.n HR.o.n.2);go_simp;go_at_call 22;with_reducible refine (CJ.o).mono ?_
 rintro e v1 ⟨rfl, hn, hw⟩;replace HB := Qh (HB.o.trans (hw.below (fun k hk => hk.1) HN.o.size));replace HR := Qh (HR.o.below (hw.below (fun k hk => hk.1) HN.o.size));replace HX := Qh (HX.o.wr hw (fun z => z.2 HPQ.o.1));replace HY := Qh (HY.o.wr hw (fun z => z.2 HPQ.o.2.1));replace HN := Qh hn;clear hn hw CJ;go_wp2_with fail;refine hK.out _ _ ?_ (fun hQ => ?_)
 ·exact ⟨HX.o.cell 1, HX.o.cell 3, HY.o.cell 9⟩
 clear hK K;refine tqH 13 fun K hK => ?_
 go_simp;have CJ := Qh (HN.o.retD HO.o HI.o H8.o y.n HR.o.n.2);go_simp;go_at_call 44;with_reducible refine (CJ.o).mono ?_
 rintro e v2 ⟨rfl, hn, hw⟩;replace HB := Qh (HB.o.trans (hw.below (fun k hk => hk.1) HN.o.size));replace HR := Qh (HR.o.below (hw.below (fun k hk => hk.1) HN.o.size));replace HX := Qh (HX.o.wr hw (fun z => z.2 HPQ.o.1));replace HY := Qh (HY.o.wr hw (fun z => z.2 HPQ.o.2.1));replace HN := Qh hn;clear hn hw CJ;go_wp2_with fail;refine hK.out _ _ ?_ (fun hQ => ?_)
 ·exact ⟨HX.o.cell 1, HX.o.cell 3, HY.o.cell 9⟩
 clear hK K;refine tkH 14 ?_;refine tkH 15 ?_;refine wpAnyH_done (by kernel_rfl) ?_ _;have s0 : (((retain6 y.n G D).1 : Int) == (retain6 y.n G D).1) = true := by simp
 go_wp2_with fail;go_ret;exact ⟨rfl, HB.o, b, q, _, _, HN.o.less HPQ.o.2.2, HI2.o, HX.o⟩
theorem Jnf (h : Bn (fun k => k = x) B d r (some (b, G)) D (some (q, G)) D w) (hi : Inv i G D) (h8 : i ≤ 800) (hbx : Bk (bxC d r (.pointer (some ⟨b, 0, none⟩)) (.pointer (some ⟨q, 0, none⟩))) 36 w x) (y : Ra6) (hy : RaP6 B w y) (m : Nat) (hm : y.kind % 13 = (m : Int)) (hk : m = 11) : Calls Tryz.prog 15 #[.pointer (some ⟨x, 0, none⟩), .agg (raA6 y)] w (ActB i B d r x w) := by
 have hbw := (Below.refl w.heap.size w).alloc (Nat.le_refl _) (.cells (raA6 y) 42);have HO := Qh h.dok;have HN := Qh (h.newrow hbw);have HX := Qh (hbx.below hbw);have HR := Qh (hy.below (hbw.mono h.size));have HB := Qh (hbw.mono h.size);have HI := Qh hi;have H8 := Qh h8;obtain ⟨xb, hxb⟩ : ∃ z, z = w.heap.size := ⟨_, rfl⟩
 obtain ⟨w1, hw1⟩ : ∃ z, z = w.alloc (.cells (raA6 y) 42) := ⟨_, rfl⟩
 have HY := Qh (show Bk (raA6 y) 42 w1 xb from by rw [hw1, hxb]; exact Jae _ _ _);have HPQ := Qh (show (fun k => k = x ∨ (w.heap.size ≤ k ∧ k < w1.heap.size)) x ∧ (fun k => k = x ∨ (w.heap.size ≤ k ∧ k < w1.heap.size)) xb ∧ ∀ k, k = x → (fun k => k = x ∨ (w.heap.size ≤ k ∧ k < w1.heap.size)) k from ⟨.inl rfl, .inr ⟨by omega, HY.o.lt⟩, fun k hk => .inl hk⟩);rw [← hw1] at HN HX HR HB;generalize (fun k => k = x ∨ (w.heap.size ≤ k ∧ k < w1.heap.size)) = P at *;obtain ⟨hk0, hk1⟩ := hy.kind;have HI2 := Qh (hi.fail6 y.n y.keep);clear h hi h8 hbx hy hbw;have hHY := HY.o;unfold raA6 at hw1 hHY ⊢;subst hk;go_enter Tryz.func15, Tryz.ntmps15;go_upto_region 26 with fail
 rw [← hw1, ← hxb];clear hw1 hHY hxb;replace HN := Qh (HN.o.below (Below.refl _ _).drew);replace HX := Qh HX.o.drew;replace HY := Qh HY.o.drew;replace HB := Qh HB.o.drew;replace HR := Qh (HR.o.below (Below.refl _ _).drew);refine wp_region_held_drew (S := fun V => V.cell? ⟨x, 0, none⟩ = some (.pointer (some ⟨d, 0, none⟩)) ∧ V.cell? ⟨x, 2, none⟩ = some (.pointer (some ⟨r, 0, none⟩)) ∧ V.cell? ⟨xb, 9, none⟩ = some (.int .i64 y.n) ∧ V.cell? ⟨xb, 11, none⟩ = some (.slice y.o y.keep.length y.k)) (by kernel_rfl) ?_ (fun hQ => ?_)
 ·exact ⟨HX.o.cell 0, HX.o.cell 2, HY.o.cell 9, HY.o.cell 11⟩
 obtain ⟨w1d, hv⟩ : ∃ q, q = World.drew w1 := ⟨_, rfl⟩
 rw [← hv] at HN HX HY HB HR hQ ⊢;clear hv;refine tkH 0 ?_;refine tkH 1 ?_;refine tkH 2 ?_;refine tkH 3 ?_;refine tkH 4 ?_;refine tkH 5 ?_;refine tkH 6 ?_;refine tkH 7 ?_;refine tkH 9 ?_;refine tkH 10 ?_;refine tkH 11 ?_;refine tkH 12 ?_;refine tkH 13 ?_;refine tkH 14 ?_;refine tkH 15 ?_;refine tkH 16 ?_;refine tqH 8 fun K hK => ?_
 go_simp;have CJ := Qh (HN.o.failP HR.o);go_simp;go_at_call 29;with_reducible refine (CJ.o).mono ?_
 rintro e v1 ⟨rfl, hn, hw⟩;replace HB := Qh (HB.o.trans (hw.below (fun k hk => hk.1) HN.o.size));replace HR := Qh (HR.o.below (hw.below (fun k hk => hk.1) HN.o.size));replace HX := Qh (HX.o.wr hw (fun z => z.2 HPQ.o.1));replace HY := Qh (HY.o.wr hw (fun z => z.2 HPQ.o.2.1));replace HN := Qh hn;clear hn hw CJ;go_wp2_with fail;refine hK.out _ _ ?_ (fun hQ => ?_)
 ·exact ⟨HX.o.cell 0, HX.o.cell 2, HY.o.cell 9, HY.o.cell 11⟩
 clear hK K;refine tqH 17 fun K hK => ?_
 go_simp;have CJ := Qh (HN.o.failD HR.o);go_simp;go_at_call 48;with_reducible refine (CJ.o).mono ?_
 rintro e v2 ⟨rfl, hn, hw⟩;replace HB := Qh (HB.o.trans (hw.below (fun k hk => hk.1) HN.o.size));replace HR := Qh (HR.o.below (hw.below (fun k hk => hk.1) HN.o.size));replace HX := Qh (HX.o.wr hw (fun z => z.2 HPQ.o.1));replace HY := Qh (HY.o.wr hw (fun z => z.2 HPQ.o.2.1));replace HN := Qh hn;clear hn hw CJ;go_wp2_with fail;refine hK.out _ _ ?_ (fun hQ => ?_)
 ·exact ⟨HX.o.cell 0, HX.o.cell 2, HY.o.cell 9, HY.o.cell 11⟩
 clear hK K;refine tkH 18 ?_;refine tkH 19 ?_;refine wpAnyH_done (by kernel_rfl) ?_ _;have s0 : (((Dk.fail y.n y.keep D).1 : Int) == (Dk.fail y.n y.keep D).1) = true := by simp
 go_wp2_with fail;go_ret;exact ⟨rfl, HB.o, b, q, _, _, HN.o.less HPQ.o.2.2, HI2.o, HX.o⟩
theorem Jkc (h : Bn (fun k => k = x) B d r (some (b, G)) D (some (q, G)) D w) (hi : Inv i G D) (h8 : i ≤ 800) (hbx : Bk (bxC d r (.pointer (some ⟨b, 0, none⟩)) (.pointer (some ⟨q, 0, none⟩))) 36 w x) (y : Ra6) (hy : RaP6 B w y) (m : Nat) (hm : y.kind % 13 = (m : Int)) (hk : m = 0 ∨ m = 1 ∨ m = 2 ∨ m = 3 ∨ m = 4) : Calls Tryz.prog 15 #[.pointer (some ⟨x, 0, none⟩), .agg (raA6 y)] w (ActB i B d r x w) := by
 have hbw := (Below.refl w.heap.size w).alloc (Nat.le_refl _) (.cells (raA6 y) 42);have HO := Qh h.dok;have HN := Qh (h.newrow hbw);have HX := Qh (hbx.below hbw);have HR := Qh (hy.below (hbw.mono h.size));have HB := Qh (hbw.mono h.size);have HI := Qh hi;have H8 := Qh h8;obtain ⟨xb, hxb⟩ : ∃ z, z = w.heap.size := ⟨_, rfl⟩
 obtain ⟨w1, hw1⟩ : ∃ z, z = w.alloc (.cells (raA6 y) 42) := ⟨_, rfl⟩
 have HY := Qh (show Bk (raA6 y) 42 w1 xb from by rw [hw1, hxb]; exact Jae _ _ _);have HPQ := Qh (show (fun k => k = x ∨ (w.heap.size ≤ k ∧ k < w1.heap.size)) x ∧ (fun k => k = x ∨ (w.heap.size ≤ k ∧ k < w1.heap.size)) xb ∧ ∀ k, k = x → (fun k => k = x ∨ (w.heap.size ≤ k ∧ k < w1.heap.size)) k from ⟨.inl rfl, .inr ⟨by omega, HY.o.lt⟩, fun k hk => .inl hk⟩);rw [← hw1] at HN HX HR HB;generalize (fun k => k = x ∨ (w.heap.size ≤ k ∧ k < w1.heap.size)) = P at *;obtain ⟨hk0, hk1⟩ := hy.kind;have HI2 := Qh (hi.append6 hy.fits h8);clear h hi h8 hbx hy hbw;have hHY := HY.o;unfold raA6 at hw1 hHY ⊢;rcases hk with rfl | rfl | rfl | rfl | rfl
 all_goals
  go_enter Tryz.func15, Tryz.ntmps15;go_upto_region 3 with fail
  rw [← hw1, ← hxb];clear hw1 hHY hxb;replace HN := Qh (HN.o.below (Below.refl _ _).drew);replace HX := Qh HX.o.drew;replace HY := Qh HY.o.drew;replace HB := Qh HB.o.drew;replace HR := Qh (HR.o.below (Below.refl _ _).drew);refine wp_region_held_drew (S := fun V => V.cell? ⟨x, 1, none⟩ = some (.pointer (some ⟨b, 0, none⟩)) ∧ V.cell? ⟨x, 3, none⟩ = some (.pointer (some ⟨q, 0, none⟩)) ∧ V.cell? ⟨xb, 1, none⟩ = some (.int .i64 y.s.trace) ∧ V.cell? ⟨xb, 2, none⟩ = some (.int .i64 y.s.id) ∧ V.cell? ⟨xb, 3, none⟩ = some (.int .i64 y.s.parent) ∧ V.cell? ⟨xb, 4, none⟩ = some (.string (S y.s.svc)) ∧ V.cell? ⟨xb, 5, none⟩ = some (.string (S y.s.host)) ∧ V.cell? ⟨xb, 6, none⟩ = some (.int .i64 y.s.start) ∧ V.cell? ⟨xb, 7, none⟩ = some (.int .i64 y.s.dur) ∧ V.cell? ⟨xb, 8, none⟩ = some (.string (S y.s.note))) (by kernel_rfl) ?_ (fun hQ => ?_)
  ·exact ⟨HX.o.cell 1, HX.o.cell 3, HY.o.cell 1, HY.o.cell 2, HY.o.cell 3, HY.o.cell 4, HY.o.cell 5, HY.o.cell 6, HY.o.cell 7, HY.o.cell 8⟩
  obtain ⟨w1d, hv⟩ : ∃ q, q = World.drew w1 := ⟨_, rfl⟩
  rw [← hv] at HN HX HY HB HR hQ ⊢;clear hv;refine tkH 0 ?_;refine tkH 1 ?_;refine tkH 2 ?_;refine tkH 3 ?_;refine tkH 4 ?_;refine tkH 5 ?_;refine tkH 7 ?_;refine tkH 8 ?_;refine tkH 9 ?_;refine tkH 10 ?_;refine tkH 11 ?_;refine tkH 12 ?_;refine tqH 6 fun K hK => ?_
  go_simp;have CJ := HN.o.appP HI.o H8.o y.s HR.o.fits;unfold spA6 at CJ;replace CJ := Qh CJ;go_simp;go_at_call 19;with_reducible refine (CJ.o).mono ?_
  rintro e v1 ⟨rfl, hn, hw⟩;replace HB := Qh (HB.o.trans (hw.below (fun k hk => hk.1) HN.o.size));replace HR := Qh (HR.o.below (hw.below (fun k hk => hk.1) HN.o.size));replace HX := Qh (HX.o.wr hw (fun z => z.2 HPQ.o.1));replace HY := Qh (HY.o.wr hw (fun z => z.2 HPQ.o.2.1));replace HN := Qh hn;clear hn hw CJ;go_wp2_with fail;refine hK.out _ _ ?_ (fun hQ => ?_)
  ·exact ⟨HX.o.cell 1, HX.o.cell 3, HY.o.cell 1, HY.o.cell 2, HY.o.cell 3, HY.o.cell 4, HY.o.cell 5, HY.o.cell 6, HY.o.cell 7, HY.o.cell 8⟩
  clear hK K;refine tqH 13 fun K hK => ?_
  go_simp;have CJ := HN.o.appD HO.o HI.o H8.o y.s HR.o.fits;unfold spA6 at CJ;replace CJ := Qh CJ;go_simp;go_at_call 49;with_reducible refine (CJ.o).mono ?_
  rintro e v2 ⟨rfl, hn, hw⟩;replace HB := Qh (HB.o.trans (hw.below (fun k hk => hk.1) HN.o.size));replace HR := Qh (HR.o.below (hw.below (fun k hk => hk.1) HN.o.size));replace HX := Qh (HX.o.wr hw (fun z => z.2 HPQ.o.1));replace HY := Qh (HY.o.wr hw (fun z => z.2 HPQ.o.2.1));replace HN := Qh hn;clear hn hw CJ;go_wp2_with fail;refine hK.out _ _ ?_ (fun hQ => ?_)
  ·exact ⟨HX.o.cell 1, HX.o.cell 3, HY.o.cell 1, HY.o.cell 2, HY.o.cell 3, HY.o.cell 4, HY.o.cell 5, HY.o.cell 6, HY.o.cell 7, HY.o.cell 8⟩
  clear hK K;refine tkH 14 ?_;refine tkH 15 ?_;refine wpAnyH_done (by kernel_rfl) ?_ _;have s0 : (((append6 y.s G D).1 : Int) == (append6 y.s G D).1) = true := by simp
  go_wp2_with fail;go_ret;exact ⟨rfl, HB.o, b, q, _, _, HN.o.less HPQ.o.2.2, HI2.o, HX.o⟩
end
end Go.Proofs.YtmammmjmipgmoaaGreatDoor
