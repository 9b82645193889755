import Derived.Test.YtmammmjmipgmoaaGreatDoorZI
import Derived.Test.YtmammmjmipgmoaaGreatDoorZQh
set_option linter.unusedVariables false
set_option maxRecDepth 100000
set_option maxHeartbeats 16000000
namespace Go.Proofs.YtmammmjmipgmoaaGreatDoor
section
open Go Go.RowKit Go.Maps
theorem RfIn.newrow {B r : Nat} {c : Rc} {D : Dk.St} {w w2 : World} (h : RfIn B r c D w) (hB : B ≤ w.heap.size) (hb : Below w.heap.size w w2) (a : Option Addr) (ca : Nat) (L' : List Dk.Fl) (v : Value)
  (ho : w2.ownsRow w.heap.size 130 3 (.slice a L'.length ca) L'.length (flsV L')) (hok : Dk.OkL L') (hf : L'.length ≤ 1024) (hz : Dk.size L' ≤ 1048576) :
  OpI B r c v { D with L := L' } w (.returned v) (w2.setCell ⟨r, 4, none⟩ (.slice a L'.length ca)) := by
 have hbx := h.box.below hb;refine ⟨rfl, ⟨a, ca, c.n, c.ka, c.kc, c.ks⟩, ⟨?_, ?_, ?_, h.set, hok, hf, hz⟩, fun b hb' => ?_, (Jad hb).trans (Jai _ _ _ (.inl rfl))⟩
 ·have := hbx.set 4 (.slice a L'.length ca)
  exact this
 ·exact Jaw (Jaq ho hB) (Jao hbx ho (by decide))
 ·have hk := Jaf h.krow hb
  exact Jaw hk (Jao hbx hk (by decide))
 ·rcases hb' with hb' | ⟨x, hx, rfl⟩ | hb'
  ·exact .inl (.inl hb')
  ·have := ho.lt x.block (by rw [show a = some x from hx]; rfl)
   exact .inr this.1
  ·exact .inl (.inr (.inr hb'))
theorem RfIn.cap {B r : Nat} {c : Rc} {D : Dk.St} {w : World} (h : RfIn B r c D w) : D.L.length ≤ c.c ∧ c.c ≤ maxLen := by
 rcases h.row.2 with ⟨e1, e2⟩ | ⟨g, cap', cur, e1, hB, hg, hc, hm, _⟩
 ·injection e1 with q1 q2 q3
  exact ⟨by omega, by rw [q3]; unfold maxLen; omega⟩
 ·injection e1 with q1 q2 q3
  exact ⟨by rw [q3]; exact hc, by rw [q3]; exact hm⟩
theorem RfIn.cellsAt {B r : Nat} {c : Rc} {D : Dk.St} {w : World} (h : RfIn B r c D w) {g : Nat} (hg : c.a = some ⟨g, 0, none⟩) : ∀ j u, (flsV D.L)[j]? = some u → w.cell? ⟨g, j, none⟩ = some u := fun j u hu => by
 have hr := h.row;rw [hg] at hr;have := hr.cells (g := g) rfl j u hu;rw [Addr.add_lit, Nat.zero_add] at this;exact this
theorem Jle {B r : Nat} {c : Rc} {D : Dk.St} {w : World} (h : RfIn B r c D w) (hB : B ≤ w.heap.size) {k : Nat} (hk : k < D.L.length) : Calls Tryz.prog 141 #[.pointer (some ⟨r, 0, none⟩), .int .i64 (k : Int)] w (OpI B r c (.tuple #[]) { D with L := Dk.del (D.L[k]).name D.L } w) := by
 obtain ⟨i0, hi0, hz0, hz1, hz2⟩ := info_parts Jhd;obtain ⟨g, hg, -, -, -⟩ := Ja4 h.row rfl hk;have HROW := Qh (fun W' (hW : Below w.heap.size w W') j u (hu : (flsV D.L)[j]? = some u) => (hW.cell (p := ⟨g, j, none⟩) (Jaz (h.cellsAt hg j u hu))).trans (h.cellsAt hg j u hu));have HBK := Qh h.box;have hcap := h.cap;have hfew := h.few;have hdel := Dk.del_at5 h.ok.ne hk;have HDEL := Qh hdel;have HE0 := Qh (show (D.L.take k).length = k from by rw [List.length_take]; omega);have HLN := Qh (show (D.L.take k ++ D.L.drop (k + 1)).length = k + (D.L.length - (k + 1)) from by rw [List.length_append, HE0.o, List.length_drop]);obtain ⟨nL, hnL⟩ : ∃ x, x = (D.L.take k ++ D.L.drop (k + 1)).length := ⟨_, rfl⟩
 have HNL := Qh hnL
 have HFIN := Qh (fun w2 (hb : Below w.heap.size w w2) a16 c16 (ho : w2.ownsRow w.heap.size 130 3 (.slice a16 nL c16) nL (flsV (D.L.take k ++ D.L.drop (k + 1)))) =>
  (show OpI B r c (.tuple #[]) { D with L := Dk.del (D.L[k]).name D.L } w (.returned (.tuple #[])) (w2.setCell ⟨r, 4, none⟩ (.slice a16 nL c16)) from by
   subst hnL;rw [hdel] at ho ⊢
   exact h.newrow hB hb a16 c16 _ _ ho (h.ok.del _) (by have := h.few; have := Dk.len_del (nm := (D.L[k]).name) h.ok.ne; omega) (by have := h.small; have := Dk.size_del (nm := (D.L[k]).name) h.ok.ne; omega)))
 have x4 : w.cell? ⟨r, 4, none⟩ = some (.slice c.a D.L.length c.c) := h.box.cell 4;rw [hg] at x4;have HBK4 : Hid (Bk #[.int .i64 D.room, .int .i64 D.starts, .bool (!D.up), .bool D.set.isSome, .slice (some ⟨g, 0, none⟩) D.L.length c.c, .int .i64 c.n, .slice c.ka c.ks.length c.kc] 83 w r) := Qh (by rw [← hg]; exact h.box);replace HBK := HBK4;unfold maxLen at hcap;clear h hdel hg HBK4 hnL;have e1 : IntKind.i64.wrap ((k : Int) + 1) = (k : Int) + 1 := IntWalk.i64_in _ (by omega);have e2 : ((k : Int) + 1).toNat = k + 1 := by omega
 have b1 : (0 : Int) ≤ (k : Int) := by omega
 have b2 : (k : Int) ≤ (c.c : Int) := by omega
 have b3 : (0 : Int) ≤ (k : Int) + 1 := by omega
 have b4 : (k : Int) + 1 ≤ (D.L.length : Int) := by omega
 go_enter Tryz.func141, Tryz.ntmps141;have hcase : ¬ c.c = k + 1 ∨ c.c = k + 1 := by omega
 clear x4;rcases hcase with hc | hc
 ·refine Jaj (S := fun V => V.cell? ⟨r, 4, none⟩ = some (.slice (some ⟨g, 0, none⟩) D.L.length c.c)) 19 (by kernel_rfl) ?_ (fun hQ => ?_)
  ·exact (HBK.o.below (Below.refl _ _).drew).cell 4
  have HB := Qh (Below.refl w.heap.size w).drew;obtain ⟨wd, hwd⟩ : ∃ x, x = World.drew w := ⟨_, rfl⟩
  rw [← hwd] at HB hQ ⊢;clear hwd;refine tkY 0 ?_;refine tkY 2 ?_;refine tkY 3 ?_;refine tkY 4 ?_;refine tkZ 5 [7, 8, 16, 17, 18, 19] ?_;refine tkY 6 ?_;refine tkY 7 ?_;refine tkY 9 ?_;refine tkY 10 ?_;refine tkY 11 ?_;refine tkZ 12 [15, 16, 17, 18, 19] ?_;refine tkY 13 ?_;refine tkY 14 ?_;refine tkY 15 ?_;refine tqZ 1 fun K hK => ?_
  go_simp;have HOo := Qh (World.ownsRow_made (base := w.heap.size) (e := 130) (size := 3) wd #[] 0 HB.o.size (by unfold maxLen; omega) rfl);replace HB := Qh (HB.o.alloc HB.o.size (.cells #[] 130));generalize hq1 : wd.heap.size = q1 at *;generalize hw1 : wd.alloc (.cells #[] 130) = w1 at *;clear hq1 hw1;refine hK.out _ _ ?_ (fun hQ => ?_)
  ·exact (HBK.o.below HB.o).cell 4
  clear hK K;refine tqZ 8 fun K hK => ?_
  refine Jag (by rfl) _ _ 81 (by rfl) w.heap.size 130 i0 (.agg #[.string ⟨#[]⟩, .string ⟨#[]⟩, .int .i64 0]) 3 40 Tryz.underlying81 hi0 hz0 hz1 hz2 rfl (by decide) (.slice (some ⟨q1, 0, none⟩) 0 0) 0 [] (by rfl) HOo.o ⟨g, 0, none⟩ k c.c (flsV (D.L.take k)) (by rfl) (by rw [Ja1, HE0.o]) (fun j u hu => by rw [Addr.add_lit, Nat.zero_add]; exact HROW.o _ HB.o j u (Jb7 D.L k (by omega) j u hu)) (Jbq _) (by unfold maxLen; omega) (by omega) HB.o.size ?_;intro v8 w8 ho8 hg8 _;rw [Nat.zero_add, List.nil_append] at ho8;obtain ⟨a8, c8, rfl⟩ := Jac ho8;have HO8 := Qh ho8;replace HB := Qh (HB.o.grown hg8 HB.o.size (fun q hq => (HOo.o.lt q hq).1));clear ho8 hg8 HOo;refine hK.out _ _ ?_ (fun hQ => ?_)
  ·exact (HBK.o.below HB.o).cell 4
  clear hK K;refine tqZ 16 fun K hK => ?_
  refine Jag (by rfl) _ _ 81 (by rfl) w.heap.size 130 i0 (.agg #[.string ⟨#[]⟩, .string ⟨#[]⟩, .int .i64 0]) 3 40 Tryz.underlying81 hi0 hz0 hz1 hz2 rfl (by decide) (.slice a8 k c8) k (flsV (D.L.take k)) (by rfl) HO8.o ⟨g, (k + 1) * 3, none⟩ (D.L.length - (k + 1)) (c.c - (k + 1)) (flsV (D.L.drop (k + 1))) (by rfl) (by rw [Ja1, List.length_drop]) (fun j u hu => by rw [Addr.add_lit]; exact HROW.o _ HB.o _ u (Jiv D.L (k + 1) (by omega) j u hu)) (Jbq _) (by unfold maxLen; omega) (by omega) HB.o.size ?_;intro v16 w16 ho16 hg16 _;replace ho16 : w16.ownsRow w.heap.size 130 3 v16 nL (flsV (D.L.take k ++ D.L.drop (k + 1))) := by rw [Jbz, HNL.o, HLN.o]; exact ho16
  obtain ⟨a16, c16, rfl⟩ := Jac ho16;have HO16 := Qh ho16;replace HB := Qh (HB.o.grown hg16 HB.o.size (fun q hq => (HO8.o.lt q hq).1));clear ho16 hg16 HO8;refine hK.out _ _ ?_ (fun hQ => ?_)
  ·exact (HBK.o.below HB.o).cell 4
  clear hK K;refine tkY 17 ?_;refine tkY 18 ?_;refine tqL 19 fun K hK => ?_
  have f0 := (HBK.o.below HB.o).free 4;have m0 := (HBK.o.below HB.o).cell 4;go_simp;refine hK.out _ _ ?_;clear hK K;refine wpAny_done (by kernel_rfl) ?_ _;go_wp2_with fail;go_end0
  have := HFIN.o _ HB.o a16 c16 HO16.o;exact this
 ·have HDR := Qh (show D.L.drop (k + 1) = [] from List.drop_eq_nil_of_le (by omega))
  rw [hc] at HBK;have hfull : D.L.length = k + 1 := by omega
  have b5 : (k : Int) ≤ (k : Int) + 1 := by omega
  refine Jaj (S := fun V => V.cell? ⟨r, 4, none⟩ = some (.slice (some ⟨g, 0, none⟩) D.L.length (k + 1))) 19 (by kernel_rfl) ?_ (fun hQ => ?_)
  ·exact (HBK.o.below (Below.refl _ _).drew).cell 4
  have HB := Qh (Below.refl w.heap.size w).drew;obtain ⟨wd, hwd⟩ : ∃ x, x = World.drew w := ⟨_, rfl⟩
  rw [← hwd] at HB hQ ⊢;clear hwd;refine tkY 0 ?_;refine tkY 2 ?_;refine tkY 3 ?_;refine tkY 4 ?_;refine tkZ 5 [7, 8, 16, 17, 18, 19] ?_;refine tkY 6 ?_;refine tkY 7 ?_;refine tkY 9 ?_;refine tkY 10 ?_;refine tkY 11 ?_;refine tkZ 12 [15, 16, 17, 18, 19] ?_;refine tkY 13 ?_;refine tkY 14 ?_;refine tkY 15 ?_;refine tqZ 1 fun K hK => ?_
  go_simp;have HOo := Qh (World.ownsRow_made (base := w.heap.size) (e := 130) (size := 3) wd #[] 0 HB.o.size (by unfold maxLen; omega) rfl);replace HB := Qh (HB.o.alloc HB.o.size (.cells #[] 130));generalize hq1 : wd.heap.size = q1 at *;generalize hw1 : wd.alloc (.cells #[] 130) = w1 at *;clear hq1 hw1;refine hK.out _ _ ?_ (fun hQ => ?_)
  ·exact (HBK.o.below HB.o).cell 4
  clear hK K;refine tqZ 8 fun K hK => ?_
  refine Jag (by rfl) _ _ 81 (by rfl) w.heap.size 130 i0 (.agg #[.string ⟨#[]⟩, .string ⟨#[]⟩, .int .i64 0]) 3 40 Tryz.underlying81 hi0 hz0 hz1 hz2 rfl (by decide) (.slice (some ⟨q1, 0, none⟩) 0 0) 0 [] (by rfl) HOo.o ⟨g, 0, none⟩ k (k + 1) (flsV (D.L.take k)) (by rfl) (by rw [Ja1, HE0.o]) (fun j u hu => by rw [Addr.add_lit, Nat.zero_add]; exact HROW.o _ HB.o j u (Jb7 D.L k (by omega) j u hu)) (Jbq _) (by unfold maxLen; omega) (by omega) HB.o.size ?_;intro v8 w8 ho8 hg8 _;rw [Nat.zero_add, List.nil_append] at ho8;obtain ⟨a8, c8, rfl⟩ := Jac ho8;have HO8 := Qh ho8;replace HB := Qh (HB.o.grown hg8 HB.o.size (fun q hq => (HOo.o.lt q hq).1));clear ho8 hg8 HOo;refine hK.out _ _ ?_ (fun hQ => ?_)
  ·exact (HBK.o.below HB.o).cell 4
  clear hK K;refine tqZ 16 fun K hK => ?_
  refine Jag (by rfl) _ _ 81 (by rfl) w.heap.size 130 i0 (.agg #[.string ⟨#[]⟩, .string ⟨#[]⟩, .int .i64 0]) 3 40 Tryz.underlying81 hi0 hz0 hz1 hz2 rfl (by decide) (.slice a8 k c8) k (flsV (D.L.take k)) (by rfl) HO8.o ⟨g, 0, none⟩ 0 0 [] (by rfl) rfl (fun j u hu => by simp at hu) (fun u hu => by simp at hu) (by unfold maxLen; omega) (by omega) HB.o.size ?_;intro v16 w16 ho16 hg16 _;replace ho16 : w16.ownsRow w.heap.size 130 3 v16 nL (flsV (D.L.take k ++ D.L.drop (k + 1))) := by rw [HDR.o, List.append_nil]; rw [List.append_nil] at ho16; rw [show nL = k from by have := HNL.o; have := HLN.o; omega]; exact ho16
  obtain ⟨a16, c16, rfl⟩ := Jac ho16;have HO16 := Qh ho16;replace HB := Qh (HB.o.grown hg16 HB.o.size (fun q hq => (HO8.o.lt q hq).1));clear ho16 hg16 HO8;refine hK.out _ _ ?_ (fun hQ => ?_)
  ·exact (HBK.o.below HB.o).cell 4
  clear hK K;refine tkY 17 ?_;refine tkY 18 ?_;refine tqL 19 fun K hK => ?_
  have f0 := (HBK.o.below HB.o).free 4;have m0 := (HBK.o.below HB.o).cell 4;go_simp;refine hK.out _ _ ?_;clear hK K;refine wpAny_done (by kernel_rfl) ?_ _;go_wp2_with fail;go_end0
  have := HFIN.o _ HB.o a16 c16 HO16.o;exact this
end
section
open Go Go.RowKit Go.Maps
theorem Jlf {B r : Nat} {c : Rc} {D : Dk.St} {w : World} (h : RfIn B r c D w) (hB : B ≤ w.heap.size) (f : Dk.Fl) (hno : Dk.has f.name D.L = false) (hnm : Dk.named f.name = true) (hs : f.safe ≤ f.dat.length) (hlen : D.L.length < 1024) (hz : Dk.size D.L + f.dat.length ≤ 1048576) :
  Calls Tryz.prog 148 #[.pointer (some ⟨r, 0, none⟩), .agg #[.string (S f.name), .string (S f.dat), .int .i64 f.safe]] w (OpI B r c (.tuple #[]) { D with L := Dk.ins f D.L } w) := by
 obtain ⟨i0, hi0, hz0, hz1, hz2⟩ := info_parts Jhd;have hcap := h.cap
 have HLESS := Qh (show ∀ j (hj : j < D.L.length), Op.bytesLess (D.L[j]).name f.name = false → Op.bytesLess f.name (D.L[j]).name = true from fun j hj hl => by
  have hne : (D.L[j]).name ≠ f.name := fun e => by
   have : Dk.has f.name D.L = true := Dk.has_iff.2 ⟨_, List.getElem_mem hj, e⟩;rw [hno] at this;cases this
  rw [Dk.less_flip5 _ _ hne, hl]
  rfl)
 obtain ⟨fb, hfb⟩ : ∃ x, x = w.heap.size := ⟨_, rfl⟩
 obtain ⟨W1, hW1⟩ : ∃ x, x = w.alloc (.cells #[.string (S f.name), .string (S f.dat), .int .i64 f.safe] 130) := ⟨_, rfl⟩
 have hb1 : Below w.heap.size w W1 := by rw [hW1]; exact Qa _
 have HFB := Qh (show Bk #[.string (S f.name), .string (S f.dat), .int .i64 f.safe] 130 W1 fb from by rw [hW1, hfb]; exact Jae _ _ _)
 have HFINS := Qh (fun k (hk : k ≤ D.L.length) (h1 : ∀ j (hj : j < k), Op.bytesLess (D.L[j]'(by omega)).name f.name = true) (h2 : ∀ hk : k < D.L.length, Op.bytesLess (D.L[k]).name f.name = false) w2 (hb : Below W1.heap.size W1 w2) a18 c18 nL (hnL : nL = D.L.length + 1) (ho : w2.ownsRow W1.heap.size 130 3 (.slice a18 nL c18) nL (flsV (D.L.take k ++ f :: D.L.drop k))) =>
  (show OpI B r c (.tuple #[]) { D with L := Dk.ins f D.L } w (.returned (.tuple #[])) (w2.setCell ⟨r, 4, none⟩ (.slice a18 nL c18)) from by
   have e1 := Dk.ins_at5 f D.L k hk h1 (fun hk2 => HLESS.o k hk2 (h2 hk2));rw [← e1] at ho;have e2 : nL = (Dk.ins f D.L).length := by rw [hnL, Dk.len_ins]
   rw [e2] at ho ⊢;refine h.newrow hB (Jaa hb1 hb) a18 c18 _ _ (Jaq ho hb1.size) ?_ (by rw [Dk.len_ins]; omega) (by rw [Dk.size_ins]; omega);have e3 := h.ok.put (f := f) hnm hs;unfold Dk.put at e3;rw [Dk.del_none hno] at e3
   exact e3))
 have hr1 := h.row
 have HCA := Qh (show (c.a = none ∧ c.c = 0 ∧ D.L.length = 0) ∨ ∃ g, c.a = some ⟨g, 0, none⟩ from by
  rcases hr1.2 with ⟨e1, e2⟩ | ⟨g, cap', cur, e1, _⟩
  ·injection e1 with q1 q2 q3; exact .inl ⟨q1, q3, q2⟩
  ·injection e1 with q1 q2 q3; exact .inr ⟨g, q1⟩)
 have HROWG := Qh (fun g (hg : c.a = some ⟨g, 0, none⟩) W' (hW : Below W1.heap.size W1 W') j u (hu : (flsV D.L)[j]? = some u) => ((Jaa hb1 hW).cell (p := ⟨g, j, none⟩) (Jaz (h.cellsAt hg j u hu))).trans (h.cellsAt hg j u hu));have HBK0 := Qh (show Bk #[.int .i64 D.room, .int .i64 D.starts, .bool (!D.up), .bool D.set.isSome, .slice c.a D.L.length c.c, .int .i64 c.n, .slice c.ka c.ks.length c.kc] 83 W1 r from h.box.below hb1);have HROW0 := Qh (Jaf h.row hb1);unfold maxLen at hcap;clear h hr1 hb1 hno hnm hs hz;go_enter Tryz.func148, Tryz.ntmps148;go_upto_region 1 with fail
 rw [← hW1, ← hfb];clear hW1 hfb;go_wp2_with fail;go_loopw [4] (fun v wr => ∃ k : Nat, k ≤ D.L.length ∧ v = .int .i64 k ∧ Hid (∀ j (hj : j < k) (hj2 : j < D.L.length), Op.bytesLess (D.L[j]).name f.name = true) ∧ Hid (Below W1.heap.size W1 wr)) (fun v _ => D.L.length - (intOf v).toNat)
 case atStart => exact ⟨0, Nat.zero_le _, rfl, Qh (fun j hj => by omega), Qh (Below.refl _ _)⟩
 case round =>
  obtain ⟨wz, rfl⟩ : ∃ x, x = wr := ⟨_, rfl⟩
  obtain ⟨k, hk, rfl, HJ, HB⟩ := hrel;have x4 : wz.cell? ⟨r, 4, none⟩ = some (.slice c.a D.L.length c.c) := (HBK0.o.below HB.o).cell 4;have y0 : wz.cell? ⟨fb, 0, none⟩ = some (.string (S f.name)) := (HFB.o.below HB.o).cell 0;have HE0 := Qh (show (D.L.take k).length = k from by rw [List.length_take]; omega);obtain ⟨nL, hnL⟩ : ∃ x, x = D.L.length + 1 := ⟨_, rfl⟩
  have HNL := Qh hnL;have b1 : (0 : Int) ≤ (k : Int) := by omega
  have b2 : (k : Int) ≤ (c.c : Int) := by omega
  have b4 : (k : Int) ≤ (D.L.length : Int) := by omega
  by_cases hlt : k < D.L.length
  focus
   have d1 : decide ((k : Int) < (D.L.length : Int)) = true := by simp; omega
   have d1' : decide (k < D.L.length) = true := by simp; omega
   obtain ⟨g, hg, z0, -, -⟩ := Ja4 (Jaf HROW0.o HB.o) rfl hlt;have b3 : (k : Int) < (D.L.length : Int) := by omega
   rw [hg] at x4;cases hl : Op.bytesLess (D.L[k]).name f.name
   rotate_left
   ·have HN := Qh (show ∀ j (hj : j < k + 1) (hj2 : j < D.L.length), Op.bytesLess (D.L[j]).name f.name = true from fun j hj hj2 => by
     by_cases e : j = k
     ·subst e; exact hl
     ·exact HJ.o j (by omega) hj2)
    generalize (D.L[k]).name = u at z0 hl;go_wp2_with fail;go_quiet (fail)
    go_wp2_with fail;go_roundw
    case rel => exact ⟨k + 1, by omega, by go_num, HN, Qh (below_drewN HB.o _)⟩
    case measure => simp [intOf]; omega
   have HFIN := Qh (fun w2 (hb : Below W1.heap.size W1 w2) a18 c18 ho => HFINS.o k hk (fun j hj => HJ.o j hj (by omega)) (fun _ => hl) w2 hb a18 c18 nL hnL ho);have HROW := Qh (fun W' hW j u hu => HROWG.o g hg W' hW j u hu);have HBK := HBK0;rw [hg] at HBK;generalize (D.L[k]).name = u at z0 hl;clear hnL;go_wp2_with fail;go_quiet (fail)
   replace HB := Qh (below_drewN HB.o nq);generalize wz.drewN nq = wz at *;clear x4 y0 z0 d1 d1' hl;have hc : ¬ c.c = k := by omega
  rotate_left
  focus
   have d1 : decide ((k : Int) < (D.L.length : Int)) = false := by simp; omega
   have d1' : decide (k < D.L.length) = false := by simp; omega
   have HFIN := Qh (fun w2 (hb : Below W1.heap.size W1 w2) a18 c18 ho => HFINS.o k hk (fun j hj => HJ.o j hj (by omega)) (fun h => absurd h hlt) w2 hb a18 c18 nL hnL ho);have HDR := Qh (show D.L.drop k = [] from List.drop_eq_nil_of_le (by omega));clear hnL;go_wp2_with fail;go_quiet (fail)
   replace HB := Qh (below_drewN HB.o nq);generalize wz.drewN nq = wz at *;clear x4 y0 d1 d1';rcases HCA.o with ⟨ha, hc0, hl0⟩ | ⟨g, hg⟩
   focus
    have hk0 : k = 0 := by omega
    have HBK := HBK0;rw [ha, hc0, hl0] at HBK
   rotate_left
   focus
    have HROW := Qh (fun W' hW j u hu => HROWG.o g hg W' hW j u hu);have HBK := HBK0;rw [hg] at HBK;have hcase : ¬ c.c = k ∨ c.c = k := by omega
    rcases hcase with hc | hc
    rotate_left
    focus
     rw [hc] at HBK;have hfull : D.L.length = k := by omega
     have b5 : (k : Int) ≤ (k : Int) := by omega
  all_goals
   go_upto_region 4 with fail
   first
    | (refine Jaj (S := fun V => V.cell? ⟨r, 4, none⟩ = some (.slice (some ⟨g, 0, none⟩) D.L.length c.c) ∧ V.cell? ⟨fb, 0, none⟩ = some (.string (S f.name)) ∧ V.cell? ⟨fb, 1, none⟩ = some (.string (S f.dat)) ∧ V.cell? ⟨fb, 2, none⟩ = some (.int .i64 f.safe)) 21 (by kernel_rfl) ⟨(HBK.o.below HB.o.drew).cell 4, (HFB.o.below HB.o.drew).cell 0, (HFB.o.below HB.o.drew).cell 1, (HFB.o.below HB.o.drew).cell 2⟩ (fun hQ => ?_))
    | (refine Jaj (S := fun V => V.cell? ⟨r, 4, none⟩ = some (.slice (some ⟨g, 0, none⟩) D.L.length k) ∧ V.cell? ⟨fb, 0, none⟩ = some (.string (S f.name)) ∧ V.cell? ⟨fb, 1, none⟩ = some (.string (S f.dat)) ∧ V.cell? ⟨fb, 2, none⟩ = some (.int .i64 f.safe)) 21 (by kernel_rfl) ⟨(HBK.o.below HB.o.drew).cell 4, (HFB.o.below HB.o.drew).cell 0, (HFB.o.below HB.o.drew).cell 1, (HFB.o.below HB.o.drew).cell 2⟩ (fun hQ => ?_))
    | (refine Jaj (S := fun V => V.cell? ⟨r, 4, none⟩ = some (.slice none 0 0) ∧ V.cell? ⟨fb, 0, none⟩ = some (.string (S f.name)) ∧ V.cell? ⟨fb, 1, none⟩ = some (.string (S f.dat)) ∧ V.cell? ⟨fb, 2, none⟩ = some (.int .i64 f.safe)) 21 (by kernel_rfl) ⟨(HBK.o.below HB.o.drew).cell 4, (HFB.o.below HB.o.drew).cell 0, (HFB.o.below HB.o.drew).cell 1, (HFB.o.below HB.o.drew).cell 2⟩ (fun hQ => ?_))
   replace HB := Qh HB.o.drew;obtain ⟨wd, hwd⟩ : ∃ x, x = World.drew wz := ⟨_, rfl⟩
   rw [← hwd] at HB hQ ⊢;clear hwd;refine tkY 0 ?_;refine tkY 2 ?_;refine tkY 3 ?_;refine tkY 4 ?_;refine tkZ 5 [7, 8, 11, 18, 19, 20, 21] ?_;refine tkY 6 ?_;refine tkY 7 ?_;refine tkZ 9 [10, 11, 18, 19, 20, 21] ?_;refine tkY 12 ?_;refine tkY 13 ?_;refine tkY 14 ?_;refine tkZ 15 [17, 18, 19, 20, 21] ?_;refine tkY 16 ?_;refine tkY 17 ?_;refine Jco (rs := [1, 10]) (by kernel_rfl) (by simp) ?_;refine AllReadyZ.cons (o := ⟨_, _, _, _, _, _⟩) rfl (by rfl) (fun K hK => ?_) (AllReadyZ.cons (o := ⟨_, _, _, _, _, _⟩) rfl (by rfl) (fun K hK => ?_) (AllReadyZ.nil))
   focus
    go_simp;have HOo := Qh (World.ownsRow_made (base := W1.heap.size) (e := 130) (size := 3) wd #[] 0 HB.o.size (by unfold maxLen; omega) rfl);replace HB := Qh (HB.o.alloc HB.o.size (.cells #[] 130));generalize hq1 : wd.heap.size = q1 at *;generalize hw1 : wd.alloc (.cells #[] 130) = w1 at *;clear hq1 hw1;refine hK.out _ _ ?_ (fun hQ => ?_)
    ·exact ⟨(HBK.o.below HB.o).cell 4, (HFB.o.below HB.o).cell 0, (HFB.o.below HB.o).cell 1, (HFB.o.below HB.o).cell 2⟩
    clear hK K;refine Jco (rs := [8, 10]) (by kernel_rfl) (by simp) ?_;refine AllReadyZ.cons (o := ⟨_, _, _, _, _, _⟩) rfl (by rfl) (fun K hK => ?_) (AllReadyZ.cons (o := ⟨_, _, _, _, _, _⟩) rfl (by rfl) (fun K hK => ?_) (AllReadyZ.nil))
    focus
     first
      | (refine Jag (by rfl) _ _ 81 (by rfl) W1.heap.size 130 i0 (.agg #[.string ⟨#[]⟩, .string ⟨#[]⟩, .int .i64 0]) 3 40 Tryz.underlying81 hi0 hz0 hz1 hz2 rfl (by decide) (.slice (some ⟨q1, 0, none⟩) 0 0) 0 [] (by rfl) HOo.o ⟨g, 0, none⟩ k c.c (flsV (D.L.take k)) (by rfl) (by rw [Ja1, HE0.o]) (fun j u hu => by rw [Addr.add_lit, Nat.zero_add]; exact HROW.o _ HB.o j u (Jb7 D.L k (by omega) j u hu)) (Jbq _) (by unfold maxLen; omega) (by omega) HB.o.size ?_); (intro v8 w8 ho8 hg8 hat8); (rw [Nat.zero_add, List.nil_append] at ho8); (obtain ⟨a8, c8, rfl⟩ := Jac ho8); (have HO8 := Qh ho8); (replace HB := Qh (HB.o.grown hg8 HB.o.size (fun q hq => (HOo.o.lt q hq).1))); (clear ho8 hg8 hat8 HOo)
      | (refine Jag (by rfl) _ _ 81 (by rfl) W1.heap.size 130 i0 (.agg #[.string ⟨#[]⟩, .string ⟨#[]⟩, .int .i64 0]) 3 40 Tryz.underlying81 hi0 hz0 hz1 hz2 rfl (by decide) (.slice (some ⟨q1, 0, none⟩) 0 0) 0 [] (by rfl) HOo.o ⟨g, 0, none⟩ k k (flsV (D.L.take k)) (by rfl) (by rw [Ja1, HE0.o]) (fun j u hu => by rw [Addr.add_lit, Nat.zero_add]; exact HROW.o _ HB.o j u (Jb7 D.L k (by omega) j u hu)) (Jbq _) (by unfold maxLen; omega) (by omega) HB.o.size ?_); (intro v8 w8 ho8 hg8 hat8); (rw [Nat.zero_add, List.nil_append] at ho8); (obtain ⟨a8, c8, rfl⟩ := Jac ho8); (have HO8 := Qh ho8); (replace HB := Qh (HB.o.grown hg8 HB.o.size (fun q hq => (HOo.o.lt q hq).1))); (clear ho8 hg8 hat8 HOo)
      | (refine Jau (by rfl) _ _ 81 (by rfl) W1.heap.size 130 i0 3 Tryz.underlying81 hi0 (.slice (some ⟨q1, 0, none⟩) 0 0) 0 [] (by rfl) HOo.o 0 (by rfl) ?_); (obtain ⟨w8, hw8⟩ : ∃ x, x = w1 := ⟨_, rfl⟩); (rw [← hw8] at HOo HB ⊢); (clear hw8); (have HO8 := Qh (show w8.ownsRow W1.heap.size 130 3 (.slice (some ⟨q1, 0, none⟩) 0 0) 0 (flsV (D.L.take k)) from by rw [hk0]; exact HOo.o)); (clear HOo)
     refine hK.out _ _ ?_ (fun hQ => ?_)
     ·exact ⟨(HBK.o.below HB.o).cell 4, (HFB.o.below HB.o).cell 0, (HFB.o.below HB.o).cell 1, (HFB.o.below HB.o).cell 2⟩
     clear hK K;refine tqZ 10 fun K hK => ?_
     first
      | (go_simp); (have HNE := Qh (show ∀ q, (Value.slice a8 k c8).ownBlock = some q → q ≠ w8.heap.size from fun q hq e => by have := (HO8.o.lt q hq).2; omega)); (replace HO8 := Qh (HO8.o.alloc (.cells #[.string (S f.name), .string (S f.dat), .int .i64 f.safe] 130))); (have HY := Qh (show Bk #[.string (S f.name), .string (S f.dat), .int .i64 f.safe] 130 (w8.alloc (.cells #[.string (S f.name), .string (S f.dat), .int .i64 f.safe] 130)) w8.heap.size from Jae _ _ _)); (replace HB := Qh (HB.o.alloc HB.o.size (.cells #[.string (S f.name), .string (S f.dat), .int .i64 f.safe] 130))); (generalize hq10 : w8.heap.size = q10 at *); (generalize hw10 : w8.alloc (.cells #[.string (S f.name), .string (S f.dat), .int .i64 f.safe] 130) = w10 at *); (clear hq10 hw10)
      | (go_simp); (have HNE := Qh (show ∀ q, (Value.slice (some ⟨q1, 0, none⟩) 0 0).ownBlock = some q → q ≠ w8.heap.size from fun q hq e => by have := (HO8.o.lt q hq).2; omega)); (replace HO8 := Qh (HO8.o.alloc (.cells #[.string (S f.name), .string (S f.dat), .int .i64 f.safe] 130))); (have HY := Qh (show Bk #[.string (S f.name), .string (S f.dat), .int .i64 f.safe] 130 (w8.alloc (.cells #[.string (S f.name), .string (S f.dat), .int .i64 f.safe] 130)) w8.heap.size from Jae _ _ _)); (replace HB := Qh (HB.o.alloc HB.o.size (.cells #[.string (S f.name), .string (S f.dat), .int .i64 f.safe] 130))); (generalize hq10 : w8.heap.size = q10 at *); (generalize hw10 : w8.alloc (.cells #[.string (S f.name), .string (S f.dat), .int .i64 f.safe] 130) = w10 at *); (clear hq10 hw10)
     refine hK.out _ _ ?_ (fun hQ => ?_)
     ·exact ⟨(HBK.o.below HB.o).cell 4, (HFB.o.below HB.o).cell 0, (HFB.o.below HB.o).cell 1, (HFB.o.below HB.o).cell 2⟩
     clear hK K;generalize w10 = wv at *
    rotate_left
    focus
     go_simp;have HNE := Qh (show q1 ≠ w1.heap.size from fun e => by have := (HOo.o.lt q1 rfl).2; omega);replace HOo := Qh (HOo.o.alloc (.cells #[.string (S f.name), .string (S f.dat), .int .i64 f.safe] 130));have HY := Qh (show Bk #[.string (S f.name), .string (S f.dat), .int .i64 f.safe] 130 (w1.alloc (.cells #[.string (S f.name), .string (S f.dat), .int .i64 f.safe] 130)) w1.heap.size from Jae _ _ _);replace HB := Qh (HB.o.alloc HB.o.size (.cells #[.string (S f.name), .string (S f.dat), .int .i64 f.safe] 130));generalize hq10 : w1.heap.size = q10 at *;generalize hw10 : w1.alloc (.cells #[.string (S f.name), .string (S f.dat), .int .i64 f.safe] 130) = w10 at *;clear hq10 hw10;refine hK.out _ _ ?_ (fun hQ => ?_)
     ·exact ⟨(HBK.o.below HB.o).cell 4, (HFB.o.below HB.o).cell 0, (HFB.o.below HB.o).cell 1, (HFB.o.below HB.o).cell 2⟩
     clear hK K;refine tqZ 8 fun K hK => ?_
     first
      | (refine Jag (by rfl) _ _ 81 (by rfl) W1.heap.size 130 i0 (.agg #[.string ⟨#[]⟩, .string ⟨#[]⟩, .int .i64 0]) 3 40 Tryz.underlying81 hi0 hz0 hz1 hz2 rfl (by decide) (.slice (some ⟨q1, 0, none⟩) 0 0) 0 [] (by rfl) HOo.o ⟨g, 0, none⟩ k c.c (flsV (D.L.take k)) (by rfl) (by rw [Ja1, HE0.o]) (fun j u hu => by rw [Addr.add_lit, Nat.zero_add]; exact HROW.o _ HB.o j u (Jb7 D.L k (by omega) j u hu)) (Jbq _) (by unfold maxLen; omega) (by omega) HB.o.size ?_); (intro v8 w8 ho8 hg8 hat8); (rw [Nat.zero_add, List.nil_append] at ho8); (obtain ⟨a8, c8, rfl⟩ := Jac ho8); (have HO8 := Qh ho8); (replace HB := Qh (HB.o.grown hg8 HB.o.size (fun q hq => (HOo.o.lt q hq).1))); (have HYL := Qh (show q10 < w10.heap.size from HY.o.lt)); (replace HY := Qh (HY.o.grown hg8 (fun e => HNE.o (by cases e; rfl)))); (replace HNE := Qh (show ∀ q, (Value.slice a8 k c8).ownBlock = some q → q ≠ q10 from fun q hq e => by rcases hat8 with h | h; exact HNE.o (by rw [hq] at h; cases h; exact e); rw [hq] at h; cases h; have := HYL.o; omega)); (clear HYL); (clear ho8 hg8 hat8 HOo)
      | (refine Jag (by rfl) _ _ 81 (by rfl) W1.heap.size 130 i0 (.agg #[.string ⟨#[]⟩, .string ⟨#[]⟩, .int .i64 0]) 3 40 Tryz.underlying81 hi0 hz0 hz1 hz2 rfl (by decide) (.slice (some ⟨q1, 0, none⟩) 0 0) 0 [] (by rfl) HOo.o ⟨g, 0, none⟩ k k (flsV (D.L.take k)) (by rfl) (by rw [Ja1, HE0.o]) (fun j u hu => by rw [Addr.add_lit, Nat.zero_add]; exact HROW.o _ HB.o j u (Jb7 D.L k (by omega) j u hu)) (Jbq _) (by unfold maxLen; omega) (by omega) HB.o.size ?_); (intro v8 w8 ho8 hg8 hat8); (rw [Nat.zero_add, List.nil_append] at ho8); (obtain ⟨a8, c8, rfl⟩ := Jac ho8); (have HO8 := Qh ho8); (replace HB := Qh (HB.o.grown hg8 HB.o.size (fun q hq => (HOo.o.lt q hq).1))); (have HYL := Qh (show q10 < w10.heap.size from HY.o.lt)); (replace HY := Qh (HY.o.grown hg8 (fun e => HNE.o (by cases e; rfl)))); (replace HNE := Qh (show ∀ q, (Value.slice a8 k c8).ownBlock = some q → q ≠ q10 from fun q hq e => by rcases hat8 with h | h; exact HNE.o (by rw [hq] at h; cases h; exact e); rw [hq] at h; cases h; have := HYL.o; omega)); (clear HYL); (clear ho8 hg8 hat8 HOo)
      | (refine Jau (by rfl) _ _ 81 (by rfl) W1.heap.size 130 i0 3 Tryz.underlying81 hi0 (.slice (some ⟨q1, 0, none⟩) 0 0) 0 [] (by rfl) HOo.o 0 (by rfl) ?_); (obtain ⟨w8, hw8⟩ : ∃ x, x = w10 := ⟨_, rfl⟩); (rw [← hw8] at HOo HB HY ⊢); (clear hw8); (have HO8 := Qh (show w8.ownsRow W1.heap.size 130 3 (.slice (some ⟨q1, 0, none⟩) 0 0) 0 (flsV (D.L.take k)) from by rw [hk0]; exact HOo.o)); (replace HNE := Qh (show ∀ q, (Value.slice (some ⟨q1, 0, none⟩) 0 0).ownBlock = some q → q ≠ q10 from fun q hq e => by cases hq; exact HNE.o e)); (clear HOo)
     refine hK.out _ _ ?_ (fun hQ => ?_)
     ·exact ⟨(HBK.o.below HB.o).cell 4, (HFB.o.below HB.o).cell 0, (HFB.o.below HB.o).cell 1, (HFB.o.below HB.o).cell 2⟩
     clear hK K;generalize w8 = wv at *
    rotate_left
   rotate_left 2
   focus
    go_simp;have HY := Qh (show Bk #[.string (S f.name), .string (S f.dat), .int .i64 f.safe] 130 (wd.alloc (.cells #[.string (S f.name), .string (S f.dat), .int .i64 f.safe] 130)) wd.heap.size from Jae _ _ _);replace HB := Qh (HB.o.alloc HB.o.size (.cells #[.string (S f.name), .string (S f.dat), .int .i64 f.safe] 130));generalize hq10 : wd.heap.size = q10 at *;generalize hw10 : wd.alloc (.cells #[.string (S f.name), .string (S f.dat), .int .i64 f.safe] 130) = w10 at *;clear hq10 hw10;refine hK.out _ _ ?_ (fun hQ => ?_)
    ·exact ⟨(HBK.o.below HB.o).cell 4, (HFB.o.below HB.o).cell 0, (HFB.o.below HB.o).cell 1, (HFB.o.below HB.o).cell 2⟩
    clear hK K;refine tqZ 1 fun K hK => ?_
    go_simp;have HOo := Qh (World.ownsRow_made (base := W1.heap.size) (e := 130) (size := 3) w10 #[] 0 HB.o.size (by unfold maxLen; omega) rfl);replace HB := Qh (HB.o.alloc HB.o.size (.cells #[] 130));have HNE := Qh (show w10.heap.size ≠ q10 from fun e => by have := HY.o.lt; omega);replace HY := Qh (HY.o.more (.cells #[] 130));generalize hq1 : w10.heap.size = q1 at *;generalize hw1 : w10.alloc (.cells #[] 130) = w1 at *;clear hq1 hw1;refine hK.out _ _ ?_ (fun hQ => ?_)
    ·exact ⟨(HBK.o.below HB.o).cell 4, (HFB.o.below HB.o).cell 0, (HFB.o.below HB.o).cell 1, (HFB.o.below HB.o).cell 2⟩
    clear hK K;refine tqZ 8 fun K hK => ?_
    first
     | (refine Jag (by rfl) _ _ 81 (by rfl) W1.heap.size 130 i0 (.agg #[.string ⟨#[]⟩, .string ⟨#[]⟩, .int .i64 0]) 3 40 Tryz.underlying81 hi0 hz0 hz1 hz2 rfl (by decide) (.slice (some ⟨q1, 0, none⟩) 0 0) 0 [] (by rfl) HOo.o ⟨g, 0, none⟩ k c.c (flsV (D.L.take k)) (by rfl) (by rw [Ja1, HE0.o]) (fun j u hu => by rw [Addr.add_lit, Nat.zero_add]; exact HROW.o _ HB.o j u (Jb7 D.L k (by omega) j u hu)) (Jbq _) (by unfold maxLen; omega) (by omega) HB.o.size ?_); (intro v8 w8 ho8 hg8 hat8); (rw [Nat.zero_add, List.nil_append] at ho8); (obtain ⟨a8, c8, rfl⟩ := Jac ho8); (have HO8 := Qh ho8); (replace HB := Qh (HB.o.grown hg8 HB.o.size (fun q hq => (HOo.o.lt q hq).1))); (have HYL := Qh (show q10 < w1.heap.size from HY.o.lt)); (replace HY := Qh (HY.o.grown hg8 (fun e => HNE.o (by cases e; rfl)))); (replace HNE := Qh (show ∀ q, (Value.slice a8 k c8).ownBlock = some q → q ≠ q10 from fun q hq e => by rcases hat8 with h | h; exact HNE.o (by rw [hq] at h; cases h; exact e); rw [hq] at h; cases h; have := HYL.o; omega)); (clear HYL); (clear ho8 hg8 hat8 HOo)
     | (refine Jag (by rfl) _ _ 81 (by rfl) W1.heap.size 130 i0 (.agg #[.string ⟨#[]⟩, .string ⟨#[]⟩, .int .i64 0]) 3 40 Tryz.underlying81 hi0 hz0 hz1 hz2 rfl (by decide) (.slice (some ⟨q1, 0, none⟩) 0 0) 0 [] (by rfl) HOo.o ⟨g, 0, none⟩ k k (flsV (D.L.take k)) (by rfl) (by rw [Ja1, HE0.o]) (fun j u hu => by rw [Addr.add_lit, Nat.zero_add]; exact HROW.o _ HB.o j u (Jb7 D.L k (by omega) j u hu)) (Jbq _) (by unfold maxLen; omega) (by omega) HB.o.size ?_); (intro v8 w8 ho8 hg8 hat8); (rw [Nat.zero_add, List.nil_append] at ho8); (obtain ⟨a8, c8, rfl⟩ := Jac ho8); (have HO8 := Qh ho8); (replace HB := Qh (HB.o.grown hg8 HB.o.size (fun q hq => (HOo.o.lt q hq).1))); (have HYL := Qh (show q10 < w1.heap.size from HY.o.lt)); (replace HY := Qh (HY.o.grown hg8 (fun e => HNE.o (by cases e; rfl)))); (replace HNE := Qh (show ∀ q, (Value.slice a8 k c8).ownBlock = some q → q ≠ q10 from fun q hq e => by rcases hat8 with h | h; exact HNE.o (by rw [hq] at h; cases h; exact e); rw [hq] at h; cases h; have := HYL.o; omega)); (clear HYL); (clear ho8 hg8 hat8 HOo)
     | (refine Jau (by rfl) _ _ 81 (by rfl) W1.heap.size 130 i0 3 Tryz.underlying81 hi0 (.slice (some ⟨q1, 0, none⟩) 0 0) 0 [] (by rfl) HOo.o 0 (by rfl) ?_); (obtain ⟨w8, hw8⟩ : ∃ x, x = w1 := ⟨_, rfl⟩); (rw [← hw8] at HOo HB HY ⊢); (clear hw8); (have HO8 := Qh (show w8.ownsRow W1.heap.size 130 3 (.slice (some ⟨q1, 0, none⟩) 0 0) 0 (flsV (D.L.take k)) from by rw [hk0]; exact HOo.o)); (replace HNE := Qh (show ∀ q, (Value.slice (some ⟨q1, 0, none⟩) 0 0).ownBlock = some q → q ≠ q10 from fun q hq e => by cases hq; exact HNE.o e)); (clear HOo)
    refine hK.out _ _ ?_ (fun hQ => ?_)
    ·exact ⟨(HBK.o.below HB.o).cell 4, (HFB.o.below HB.o).cell 0, (HFB.o.below HB.o).cell 1, (HFB.o.below HB.o).cell 2⟩
    clear hK K;generalize w8 = wv at *
   rotate_left
   all_goals
    refine tqZ 11 fun K hK => ?_
    first
     | (refine Jag (by rfl) _ _ 81 (by rfl) W1.heap.size 130 i0 (.agg #[.string ⟨#[]⟩, .string ⟨#[]⟩, .int .i64 0]) 3 40 Tryz.underlying81 hi0 hz0 hz1 hz2 rfl (by decide) (Value.slice a8 k c8) k (flsV (D.L.take k)) (by rfl) HO8.o ⟨q10, 0, none⟩ 1 1 (fl3 f) (by rfl) rfl (fun j u hu => by rw [Addr.add_lit, Nat.zero_add]; exact (HY.o.cell j).trans (by rw [← hu]; simp [fl3])) (fun u hu => by simp [fl3] at hu; rcases hu with rfl | rfl | rfl <;> rfl) (by unfold maxLen; omega) (by omega) HB.o.size ?_); (intro v11 w11 ho11 hg11 _); (replace ho11 : w11.ownsRow W1.heap.size 130 3 v11 (k + 1) (flsV (D.L.take k ++ [f])) := by rw [Jbz]; exact ho11); (obtain ⟨a11, c11, rfl⟩ := Jac ho11); (have HO11 := Qh ho11); (replace HB := Qh (HB.o.grown hg11 HB.o.size (fun q hq => (HO8.o.lt q hq).1))); (clear ho11 hg11 HO8 HY HNE)
     | (refine Jag (by rfl) _ _ 81 (by rfl) W1.heap.size 130 i0 (.agg #[.string ⟨#[]⟩, .string ⟨#[]⟩, .int .i64 0]) 3 40 Tryz.underlying81 hi0 hz0 hz1 hz2 rfl (by decide) (Value.slice (some ⟨q1, 0, none⟩) 0 0) 0 (flsV (D.L.take k)) (by rfl) HO8.o ⟨q10, 0, none⟩ 1 1 (fl3 f) (by rfl) rfl (fun j u hu => by rw [Addr.add_lit, Nat.zero_add]; exact (HY.o.cell j).trans (by rw [← hu]; simp [fl3])) (fun u hu => by simp [fl3] at hu; rcases hu with rfl | rfl | rfl <;> rfl) (by unfold maxLen; omega) (by omega) HB.o.size ?_); (intro v11 w11 ho11 hg11 _); (replace ho11 : w11.ownsRow W1.heap.size 130 3 v11 1 (flsV (D.L.take k ++ [f])) := by rw [Jbz]; exact ho11); (obtain ⟨a11, c11, rfl⟩ := Jac ho11); (have HO11 := Qh ho11); (replace HB := Qh (HB.o.grown hg11 HB.o.size (fun q hq => (HO8.o.lt q hq).1))); (clear ho11 hg11 HO8 HY HNE)
    refine hK.out _ _ ?_ (fun hQ => ?_)
    ·exact ⟨(HBK.o.below HB.o).cell 4, (HFB.o.below HB.o).cell 0, (HFB.o.below HB.o).cell 1, (HFB.o.below HB.o).cell 2⟩
    clear hK K;refine tqZ 18 fun K hK => ?_
    first
     | (refine Jag (by rfl) _ _ 81 (by rfl) W1.heap.size 130 i0 (.agg #[.string ⟨#[]⟩, .string ⟨#[]⟩, .int .i64 0]) 3 40 Tryz.underlying81 hi0 hz0 hz1 hz2 rfl (by decide) (.slice a11 (k + 1) c11) (k + 1) (flsV (D.L.take k ++ [f])) (by rfl) HO11.o ⟨g, k * 3, none⟩ (D.L.length - k) (c.c - k) (flsV (D.L.drop k)) (by rfl) (by rw [Ja1, List.length_drop]) (fun j u hu => by rw [Addr.add_lit]; exact HROW.o _ HB.o _ u (Jiv D.L k (by omega) j u hu)) (Jbq _) (by unfold maxLen; omega) (by omega) HB.o.size ?_); (intro v18 w18 ho18 hg18 _); (replace ho18 : w18.ownsRow W1.heap.size 130 3 v18 nL (flsV (D.L.take k ++ f :: D.L.drop k)) := by rw [show D.L.take k ++ f :: D.L.drop k = (D.L.take k ++ [f]) ++ D.L.drop k from by simp, Jbz, show nL = k + 1 + (D.L.length - k) from by have := HNL.o; omega]; exact ho18); (obtain ⟨a18, c18, rfl⟩ := Jac ho18); (have HO18 := Qh ho18); (replace HB := Qh (HB.o.grown hg18 HB.o.size (fun q hq => (HO11.o.lt q hq).1))); (clear ho18 hg18 HO11)
     | (refine Jag (by rfl) _ _ 81 (by rfl) W1.heap.size 130 i0 (.agg #[.string ⟨#[]⟩, .string ⟨#[]⟩, .int .i64 0]) 3 40 Tryz.underlying81 hi0 hz0 hz1 hz2 rfl (by decide) (.slice a11 (k + 1) c11) (k + 1) (flsV (D.L.take k ++ [f])) (by rfl) HO11.o ⟨g, 0, none⟩ 0 0 [] (by rfl) rfl (fun j u hu => by simp at hu) (fun u hu => by simp at hu) (by unfold maxLen; omega) (by omega) HB.o.size ?_); (intro v18 w18 ho18 hg18 _); (replace ho18 : w18.ownsRow W1.heap.size 130 3 v18 nL (flsV (D.L.take k ++ f :: D.L.drop k)) := by rw [show D.L.take k ++ f :: D.L.drop k = D.L.take k ++ [f] from by rw [HDR.o], show nL = k + 1 from by have := HNL.o; omega]; rw [List.append_nil] at ho18; exact ho18); (obtain ⟨a18, c18, rfl⟩ := Jac ho18); (have HO18 := Qh ho18); (replace HB := Qh (HB.o.grown hg18 HB.o.size (fun q hq => (HO11.o.lt q hq).1))); (clear ho18 hg18 HO11)
     | (refine Jau (by rfl) _ _ 81 (by rfl) W1.heap.size 130 i0 3 Tryz.underlying81 hi0 (.slice a11 1 c11) 1 (flsV (D.L.take k ++ [f])) (by rfl) HO11.o 0 (by rfl) ?_); (obtain ⟨w18, hw18⟩ : ∃ x, x = w11 := ⟨_, rfl⟩); (rw [← hw18] at HO11 HB ⊢); (clear hw18); (obtain ⟨a18, c18, hv18⟩ : ∃ a18 c18, (Value.slice a11 1 c11) = .slice a18 nL c18 := ⟨a11, c11, by rw [show nL = 1 from by have := HNL.o; omega]⟩); (have HO18 := Qh (show w18.ownsRow W1.heap.size 130 3 (.slice a18 nL c18) nL (flsV (D.L.take k ++ f :: D.L.drop k)) from by rw [← hv18, show nL = 1 from by have := HNL.o; omega, show D.L.take k ++ f :: D.L.drop k = D.L.take k ++ [f] from by rw [HDR.o]]; exact HO11.o)); (rw [hv18]); (clear HO11 hv18)
    refine hK.out _ _ ?_ (fun hQ => ?_)
    ·exact ⟨(HBK.o.below HB.o).cell 4, (HFB.o.below HB.o).cell 0, (HFB.o.below HB.o).cell 1, (HFB.o.below HB.o).cell 2⟩
    clear hK K;refine tkY 19 ?_;refine tkY 20 ?_;refine tqL 21 fun K hK => ?_
    have f0 := (HBK.o.below HB.o).free 4;have m0 := (HBK.o.below HB.o).cell 4;go_simp;refine hK.out _ _ ?_;clear hK K;refine wpAny_done (by kernel_rfl) ?_ _;go_wp2_with fail;go_end0
    exact HFIN.o _ HB.o a18 c18 HO18.o
end
end Go.Proofs.YtmammmjmipgmoaaGreatDoor
