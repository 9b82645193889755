import Derived.Test.YtmammmjmipgmoaaGreatDoorZKe
import Derived.Test.YtmammmjmipgmoaaGreatDoorZJd
import Derived.Deep.RegionHeld
import Derived.Test.YtmammmjmipgmoaaGreatDoorZQh
set_option linter.unusedVariables false
set_option maxRecDepth 100000
set_option maxHeartbeats 16000000
namespace Go.Proofs.YtmammmjmipgmoaaGreatDoor
open Go Go.RowKit Go.Maps
section
open Hl
variable {B d r x b q i : Nat} {G : Hl.Lg} {D : Dk.St} {w w' : World} {P : Nat → Prop}
theorem Bn.firstP (k : Bn P B d r (some (b, G)) D (some (q, G)) D w) : Calls Tryz.prog 23 #[.pointer (some ⟨b, 0, none⟩)] w fun e w' => e = .returned (.int .i64 (firstL D G : Nat)) ∧ Below w.heap.size w w' := by
 obtain ⟨X, hX⟩ := k.hg; exact Jdb hX
theorem Bn.firstD (k : Bn P B d r (some (b, G)) D (some (q, G)) D w) : Calls Tryz.prog 51 #[.pointer (some ⟨q, 0, none⟩)] w fun e w' => e = .returned (.int .i64 (firstL D G : Nat)) ∧ Below w.heap.size w w' := by
 obtain ⟨c, vs, hX⟩ := k.dc; exact Jhi hX
theorem Bn.sureP (k : Bn P B d r (some (b, G)) D (some (q, G)) D w) (hi : Inv i G D) : Calls Tryz.prog 24 #[.pointer (some ⟨b, 0, none⟩)] w fun e w' => e = .returned (.int .i64 (sureL D G : Nat)) ∧ Below w.heap.size w w' := by
 obtain ⟨X, hX⟩ := k.hg;by_cases hs : Hl.state D G = 0
 ·obtain ⟨F, Z, hl, _⟩ := hi.lv hs
  exact Je0 hX (srt_of hl.gs)
 ·exact Jlu hX hs
theorem Bn.sureD (k : Bn P B d r (some (b, G)) D (some (q, G)) D w) (hi : Inv i G D) : Calls Tryz.prog 52 #[.pointer (some ⟨q, 0, none⟩)] w fun e w' => e = .returned (.int .i64 (sureL D G : Nat)) ∧ Below w.heap.size w w' := by
 obtain ⟨c, vs, hX⟩ := k.dc;exact Jje hX (fun hs => by obtain ⟨F, Z, hl, _⟩ := hi.lv hs; exact hl.rcok) (fun hs => by obtain ⟨F, Z, hl, _⟩ := hi.lv hs; exact hl.rcsf)
theorem Bn.endP (k : Bn P B d r (some (b, G)) D (some (q, G)) D w) : Calls Tryz.prog 25 #[.pointer (some ⟨b, 0, none⟩)] w fun e w' => e = .returned (.int .i64 (endL D G : Nat)) ∧ Below w.heap.size w w' := by
 obtain ⟨X, hX⟩ := k.hg; exact Jfq hX
theorem Bn.endD (k : Bn P B d r (some (b, G)) D (some (q, G)) D w) (hi : Inv i G D) : Calls Tryz.prog 53 #[.pointer (some ⟨q, 0, none⟩)] w fun e w' => e = .returned (.int .i64 (endL D G : Nat)) ∧ Below w.heap.size w w' := by
 obtain ⟨c, vs, hX⟩ := k.dc;exact Jkt hX (fun hs => by obtain ⟨F, Z, hl, _⟩ := hi.lv hs; exact hl.rcok)
theorem Bn.segP (k : Bn P B d r (some (b, G)) D (some (q, G)) D w) : Calls Tryz.prog 26 #[.pointer (some ⟨b, 0, none⟩)] w fun e w' => e = .returned (.int .i64 (segmentsL D G : Nat)) ∧ Below w.heap.size w w' := by
 obtain ⟨X, hX⟩ := k.hg; exact Jhw hX
theorem Bn.segD (k : Bn P B d r (some (b, G)) D (some (q, G)) D w) : Calls Tryz.prog 54 #[.pointer (some ⟨q, 0, none⟩)] w fun e w' => e = .returned (.int .i64 (segmentsL D G : Nat)) ∧ Below w.heap.size w w' := by
 obtain ⟨c, vs, hX⟩ := k.dc; exact Jjb hX
theorem sameB6 (h : Bch i B d r x w) : Calls Tryz.prog 16 #[.pointer (some ⟨x, 0, none⟩)] w fun e w' => e = .returned (.bool true) ∧ Below w.heap.size w w' := by
 obtain ⟨b, q, G, D, h1, h2, h3⟩ := h;have HN := Qh h1;have HI := Qh h2;have HX := Qh h3;have HB := Qh (Below.refl w.heap.size w);clear h1 h2 h3;go_enter Tryz.func16, Tryz.ntmps16;go_upto_region 1 with fail
 replace HN := Qh (HN.o.below (Below.refl _ _).drew);replace HX := Qh HX.o.drew;replace HB := Qh HB.o.drew;refine wp_region_held_drew (S := fun V => V.cell? ⟨x, 0, none⟩ = some (.pointer (some ⟨d, 0, none⟩)) ∧ V.cell? ⟨x, 1, none⟩ = some (.pointer (some ⟨b, 0, none⟩)) ∧ V.cell? ⟨x, 2, none⟩ = some (.pointer (some ⟨r, 0, none⟩)) ∧ V.cell? ⟨x, 3, none⟩ = some (.pointer (some ⟨q, 0, none⟩))) (by kernel_rfl) ?_ (fun hQ => ?_)
 ·exact ⟨HX.o.cell 0, HX.o.cell 1, HX.o.cell 2, HX.o.cell 3⟩
 obtain ⟨v, hv⟩ : ∃ q, q = World.drew w := ⟨_, rfl⟩
 rw [← hv] at HN HX HB hQ ⊢;clear hv;refine tkH 0 ?_;refine tkH 1 ?_;refine tkH 2 ?_;refine tkH 3 ?_;refine tkH 4 ?_;refine tkH 5 ?_;refine tkH 6 ?_;refine tkH 7 ?_;refine tqH 8 fun K hK => ?_
 go_simp;have CJ := same5 HN.o.pl5;replace CJ := Qh CJ;go_simp;go_at_call 50;with_reducible refine (CJ.o).mono ?_
 rintro e v0 ⟨rfl, hb⟩;replace HN := Qh (HN.o.below hb);replace HX := Qh (HX.o.below hb);replace HB := Qh (Jaa HB.o hb);clear hb CJ;go_wp2_with fail;refine hK.out _ _ ?_ (fun hQ => ?_)
 ·exact ⟨HX.o.cell 0, HX.o.cell 1, HX.o.cell 2, HX.o.cell 3⟩
 clear hK K;refine tkH 9 ?_;refine tkH 10 ?_;refine tkH 11 ?_;refine tkH 12 ?_;refine tkH 13 ?_;refine tkH 15 ?_;refine tkH 16 ?_;refine tkH 17 ?_;refine tkH 18 ?_;refine tqH 14 fun K hK => ?_
 go_simp;have CJ := HN.o.firstP;replace CJ := Qh CJ;go_simp;go_at_call 23;with_reducible refine (CJ.o).mono ?_
 rintro e v1 ⟨rfl, hb⟩;replace HN := Qh (HN.o.below hb);replace HX := Qh (HX.o.below hb);replace HB := Qh (Jaa HB.o hb);clear hb CJ;go_wp2_with fail;refine hK.out _ _ ?_ (fun hQ => ?_)
 ·exact ⟨HX.o.cell 0, HX.o.cell 1, HX.o.cell 2, HX.o.cell 3⟩
 clear hK K;refine tqH 19 fun K hK => ?_
 go_simp;have CJ := HN.o.firstD;replace CJ := Qh CJ;go_simp;go_at_call 51;with_reducible refine (CJ.o).mono ?_
 rintro e v2 ⟨rfl, hb⟩;replace HN := Qh (HN.o.below hb);replace HX := Qh (HX.o.below hb);replace HB := Qh (Jaa HB.o hb);clear hb CJ;have s2 : (((firstL D G : Nat) : Int) == ((firstL D G : Nat) : Int)) = true := by simp
 go_wp2_with fail;refine hK.out _ _ ?_ (fun hQ => ?_)
 ·exact ⟨HX.o.cell 0, HX.o.cell 1, HX.o.cell 2, HX.o.cell 3⟩
 clear hK K;refine tkH 20 ?_;refine tkH 21 ?_;refine tkH 22 ?_;refine tkH 23 ?_;refine tkH 24 ?_;refine tkH 25 ?_;refine tkH 26 ?_;refine tkH 28 ?_;refine tkH 29 ?_;refine tkH 30 ?_;refine tkH 31 ?_;refine tqH 27 fun K hK => ?_
 go_simp;have CJ := HN.o.sureP HI.o;replace CJ := Qh CJ;go_simp;go_at_call 24;with_reducible refine (CJ.o).mono ?_
 rintro e v3 ⟨rfl, hb⟩;replace HN := Qh (HN.o.below hb);replace HX := Qh (HX.o.below hb);replace HB := Qh (Jaa HB.o hb);clear hb CJ;go_wp2_with fail;refine hK.out _ _ ?_ (fun hQ => ?_)
 ·exact ⟨HX.o.cell 0, HX.o.cell 1, HX.o.cell 2, HX.o.cell 3⟩
 clear hK K;refine tqH 32 fun K hK => ?_
 go_simp;have CJ := HN.o.sureD HI.o;replace CJ := Qh CJ;go_simp;go_at_call 52;with_reducible refine (CJ.o).mono ?_
 rintro e v4 ⟨rfl, hb⟩;replace HN := Qh (HN.o.below hb);replace HX := Qh (HX.o.below hb);replace HB := Qh (Jaa HB.o hb);clear hb CJ;have s4 : (((sureL D G : Nat) : Int) == ((sureL D G : Nat) : Int)) = true := by simp
 go_wp2_with fail;refine hK.out _ _ ?_ (fun hQ => ?_)
 ·exact ⟨HX.o.cell 0, HX.o.cell 1, HX.o.cell 2, HX.o.cell 3⟩
 clear hK K;refine tkH 33 ?_;refine tkH 34 ?_;refine tkH 35 ?_;refine tkH 36 ?_;refine tkH 37 ?_;refine tkH 38 ?_;refine tkH 39 ?_;refine tkH 41 ?_;refine tkH 42 ?_;refine tkH 43 ?_;refine tkH 44 ?_;refine tqH 40 fun K hK => ?_
 go_simp;have CJ := HN.o.endP;replace CJ := Qh CJ;go_simp;go_at_call 25;with_reducible refine (CJ.o).mono ?_
 rintro e v5 ⟨rfl, hb⟩;replace HN := Qh (HN.o.below hb);replace HX := Qh (HX.o.below hb);replace HB := Qh (Jaa HB.o hb);clear hb CJ;go_wp2_with fail;refine hK.out _ _ ?_ (fun hQ => ?_)
 ·exact ⟨HX.o.cell 0, HX.o.cell 1, HX.o.cell 2, HX.o.cell 3⟩
 clear hK K;refine tqH 45 fun K hK => ?_
 go_simp;have CJ := HN.o.endD HI.o;replace CJ := Qh CJ;go_simp;go_at_call 53;with_reducible refine (CJ.o).mono ?_
 rintro e v6 ⟨rfl, hb⟩;replace HN := Qh (HN.o.below hb);replace HX := Qh (HX.o.below hb);replace HB := Qh (Jaa HB.o hb);clear hb CJ;have s6 : (((endL D G : Nat) : Int) == ((endL D G : Nat) : Int)) = true := by simp
 go_wp2_with fail;refine hK.out _ _ ?_ (fun hQ => ?_)
 ·exact ⟨HX.o.cell 0, HX.o.cell 1, HX.o.cell 2, HX.o.cell 3⟩
 clear hK K;refine tkH 46 ?_;refine tkH 47 ?_;refine tkH 48 ?_;refine tkH 49 ?_;refine tkH 50 ?_;refine tkH 51 ?_;refine tkH 52 ?_;refine tkH 54 ?_;refine tkH 55 ?_;refine tkH 56 ?_;refine tkH 57 ?_;refine tqH 53 fun K hK => ?_
 go_simp;have CJ := HN.o.segP;replace CJ := Qh CJ;go_simp;go_at_call 26;with_reducible refine (CJ.o).mono ?_
 rintro e v7 ⟨rfl, hb⟩;replace HN := Qh (HN.o.below hb);replace HX := Qh (HX.o.below hb);replace HB := Qh (Jaa HB.o hb);clear hb CJ;go_wp2_with fail;refine hK.out _ _ ?_ (fun hQ => ?_)
 ·exact ⟨HX.o.cell 0, HX.o.cell 1, HX.o.cell 2, HX.o.cell 3⟩
 clear hK K;refine tqH 58 fun K hK => ?_
 go_simp;have CJ := HN.o.segD;replace CJ := Qh CJ;go_simp;go_at_call 54;with_reducible refine (CJ.o).mono ?_
 rintro e v8 ⟨rfl, hb⟩;replace HN := Qh (HN.o.below hb);replace HX := Qh (HX.o.below hb);replace HB := Qh (Jaa HB.o hb);clear hb CJ;have s8 : (((segmentsL D G : Nat) : Int) == ((segmentsL D G : Nat) : Int)) = true := by simp
 go_wp2_with fail;refine hK.out _ _ ?_ (fun hQ => ?_)
 ·exact ⟨HX.o.cell 0, HX.o.cell 1, HX.o.cell 2, HX.o.cell 3⟩
 clear hK K;refine tkH 59 ?_;refine tkH 60 ?_;refine tkH 61 ?_;refine wpAnyH_done (by kernel_rfl) ?_ _;go_wp2_with fail;go_ret;exact ⟨rfl, HB.o⟩
end
end Go.Proofs.YtmammmjmipgmoaaGreatDoor
