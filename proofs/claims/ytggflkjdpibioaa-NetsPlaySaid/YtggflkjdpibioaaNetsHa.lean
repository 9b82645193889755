/- Layer 7: the document's net: Lose, by a contract. -/
import Derived.Test.YtggflkjdpibioaaNetsH
import Derived.Deep.RegionLaw
namespace Go.Proofs.Ytggflkjdpibioaa
set_option linter.unusedVariables false
open Go Go.RowKit

theorem ownsRow_mono {w : World} {B B' sz n : Nat} {e : TypeId} {v : Value} {xs : List Value} (hB : B' ≤ B) (h : w.ownsRow B e sz v n xs) : w.ownsRow B' e sz v n xs := by
  refine ⟨h.1, ?_⟩
  rcases h.2 with hc | ⟨g, cap, cur, rfl, hg, rest⟩
  · exact .inl hc
  · exact .inr ⟨g, cap, cur, rfl, Nat.le_trans hB hg, rest⟩
structure Kept (r : Nat) (w x y : World) : Prop where
  os : y.os = x.os
  tape : y.tape = x.tape
  output : y.output = x.output
  size : x.heap.size ≤ y.heap.size
  block : ∀ k, k < w.heap.size → k ≠ r → y.heap[k]? = x.heap[k]?
theorem Only.trans' {r : Nat} {w x y : World} (h : Only r w x) (k : Kept r w x y) : Only r w y :=
  ⟨k.os.trans h.os, k.tape.trans h.tape, k.output.trans h.output, Nat.le_trans h.size k.size, fun i hi hn => (k.block i hi hn).trans (h.block i hi hn)⟩
theorem Only.away {base r : Nat} {w x : World} (h : Only r w x) (hb : base ≤ w.heap.size) : Away base r w x := ⟨h.os, h.tape, h.output, h.size, fun k hk hn => h.block k (by omega) hn⟩
theorem Only.grown7 {r : Nat} {w x y : World} (h : Only r w x) {row : Option Nat} (hg : x.grownBy y row) (hr : ∀ q, row = some q → w.heap.size ≤ q) : Only r w y :=
  h.trans' ⟨hg.os, hg.tape, hg.output, hg.size, fun k hk hn => hg.block k (Nat.lt_of_lt_of_le hk h.size) (fun e => by have := hr k e.symm; omega)⟩
theorem RefIn.mono {w : World} {base B r : Nat} {L : List Ml} (h : RefIn w B r L) (hB : base ≤ B) (hr : r < base) : RefIn w base r L := by
  obtain ⟨v, T, h1, h2, _, h4⟩ := h
  exact ⟨v, T, h1, ownsRow_mono hB h2, hr, Nat.le_trans hB h4⟩
theorem RefIn.set {w : World} {base r : Nat} {L : List Ml} (h : RefIn w base r L) {c : Nat} (hc : c < base) (hn : r ≠ c) (i : Nat) (u : Value) : RefIn (w.setCell ⟨c, i, none⟩ u) base r L := by
  obtain ⟨v, T, h1, h2, h3, h4⟩ := h
  exact ⟨v, T, h1.other hn i u, ownsRow_set h2 hc, h3, by simpa [World.setCell] using h4⟩
theorem mls_one_cell (L : List Ml) : ∀ u ∈ mls L, u.oneCell' = true := by
  intro u hu
  simp only [mls, List.mem_flatMap] at hu
  obtain ⟨m, _, hm⟩ := hu
  simp [mlC] at hm
  rcases hm with rfl | rfl | rfl <;> rfl
theorem mls_pre (L : List Ml) (n : Nat) : ∀ (j : Nat) (u : Value), (mls (L.take n))[j]? = some u → (mls L)[j]? = some u := by
  intro j u h
  have e : mls L = mls (L.take n) ++ mls (L.drop n) := by rw [← mls_append, List.take_append_drop]
  rw [e, List.getElem?_append_left (List.getElem?_eq_some_iff.1 h).1]
  exact h
theorem mls_suf (L : List Ml) (n : Nat) (hn : n ≤ L.length) : ∀ (j : Nat) (u : Value), (mls (L.drop n))[j]? = some u → (mls L)[n * 3 + j]? = some u := by
  intro j u h
  have e : mls L = mls (L.take n) ++ mls (L.drop n) := by rw [← mls_append, List.take_append_drop]
  have hl : (mls (L.take n)).length = n * 3 := by rw [mls_length, List.length_take, Nat.min_eq_left hn]
  rw [e, List.getElem?_append_right (by omega), hl, Nat.add_sub_cancel_left]
  exact h

set_option maxHeartbeats 2000000 in
theorem refLose_yes {w : World} {base r : Nat} {L : List Ml} (h : RefIn w base r L) (n : Nat) (hn : n < L.length) (hl : L.length ≤ 64) :
    Calls Try.prog 25 #[.pointer (some ⟨r, 0, none⟩), .int .i64 n] w fun e w' => e = .returned (.bool true) ∧ RefIn w' w.heap.size r (L.take n ++ L.drop (n + 1)) ∧ Only r w w' := by
  obtain ⟨i0, z0, hi, hz0, hz1, hz2, hz3⟩ := infoMl_parts
  have c1 := ref_is h n
  rw [decide_eq_true ⟨by omega, by omega⟩] at c1
  have C1 := Lib.hid c1
  obtain ⟨v, T, hb, ho, hr, hs⟩ := h
  obtain ⟨ao, cap, rfl, hcap, hrow, hao, hsh⟩ := own_parts ho
  obtain ⟨g, rfl⟩ : ∃ g, ao = some ⟨g, 0, none⟩ := by
    rcases hsh with ⟨_, rfl⟩ | h
    · omega
    · exact h
  have hgl := (ho.lt g rfl).2
  have c0 : w.cell? ⟨r, 0, none⟩ = some (.slice (some ⟨g, 0, none⟩) L.length cap) := hb.cell 0
  have HO := Lib.hid ho
  have HBK := Lib.hid hb
  have b1 : (0 : Int) ≤ (n : Int) := by omega
  have b2 : (n : Int) ≤ (cap : Int) := by omega
  have b3 : (0 : Int) ≤ (n : Int) + 1 := by omega
  have b4 : (n : Int) + 1 ≤ (L.length : Int) := by omega
  have b5 : (L.length : Int) ≤ (cap : Int) := by omega
  have ew : IntKind.i64.wrap ((n : Int) + 1) = (n : Int) + 1 := IntWalk.i64_in _ (by omega)
  clear c1 hrow hao hsh ho hb
  go_enter Try.func25, Try.ntmps25
  go_wp2_with fail
  with_reducible refine (C1.out).mono ?_
  rintro e w1 ⟨rfl, rfl⟩
  go_wp2_with fail
  have hrow : ∀ (x : World), (∀ k, k = g → x.heap[k]? = w.heap[k]?) → ∀ (j : Nat) (u : Value), (mls L)[j]? = some u → x.cell? ⟨g, j, none⟩ = some u := fun x hx j u hu => by
    have h := HO.out.cells (g := g) rfl j u hu
    rw [show (⟨g, 0, none⟩ : Addr).add j = ⟨g, j, none⟩ from by unfold Addr.add; split <;> simp_all] at h
    rw [World.cell?_of_block (w := w) (hx g rfl)]
    exact h
  have HROW := Lib.hid hrow
  have b9 : (n : Int) ≤ (n : Int) + 1 := by omega
  have cc0 : ∀ o, (w.alloc o).cell? ⟨r, 0, none⟩ = some (.slice (some ⟨g, 0, none⟩) L.length cap) := fun o => (HBK.out.more o).cell 0
  clear hrow C1
  have hcase : ¬ cap = n + 1 ∨ cap = n + 1 := by omega
  rcases hcase with hc | hc
  · go_region_law (first
      | ((have _t := c3; clear _t; refine step_append_own (by rfl) _ _ 27 (by rfl) w.heap.size 31 i0 z0 3 32 Try.underlying27 hi hz0 hz1 hz2 hz3 (by decide) (.slice so n sc) n (mls (L.take n)) (by rfl) hown3 ⟨g, (n + 1) * 3, none⟩ (L.length - (n + 1)) (cap - (n + 1)) (mls (L.drop (n + 1))) (by rfl) (by rw [mls_length, List.length_drop]) (fun j u hu => by
          rw [Addr.add_lit]
          exact HROW.out w3 (fun k hk => by rw [hk]; exact (hgrow3.block g (show g < (w.drew.alloc _).heap.size by rw [sz_alloc]; exact Nat.lt_succ_of_lt hgl) (fun e => by cases e; exact absurd hgl (Nat.lt_irrefl _))).trans (heap_alloc_old w.drew _ hgl)) _ u (mls_suf L (n + 1) hn j u hu)) (mls_one_cell _) (by unfold maxLen; omega) (by omega) (Nat.le_trans (show w.heap.size ≤ (w.drew.alloc _).heap.size by rw [sz_alloc]; exact Nat.le_succ _) hgrow3.size) ?_; intro v5 w5 hown5 hgrow5 hnil5; obtain ⟨so2, sc2, rfl⟩ := own_shape hown5; have hb5 := hb3.grown hgrow5 (fun q hq => by have := (hown3.lt q hq).1; have := HBK.out.lt; omega); have c5 : w5.cell? ⟨r, 0, none⟩ = some (.slice (some ⟨g, 0, none⟩) L.length cap) := hb5.cell 0; have f5 : ∀ j, w5.frozen? ⟨r, j, none⟩ = false := fun j => hb5.free j))
      | ((refine step_append_own (by rfl) _ _ 27 (by rfl) w.heap.size 31 i0 z0 3 32 Try.underlying27 hi hz0 hz1 hz2 hz3 (by decide) (.slice (some ⟨w.heap.size, 0, none⟩) 0 0) 0 [] (by rfl) (World.ownsRow_made w.drew #[] 0 (Nat.le_refl _) (by unfold maxLen; omega) rfl) ⟨g, 0, none⟩ n cap (mls (L.take n)) (by rfl) (by rw [mls_length, List.length_take, Nat.min_eq_left (by omega)]) (fun j u hu => by
          rw [show (⟨g, 0, none⟩ : Addr).add j = ⟨g, j, none⟩ from by unfold Addr.add; split <;> simp_all]
          exact HROW.out _ (fun k hk => by rw [hk]; exact heap_alloc_old w.drew _ hgl) j u (mls_pre L n j u hu)) (mls_one_cell _) (by unfold maxLen; omega) (by omega) (by show w.heap.size ≤ (w.drew.alloc _).heap.size; rw [sz_alloc]; exact Nat.le_succ _) ?_; intro v3 w3 hown3 hgrow3 hnil3; rw [Nat.zero_add, List.nil_append] at hown3; obtain ⟨so, sc, rfl⟩ := own_shape hown3; have hb3 := ((show BlkIn _ _ w.drew r from HBK.out).more _).grown hgrow3 (fun q hq => by cases hq; have := HBK.out.lt; show w.heap.size ≠ r; omega); have c3 : w3.cell? ⟨r, 0, none⟩ = some (.slice (some ⟨g, 0, none⟩) L.length cap) := hb3.cell 0)))
    all_goals
      go_wp2_with fail
      go_ret
      refine ⟨rfl, ⟨_, T, hb5.set 0 _, ?_, HBK.out.lt, ?_⟩, ?_⟩
      · have h := ownsRow_set (r := r) (i := 0) (u := .slice so2 (n + (L.length - (n + 1))) sc2) hown5 HBK.out.lt
        rw [mls_append, show (L.take n ++ L.drop (n + 1)).length = n + (L.length - (n + 1)) from by simp; omega]
        exact h
      · show w.heap.size ≤ (w5.setCell _ _).heap.size
        simp only [World.setCell, Array.size_modify]
        exact Nat.le_trans (Nat.le_trans (show w.heap.size ≤ (w.drew.alloc _).heap.size by rw [sz_alloc]; exact Nat.le_succ _) hgrow3.size) hgrow5.size
      · have h1 : Only r w (w.drew.alloc (.cells #[] 31)) := (Only.refl r w).drew.alloc _
        exact ((h1.grown7 hgrow3 (fun q hq => by cases hq; exact Nat.le_refl _)).grown7 hgrow5 (fun q hq => (hown3.lt q hq).1)).setCell (.inl rfl) _
  · subst hc
    go_region_law (first
      | ((have _t := c3; clear _t; refine step_append_own (by rfl) _ _ 27 (by rfl) w.heap.size 31 i0 z0 3 32 Try.underlying27 hi hz0 hz1 hz2 hz3 (by decide) (.slice so n sc) n (mls (L.take n)) (by rfl) hown3 ⟨g, 0, none⟩ 0 0 [] (by rfl) rfl (fun j u hu => by simp at hu) (fun u hu => by simp at hu) (by unfold maxLen; omega) (by omega) (Nat.le_trans (show w.heap.size ≤ (w.drew.alloc _).heap.size by rw [sz_alloc]; exact Nat.le_succ _) hgrow3.size) ?_; intro v5 w5 hown5 hgrow5 hnil5; rw [Nat.add_zero, List.append_nil] at hown5; obtain ⟨so2, sc2, rfl⟩ := own_shape hown5; have hb5 := hb3.grown hgrow5 (fun q hq => by have := (hown3.lt q hq).1; have := HBK.out.lt; omega); have c5 : w5.cell? ⟨r, 0, none⟩ = some (.slice (some ⟨g, 0, none⟩) L.length (n + 1)) := hb5.cell 0; have f5 : ∀ j, w5.frozen? ⟨r, j, none⟩ = false := fun j => hb5.free j))
      | ((refine step_append_own (by rfl) _ _ 27 (by rfl) w.heap.size 31 i0 z0 3 32 Try.underlying27 hi hz0 hz1 hz2 hz3 (by decide) (.slice (some ⟨w.heap.size, 0, none⟩) 0 0) 0 [] (by rfl) (World.ownsRow_made w.drew #[] 0 (Nat.le_refl _) (by unfold maxLen; omega) rfl) ⟨g, 0, none⟩ n (n + 1) (mls (L.take n)) (by rfl) (by rw [mls_length, List.length_take, Nat.min_eq_left (by omega)]) (fun j u hu => by
          rw [show (⟨g, 0, none⟩ : Addr).add j = ⟨g, j, none⟩ from by unfold Addr.add; split <;> simp_all]
          exact HROW.out _ (fun k hk => by rw [hk]; exact heap_alloc_old w.drew _ hgl) j u (mls_pre L n j u hu)) (mls_one_cell _) (by unfold maxLen; omega) (by omega) (by show w.heap.size ≤ (w.drew.alloc _).heap.size; rw [sz_alloc]; exact Nat.le_succ _) ?_; intro v3 w3 hown3 hgrow3 hnil3; rw [Nat.zero_add, List.nil_append] at hown3; obtain ⟨so, sc, rfl⟩ := own_shape hown3; have hb3 := ((show BlkIn _ _ w.drew r from HBK.out).more _).grown hgrow3 (fun q hq => by cases hq; have := HBK.out.lt; show w.heap.size ≠ r; omega); have c3 : w3.cell? ⟨r, 0, none⟩ = some (.slice (some ⟨g, 0, none⟩) L.length (n + 1)) := hb3.cell 0)))
    all_goals
      go_wp2_with fail
      go_ret
      refine ⟨rfl, ⟨_, T, hb5.set 0 _, ?_, HBK.out.lt, ?_⟩, ?_⟩
      · have h := ownsRow_set (r := r) (i := 0) (u := .slice so2 n sc2) hown5 HBK.out.lt
        rw [List.drop_eq_nil_of_le (by omega), List.append_nil, List.length_take, Nat.min_eq_left (by omega)]
        exact h
      · show w.heap.size ≤ (w5.setCell _ _).heap.size
        simp only [World.setCell, Array.size_modify]
        exact Nat.le_trans (Nat.le_trans (show w.heap.size ≤ (w.drew.alloc _).heap.size by rw [sz_alloc]; exact Nat.le_succ _) hgrow3.size) hgrow5.size
      · have h1 : Only r w (w.drew.alloc (.cells #[] 31)) := (Only.refl r w).drew.alloc _
        exact ((h1.grown7 hgrow3 (fun q hq => by cases hq; exact Nat.le_refl _)).grown7 hgrow5 (fun q hq => (hown3.lt q hq).1)).setCell (.inl rfl) _

end Go.Proofs.Ytggflkjdpibioaa
