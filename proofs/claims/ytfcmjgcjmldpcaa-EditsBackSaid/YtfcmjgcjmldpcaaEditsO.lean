/- Layer 16: union, by a contract. -/
import Derived.Test.YtfcmjgcjmldpcaaEditsN
import Derived.Sort.OwnSortedInts
import Derived.Lib.OwnBridge
namespace Go.Proofs.Ytfcmjgcjmldpcaa
set_option linter.unusedVariables false
set_option linter.unusedSimpArgs false
open Go Go.RowKit Go.Sort
attribute [local go_sem ↓] run_index_S
attribute [local go_sem] S_append S_extract

abbrev sortI (l : List Int) : List Int := l.mergeSort fun x y => decide (x ≤ y)
theorem holdsI {w : World} {B g cap : Nat} {l : List Int} (h : w.ownsRow B 3 1 (.slice (some ⟨g, 0, none⟩) l.length cap) l.length (nsL l)) : Holds (Value.int .i64) w g 0 l.toArray ∧ g < w.heap.size ∧ l.length ≤ cap := by
  rcases h.2 with ⟨e, _⟩ | ⟨g', cap', cur, e, hB, hg, hc, hm, hs, ht⟩
  · cases e
  · injection e with e1 e2 e3
    injection e1 with e1
    injection e1 with e1
    subst e1 e3
    exact ⟨holds_of_blockI hg (by rw [← Nat.mul_one l.length]; exact ht), (Array.getElem?_eq_some_iff.1 hg).1, hc⟩
theorem sortOwn16 (l : List Int) (hl : l.length ≤ 1000000) {B : Nat} (g cap : Nat) (w : World) (h : w.ownsRow B 3 1 (.slice (some ⟨g, 0, none⟩) l.length cap) l.length (nsL l)) :
    Calls Try.prog 54 #[.slice (some ⟨g, 0, none⟩) l.length cap] w fun e w' => e = .returned (.tuple #[]) ∧ w'.ownsRow B 3 1 (.slice (some ⟨g, 0, none⟩) l.length cap) l.length (nsL (sortI l)) ∧ w.grownBy w' (some g) := by
  obtain ⟨hH, hg, _⟩ := holdsI h
  refine (Try.slices_Sort_int g 0 cap l w hH hg (by omega)).mono ?_
  rintro e w' ⟨rfl, n, os, rfl⟩
  rcases h.2 with ⟨e, _⟩ | ⟨g', cap', cur, e, hB, hb, h1, h2, h3, _⟩
  · cases e
  · injection e with e1 e2 e3
    injection e1 with e1
    injection e1 with e1
    subst e1 e3
    exact ⟨rfl, ownsRow_sortedI (List.length_mergeSort l) hB hb h1 h2 h3, grownBy_sortedI _⟩
theorem compactOwn16 (l : List Int) (hl : l.length ≤ 1000000) {B : Nat} (g cap : Nat) (w : World) (h : w.ownsRow B 3 1 (.slice (some ⟨g, 0, none⟩) l.length cap) l.length (nsL l)) :
    Calls Try.prog 55 #[.slice (some ⟨g, 0, none⟩) l.length cap] w fun e w' => e = .returned (.slice (some ⟨g, 0, none⟩) (Lib.compact l).length cap) ∧ w'.ownsRow B 3 1 (.slice (some ⟨g, 0, none⟩) (Lib.compact l).length cap) (Lib.compact l).length (nsL (Lib.compact l)) ∧ (∀ B0 W0, Below B0 W0 w → B0 ≤ g → Below B0 W0 w') := by
  obtain ⟨hH, hg, hc⟩ := holdsI h
  refine (Try.slices_Compact_int g 0 cap l w hH (by omega) hc).mono ?_
  rintro e w' ⟨rfl, q, rfl⟩
  have hle := Lib.compact_length_le l
  have hr := Lib.ownsRow_putRow (q := q) (k := (Lib.compact l).length) (ys := Lib.compact l ++ List.replicate (l.length - (Lib.compact l).length) 0) h (by simp; omega) (by omega)
  rw [List.take_left] at hr
  exact ⟨rfl, hr, fun B0 W0 hb hB => Lib.below_putRow hb hB⟩
def catL (Rs : List Rt) : List Int := Rs.flatMap (fun r => r.l)
theorem catL_snoc {Rs : List Rt} {k : Nat} (h : k < Rs.length) : catL (Rs.take (k + 1)) = catL (Rs.take k) ++ (Rs.getD k rt0).l := by
  rw [Ed.take_snoc Rs k rt0 h]; simp [catL]
theorem catL_len : ∀ {Rs : List Rt} {m : Nat}, (∀ r, r ∈ Rs → r.l.length ≤ m) → (catL Rs).length ≤ Rs.length * m
  | [], m, _ => by simp [catL]
  | r :: Rs, m, h => by
    have h1 := catL_len (Rs := Rs) (m := m) (fun r hr => h r (by simp [hr]))
    have h2 := h r (by simp)
    simp only [catL, List.flatMap_cons, List.length_append, List.length_cons, Nat.add_mul] at *
    omega
def UnionR (Rs : List Rt) (w : World) (e : Ending) (w' : World) : Prop := ∃ ao c, e = .returned (.slice ao (Lib.compact (sortI (catL Rs))).length c) ∧ w'.ownsRow w.heap.size 3 1 (.slice ao (Lib.compact (sortI (catL Rs))).length c) (Lib.compact (sortI (catL Rs))).length (nsL (Lib.compact (sortI (catL Rs)))) ∧ Below w.heap.size w w'
set_option maxHeartbeats 4000000 in
set_option maxRecDepth 100000 in
theorem union16_any (Rs : List Rt) (hn : Rs.length ≤ 16) (hl : ∀ r, r ∈ Rs → r.l.length ≤ 10000) (ao : Option Addr) (cap : Nat) (w : World) (h : TbsAt w ao Rs) :
    Calls Try.prog 37 #[.slice ao Rs.length cap] w (UnionR Rs w) := by
  have HA := Lib.hid h
  have HL := Lib.hid hl
  obtain ⟨i0, z0, hi0, hz0, h01, h02, h03⟩ := infoN_parts
  clear h hl
  go_enter Try.func37, Try.ntmps37
  go_wp2_with fail
  go_loopw [3, 8] (fun av i wr => ∃ (k : Nat) (a3 : Option Addr) (c3 : Nat), k ≤ Rs.length ∧ i = .int .i64 k ∧ av = .slice a3 (catL (Rs.take k)).length c3 ∧ Hid (wr.ownsRow w.heap.size 3 1 (.slice a3 (catL (Rs.take k)).length c3) (catL (Rs.take k)).length (nsL (catL (Rs.take k)))) ∧ Hid (Below w.heap.size w wr)) (fun _ i _ => Rs.length - (intOf i).toNat)
  case atStart => exact ⟨0, none, 0, Nat.zero_le _, rfl, rfl, Lib.hid (World.ownsRow_nil _ _ _ _), Lib.hid (Below.refl _ _)⟩
  case round =>
    obtain ⟨k, a3, c3, hk, rfl, rfl, HO, HB⟩ := hrel
    by_cases hlt : k < Rs.length
    · have hki : (k : Int) < (Rs.length : Int) := by omega
      obtain ⟨g, off, rfl, hc⟩ := (HA.out.below HB.out).off k hlt
      have HS := Lib.hid (catL_snoc hlt)
      have hln := HL.out _ (Ed.gD_mem (d := rt0) hlt)
      have hcl := catL_len (Rs := Rs.take k) (m := 10000) (fun r hr => HL.out r (List.mem_of_mem_take hr))
      have hlk : (Rs.take k).length ≤ 16 := by simp; omega
      have HTA := Lib.hid hc
      obtain ⟨x0, x1, x2⟩ := hc
      generalize Rs.getD k rt0 = r at *
      obtain ⟨f, l, o, kc⟩ := r
      simp only at x0 x1 x2 hln
      generalize hcl0 : catL (Rs.take k) = A at *
      have hsum : A.length + l.length ≤ 1000000 := by
        have : (Rs.take k).length * 10000 ≤ 16 * 10000 := Nat.mul_le_mul_right _ hlk
        omega
      have HN := Lib.hid (show ∀ x, NsAt (wr.alloc x) o l from fun x => x2.below ((Below.refl _ _).alloc (Nat.le_refl _) x))
      have HOA := Lib.hid (show ∀ x, (wr.alloc x).ownsRow w.heap.size 3 1 (.slice a3 A.length c3) A.length (nsL A) from fun x => HO.out.alloc x)
      have HBA := Lib.hid (show ∀ x, Below w.heap.size w (wr.alloc x) from fun x => HB.out.alloc HB.out.size x)
      clear x2 hcl hlk HTA HO HB
      go_wp2_with (refine wpList_append_nums rfl _ _ 25 rfl w.heap.size i0 z0 Try.underlying25 hi0 hz0 h01 h02 h03 _ _ _ rfl (HOA.out _) o kc l rfl (HN.out _) hsum (HBA.out _).size ?_; intro v' wN hown hg; obtain ⟨ao', cap', rfl⟩ := own_shape16 hown; have HBN := Lib.hid ((HBA.out _).grown hg (HBA.out _).size (fun q hq => ((HOA.out (.cells #[.string (S f), .slice o l.length kc] 41)).lt q hq).1)); rw [← nsL_append] at hown; have HON := Lib.hid hown; clear hown hg)
      have hk16 : k < 16 := by omega
      go_roundw
      case rel => exact ⟨k + 1, ao', cap', by omega, by go_num, by rw [HS.out, List.length_append], Lib.hid (by rw [HS.out, List.length_append]; exact HON.out), HBN⟩
      case measure => simp [intOf]; omega
    · obtain rfl : k = Rs.length := by omega
      rw [List.take_length] at HO ⊢
      have hcl := catL_len (Rs := Rs) (m := 10000) (fun r hr => HL.out r hr)
      have hsum : (catL Rs).length ≤ 1000000 := by
        have : Rs.length * 10000 ≤ 16 * 10000 := Nat.mul_le_mul_right _ hn
        omega
      clear hcl
      obtain ⟨A, hAe⟩ : ∃ A, A = catL Rs := ⟨_, rfl⟩
      rw [← hAe] at HO hsum ⊢
      have HE := Lib.hid hAe
      clear hAe
      by_cases hA : A = []
      · subst hA
        have HZ := Lib.hid (show Lib.compact (sortI (catL Rs)) = [] from by
          rw [← HE.out]
          have := Lib.compact_length_le (sortI [])
          exact List.eq_nil_of_length_eq_zero (by simpa [sortI] using this))
        have C1 := Lib.hid (Try.slices_Sort_int_none a3 c3 wr)
        have C2 := Lib.hid (Try.slices_Compact_int_empty a3 c3 wr)
        go_wp2_with fail
        with_reducible refine (C1.out).mono ?_
        rintro e w4 ⟨rfl, rfl⟩
        go_wp2_with fail
        with_reducible refine (C2.out).mono ?_
        rintro e w5 ⟨rfl, rfl⟩
        go_wp2_with fail
        go_ret
        exact ⟨a3, c3, by rw [HZ.out]; rfl, by rw [HZ.out]; exact HO.out, HB.out⟩
      · obtain ⟨g, rfl, hg, _⟩ := own_cell16 (List.length_pos_iff.2 hA) HO.out
        have hls : (sortI A).length = A.length := List.length_mergeSort A
        have C1 := Lib.hid (sortOwn16 A hsum g c3 wr HO.out)
        go_wp2_with fail
        with_reducible refine (C1.out).mono ?_
        rintro e w4 ⟨rfl, hown, hgr⟩
        have HB4 := Lib.hid (HB.out.grown hgr HB.out.size (fun q hq => by cases hq; exact hg))
        rw [← hls] at hown
        have C2 := Lib.hid (compactOwn16 (sortI A) (by omega) g c3 w4 hown)
        rw [hls] at C2
        clear C1 hown hgr HB HO
        go_wp2_with fail
        with_reducible refine (C2.out).mono ?_
        rintro e w5 ⟨rfl, hown5, hb5⟩
        have HB5 := Lib.hid (hb5 _ _ HB4.out hg)
        have HN5 := Lib.hid hown5
        clear hown5 hb5 C2 HB4
        go_wp2_with fail
        go_ret
        exact ⟨some ⟨g, 0, none⟩, c3, by rw [← HE.out]; rfl, by rw [← HE.out]; exact HN5.out, HB5.out⟩

end Go.Proofs.Ytfcmjgcjmldpcaa
