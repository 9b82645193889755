/- Layer 5: Names, Unsynced. -/
import Derived.Test.YtekmnpmeienhhaaDiskK
namespace Go.Proofs.Ytekmnpmeienhhaa
set_option linter.unusedVariables false
open Go Go.RowKit Go.Maps

/-- A new row of texts, of numbers. -/
def RowT (l : List (List UInt8)) (w : World) (e : Ending) (w' : World) : Prop := ∃ ao cap, e = .returned (.slice ao l.length cap) ∧ w'.ownsRow w.heap.size 9 1 (.slice ao l.length cap) l.length (txs5 l) ∧ Below w.heap.size w w'
def ints5 (l : List Int) : List Value := l.map (Value.int .i64)
def RowN (l : List Int) (w : World) (e : Ending) (w' : World) : Prop := ∃ ao cap, e = .returned (.slice ao l.length cap) ∧ w'.ownsRow w.heap.size 3 1 (.slice ao l.length cap) l.length (ints5 l) ∧ Below w.heap.size w w'
section
variable {B d mb : Nat} {V : List UInt8 → Value} {sv : Value} {c : Cs} {D : Dk.St} {w : World} {F : Nat → Prop}
theorem DkAt.ok (h : DkAt B F d D w) : Dk.Ok D := h.1
set_option maxRecDepth 100000 in
theorem names5 (h : DkAt B F d D w) : Calls Try.prog 27 #[.pointer (some ⟨d, 0, none⟩)] w (RowT (Dk.names D.L) w) := by
  have C := Lib.hid (none5 h)
  have HO := Lib.hid h.ok
  obtain ⟨mb, V, sv, c, hI⟩ := h.in
  have c2 : w.cell? ⟨d, 2, none⟩ = some (.map (some mb)) := hI.box.cell 2
  have CK := Lib.hid (keys_any5 (some mb) w)
  have CS := Lib.hid (sorted_any5 mb D.L.length (datM V D.L) heldR w hI.map (by rw [datM_size]; have := h.ok.few; omega))
  clear hI h
  go_enter Try.func27, Try.ntmps27
  go_wp2_with fail
  with_reducible refine C.out.mono ?_
  rintro e w1 ⟨rfl, rfl⟩
  go_wp2_with fail
  with_reducible refine CK.out.mono ?_
  rintro e w2 ⟨rfl, rfl⟩
  go_wp2_with fail
  with_reducible refine CS.out.mono ?_
  rintro e w3 ⟨v, ss, rfl, hp, hr, hb⟩
  have hss : ss.mergeSort (fun x y => decide (x ≤ y)) = Dk.names D.L := by
    rw [strKeys_datM] at hp
    rw [mergeSort_of_perm hp, Dk.names_sorted HO.out.l]
  have hlen : ss.length = (Dk.names D.L).length := by rw [← hss, List.length_mergeSort]
  rw [hss, hlen] at hr
  have hr1 : w3.ownsRow w.heap.size 9 1 v (Dk.names D.L).length (txs5 (Dk.names D.L)) := row_base5 hr (Nat.le_succ _)
  obtain ⟨ao, ac, rfl⟩ := row_shape5 hr1
  have HR := Lib.hid hr1
  have HB := Lib.hid (show Below w.heap.size w w3 from ((Below.refl w.heap.size w).alloc (Nat.le_refl _) _).trans (hb.mono (Nat.le_succ _)))
  clear hss hlen hr hr1 hb hp
  go_wp2_with fail
  go_ret
  exact ⟨ao, ac, rfl, HR.out, HB.out⟩
end
/-- A row's cell. -/
theorem row_at5 {B : Nat} {e : TypeId} {ao : Option Addr} {n cap : Nat} {xs : List Value} {w : World} (h : w.ownsRow B e 1 (.slice ao n cap) n xs) {k : Nat} (hk : k < n) : ∃ g, ao = some ⟨g, 0, none⟩ ∧ B ≤ g ∧ g < w.heap.size ∧ w.cell? ⟨g, k, none⟩ = xs[k]? := by
  have hl : xs.length = n := by simpa using h.1
  rcases h.2 with ⟨e1, e2⟩ | ⟨g, cap', cur, e1, hB, hg, _⟩
  · omega
  · injection e1 with q1 q2 q3
    subst q1
    refine ⟨g, rfl, hB, (h.lt g rfl).2, ?_⟩
    have := h.cells (g := g) rfl k xs[k] (List.getElem?_eq_getElem (by omega))
    rw [List.getElem?_eq_getElem (by omega)]
    rw [Addr.add_lit, Nat.zero_add] at this
    exact this
theorem take_snoc5 {α : Type} (l : List α) (k : Nat) (h : k < l.length) : l.take (k + 1) = l.take k ++ [l[k]] := by
  rw [List.take_succ_eq_append_getElem h]
theorem ints5_app (a b : List Int) : ints5 (a ++ b) = ints5 a ++ ints5 b := by simp [ints5]
theorem cell_one5 (w : World) (o : Obj) (x : Value) (t : TypeId) : ∀ j u, [x][j]? = some u → ((w.alloc o).alloc (.cells #[x] t)).cell? ((⟨w.heap.size + 1, 0, none⟩ : Addr).add j) = some u := by
  have := cell_one_new (w.alloc o) x t
  rw [sz5] at this
  exact this
theorem infoInt5 : (Try.prog.info? 3).map (fun i => (i.zero, i.size, i.bytes)) = some (some (.int .i64 0), 1, 8) := by kernel_rfl
section
variable {B d mb : Nat} {V : List UInt8 → Value} {sv : Value} {c : Cs} {D : Dk.St} {w : World} {F : Nat → Prop}
/-- The file at a place. -/
theorem Dk.at5 {L : List Dk.Fl} (h : Dk.OkL L) {k : Nat} (hk : k < L.length) : Dk.get (L[k]).name L = L[k] ∧ Dk.has (L[k]).name L = true ∧ (L[k]).name.length ≤ 16 := by
  have hm := List.getElem_mem hk
  refine ⟨Dk.get_of h.ne hm, Dk.has_iff.2 ⟨_, hm, rfl⟩, ?_⟩
  have := h.named _ hm
  unfold Dk.named at this
  simp at this
  omega
set_option maxRecDepth 100000 in
set_option maxHeartbeats 1000000 in
theorem unsynced5 (h : DkAt B F d D w) : Calls Try.prog 28 #[.pointer (some ⟨d, 0, none⟩)] w (RowN (Dk.unsynced D.L) w) := by
  have C := Lib.hid (names5 h)
  obtain ⟨j0, hj, hy0, hy1, hy2⟩ := info_parts infoInt5
  have HO := Lib.hid h.ok.l
  have HF := Lib.hid h.ok.few
  obtain ⟨mb, V, sv, c, hI⟩ := h.in
  have HI := Lib.hid hI
  have HN := Lib.hid (show (Dk.names D.L).length = D.L.length from by simp [Dk.names])
  have HU := Lib.hid (show (Dk.unsynced D.L).length = D.L.length from by simp [Dk.unsynced])
  have HS := Lib.hid (fun f hf => h.ok.l.safe f hf)
  have HZ := Lib.hid (fun f (hf : f ∈ D.L) => Nat.le_trans (Dk.mem_size h.ok.l hf) (Nat.le_trans h.ok.room h.ok.most))
  clear hI h
  go_enter Try.func28, Try.ntmps28
  go_wp2_with fail
  with_reducible refine C.out.mono ?_
  rintro e w1 ⟨ao, ac, rfl, hr, hb⟩
  have HR := Lib.hid hr
  have HB := Lib.hid hb
  have HI1 := Lib.hid (HI.out.below hb)
  clear hr hb C
  rw [HN.out]
  go_wp2_with fail
  go_loopw [3, 10] (fun v i wr => ∃ (k : Nat) (bo : Option Addr) (bc : Nat), k ≤ D.L.length ∧ i = .int .i64 k ∧ v = .slice bo k bc ∧ Hid (wr.ownsRow w1.heap.size 3 1 (.slice bo k bc) k (ints5 ((Dk.unsynced D.L).take k)) ∧ Below w1.heap.size w1 wr)) (fun _ i _ => D.L.length - (intOf i).toNat)
  case atStart => exact ⟨0, none, 0, Nat.zero_le _, rfl, rfl, Lib.hid ⟨World.ownsRow_nil _ _ _ _, Below.refl _ _⟩⟩
  case round =>
    rename_i wr
    obtain ⟨k, bo, bc, hk, rfl, rfl, HH⟩ := hrel
    have HFk := HF.out
    by_cases hlt : k < D.L.length
    · have d1 : decide (k < D.L.length) = true := by simpa using hlt
      obtain ⟨q1, q2, q3⟩ := Dk.at5 HO.out hlt
      have hm := List.getElem_mem hlt
      have hs := HS.out _ hm
      have hz := HZ.out _ hm
      have HI2 := HI1.out.below HH.out.2
      have hR2 := row_below5 HR.out HH.out.2
      rw [HN.out] at hR2
      obtain ⟨g, rfl, _, _, hcg⟩ := row_at5 hR2 hlt
      have hnk : (txs5 (Dk.names D.L))[k]? = some (.string (S (D.L[k]).name)) := by simp [txs5, Dk.names, hlt]
      rw [hnk] at hcg
      have c2 : wr.cell? ⟨d, 2, none⟩ = some (.map (some mb)) := HI2.box.cell 2
      have HM := Lib.hid HI2.map
      have HNL := Lib.hid (show (D.L[k]).name.length ≤ 140737488351232 from by omega)
      obtain ⟨fo, fc, hv⟩ := row_shape5 (HI2.vrow (D.L[k]).name)
      have HTK := Lib.hid (show ints5 ((Dk.unsynced D.L).take (k + 1)) = ints5 ((Dk.unsynced D.L).take k) ++ [.int .i64 ((D.L[k].dat.length : Int) - (D.L[k].safe : Int))] from by
        rw [take_snoc5 _ k (by rw [HU.out]; exact hlt), ints5_app]
        simp [ints5, Dk.unsynced])
      rw [q1] at hv
      have HV := Lib.hid hv
      have HQ1 := Lib.hid q1
      clear HI2 hR2 hnk q1 q2 q3 hv hm
      generalize D.L[k] = f at *
      have hs2 : (f.safe : Int) ≤ f.dat.length := by omega
      go_wp2_with (first
        | (at_lookup; refine wpList_look5 _ rfl _ _ rfl rfl rfl HM.out HNL.out _ HV.out ?_; rw [HQ1.out])
        | (at_builtin; refine wpList_append_own _ rfl _ _ 32 rfl w1.heap.size 3 j0 (.int .i64 0) 1 8 Try.underlying32 hj hy0 hy1 hy2 rfl (by decide) (.slice bo k bc) k _ rfl ((HH.out.1.alloc _).alloc _) ⟨wr.heap.size + 1, 0, none⟩ 1 1 [.int .i64 ((f.dat.length : Int) - (f.safe : Int))] rfl rfl (cell_one5 _ _ _ _) (by simp [Value.oneCell']) (by unfold maxLen; omega) (by omega) (by have := HH.out.2.size; simp; omega) ?_; intro v8 w8 ho8 hg8 hn8; obtain ⟨a8, c8, rfl⟩ := row_shape5 ho8; have HO8 := Lib.hid (show w8.ownsRow w1.heap.size 3 1 (.slice a8 (k + 1) c8) (k + 1) (ints5 ((Dk.unsynced D.L).take (k + 1))) ∧ Below w1.heap.size w1 w8 from ⟨by rw [HTK.out]; exact ho8, ((HH.out.2.alloc HH.out.2.size _).alloc (by have := HH.out.2.size; simp; omega) _).grown hg8 (by have := HH.out.2.size; simp; omega) (fun q hq => (HH.out.1.lt q hq).1)⟩); clear ho8 hg8 hn8))
      go_roundw
      case rel => exact ⟨k + 1, a8, c8, by omega, by go_num, rfl, HO8⟩
      case measure => simp [intOf]; omega
    · have d1 : decide (k < D.L.length) = false := by simpa using hlt
      obtain rfl : k = D.L.length := by omega
      have HFIN := Lib.hid (show (Dk.unsynced D.L).take D.L.length = Dk.unsynced D.L from by rw [← HU.out, List.take_length])
      go_wp2_with fail
      go_ret
      refine ⟨bo, bc, by rw [HU.out]; rfl, ?_, below_step HB.out (HH.out.2)⟩
      have := HH.out.1
      rw [HFIN.out] at this
      rw [HU.out]
      exact row_base5 this HB.out.size
end

end Go.Proofs.Ytekmnpmeienhhaa
