/- Layer 7: All, by a contract. -/
import Derived.Test.YtggflkjdpibioaaNetsT
import Derived.Laws.AppendOwn
namespace Go.Proofs.Ytggflkjdpibioaa
set_option linter.unusedVariables false
open Go Go.RowKit

/-- A message's cells; those of many, one behind the other. -/
def mlC (m : Ml) : List Value := [.int .i64 m.src, .int .i64 m.dst, .string (S m.dat)]
def mls (L : List Ml) : List Value := L.flatMap mlC
theorem mls_length (L : List Ml) : (mls L).length = L.length * 3 := by
  induction L with
  | nil => rfl
  | cons m t ih => simp only [mls, List.flatMap_cons, List.length_append, List.length_cons] at *; rw [ih]; simp [mlC]; omega
theorem mls_append (a b : List Ml) : mls (a ++ b) = mls a ++ mls b := by simp [mls]
theorem mls_one (m : Ml) : mls [m] = mlC m := by simp [mls]
theorem infoMl : (Try.prog.info? 31).map (fun i => (i.zero.map (fun z => z.cells.size), i.size, i.bytes)) = some (some 3, 3, 32) := by kernel_rfl
theorem ownsRow_below {B sz : Nat} {e : TypeId} {v : Value} {n : Nat} {xs : List Value} {w w' : World} (h : w.ownsRow B e sz v n xs) (hb : Below w.heap.size w w') : w'.ownsRow B e sz v n xs := by
  refine ⟨h.1, ?_⟩
  rcases h.2 with hc | ⟨g, cap, cur, rfl, hBg, hgg, rest⟩
  · exact .inl hc
  · exact .inr ⟨g, cap, cur, rfl, hBg, by rw [hb.block g (Array.getElem?_eq_some_iff.1 hgg).1]; exact hgg, rest⟩
theorem infoMl_parts : ∃ (i0 : TypeInfo) (z : Value), Try.prog.info? 31 = some i0 ∧ i0.zero = some z ∧ i0.size = 3 ∧ i0.bytes = 32 ∧ z.cells.size = 3 := by
  have h := infoMl
  cases hi : Try.prog.info? 31 with
  | none => rw [hi] at h; cases h
  | some i0 =>
    rw [hi] at h
    cases hz : i0.zero with
    | none => simp [hz] at h
    | some z => 
      simp [hz] at h
      exact ⟨i0, z, rfl, hz, h.2.1, h.2.2, h.1⟩
theorem ml_new (w : World) (m : Ml) (T : TypeId) : ∀ j u, (mlC m)[j]? = some u → (w.alloc (.cells #[.int .i64 m.src, .int .i64 m.dst, .string (S m.dat)] T)).cell? ((⟨w.heap.size, 0, none⟩ : Addr).add j) = some u := by
  intro j u h
  have hadd : (⟨w.heap.size, 0, none⟩ : Addr).add j = ⟨w.heap.size, j, none⟩ := by unfold Addr.add; split <;> simp_all
  rw [hadd, (show BlkIn _ T _ w.heap.size from heap_alloc_new w _).cell j]
  simpa [mlC] using h

def rowLen : Value → Nat
  | .slice _ n _ => n
  | _ => 0
theorem map_take_succ (us : List Nat) (ml : Nat → Ml) (k : Nat) (hk : k < us.length) : (us.map ml).take (k + 1) = (us.map ml).take k ++ [ml (us.getD k 0)] := by
  rw [List.take_add_one]
  simp [List.getD, List.getElem?_eq_getElem hk]
set_option maxHeartbeats 1000000 in
theorem netAll_any {w : World} {b : Nat} {L : List Ml} (h : NetIn w b L) :
    Calls Try.prog 14 #[.pointer (some ⟨b, 0, none⟩)] w fun e w' => ∃ v, e = .returned v ∧ w'.ownsRow w.heap.size 31 3 v L.length (mls L) ∧ Below w.heap.size w w' := by
  obtain ⟨i0, z0, hi, hz0, hz1, hz2, hz3⟩ := infoMl_parts
  obtain ⟨nx, ml, us, fs, hN, hS, rfl⟩ := h
  have C1 := Lib.hid (netNone_any hN)
  have c2 := hN.nxt (p := 64) (by omega)
  have HN := Lib.hid hN
  have HS := Lib.hid hS
  have hall := hS.all
  rw [show cel 64 = 256 from rfl] at c2
  clear hN hS
  go_enter Try.func14, Try.ntmps14
  go_wp2_with fail
  with_reducible refine (C1.out).mono ?_
  rintro e w1 ⟨rfl, rfl⟩
  go_wp2_with fail
  have h0 := HS.out.used.link (Nat.zero_le _)
  go_loopw [3, 4] (fun v i wr => ∃ (k : Nat) (ao : Option Addr) (cv : Nat), k ≤ us.length ∧ v = .slice ao k cv ∧ i = .int .i64 (nx (node 64 us k)) ∧ wr.ownsRow w.heap.size 31 3 v k (mls ((us.map ml).take k)) ∧ Below w.heap.size w wr) (fun v _ _ => us.length - rowLen v)
  case atStart => exact ⟨0, none, 0, by omega, rfl, rfl, World.ownsRow_nil _ _ _ _, Below.refl _ _⟩
  case round =>
    rename_i wr
    obtain ⟨k, ao, cv, hk, rfl, rfl, hown, hB⟩ := hrel
    have hl := HS.out.used.link hk
    have HNr := Lib.hid (HN.out.below hB)
    have HB := Lib.hid hB
    have hbs := hB.size
    have HO := Lib.hid hown
    clear hB hown h0
    by_cases hlt : k < us.length
    · rw [if_pos hlt] at hl
      rw [hl]
      have hu := HS.out.get_lt k hlt
      have hl2 := HS.out.used.link (show k + 1 ≤ us.length from hlt)
      have en : cel (us.getD k 0) = us.getD k 0 * 4 + 3 := by unfold cel; exact if_pos hu
      have MT := Lib.hid (map_take_succ us ml k hlt)
      have NN := Lib.hid (show node 64 us (k + 1) = us.getD k 0 from rfl)
      clear hl hl2
      generalize us.getD k 0 = u at *
      have q0 := HNr.out.src hu
      have q1 := HNr.out.dst hu
      have q2 := HNr.out.dat hu
      have q3 := HNr.out.nxt (p := u) (by omega)
      rw [en] at q3
      have Q3 := Lib.hid q3
      generalize hm : ml u = m at *
      have g1 : (0 : Int) ≤ (u : Int) := by omega
      have g2 : (u : Int) < 64 := by omega
      have d1 : ((u : Int) == -1) = false := by rw [beq_eq_false_iff_ne]; omega
      have hlt0 := HN.out.lt
      clear q3 en hm
      go_wp2_with (at_builtin; go_loud (refine wpList_append_own _ rfl _ _ 27 rfl w.heap.size 31 i0 z0 3 32 Try.underlying27 hi hz0 hz1 hz2 hz3 (by decide) (.slice ao k cv) k (mls ((us.map ml).take k)) rfl (HO.out.alloc _) ⟨wr.heap.size, 0, none⟩ 1 1 (mlC m) rfl rfl (ml_new _ _ _) (fun x hx => by simp [mlC] at hx; rcases hx with rfl | rfl | rfl <;> rfl) (by unfold maxLen; omega) (by omega) (by simp; omega) ?_; intro v' w3 hown' hgrow3 hnil3; have r3 := hgrow3.cell ((((Below.refl wr.heap.size wr).alloc (Nat.le_refl _) _).cell (block_lt_of_cell Q3.out)).trans Q3.out) (by intro h; have := (HO.out.lt _ h.symm).1; simp at this; omega)))
      go_roundw
      case rel =>
        obtain ⟨g3, cap3, hv3⟩ : ∃ g3 cap3, v' = .slice (some ⟨g3, 0, none⟩) (k + 1) cap3 := by
          rcases hown'.2 with ⟨_, h⟩ | ⟨g3, cap3, _, h, _⟩
          · omega
          · exact ⟨g3, cap3, h⟩
        refine ⟨k + 1, some ⟨g3, 0, none⟩, cap3, hlt, hv3, by rw [NN.out], ?_, (HB.out.alloc hbs _).grown hgrow3 (by simp; omega) (fun q hq => (HO.out.lt q hq).1)⟩
        rw [MT.out, mls_append, mls_one]
        exact hown'
      case measure =>
        rcases hown'.2 with ⟨_, h⟩ | ⟨g3, cap3, _, h, _⟩
        · omega
        · rw [h]; simp [rowLen]; omega
    · obtain rfl : k = us.length := by omega
      rw [if_neg hlt] at hl
      rw [hl]
      go_wp2_with fail
      go_ret
      refine ⟨_, rfl, ?_, HB.out⟩
      have h := HO.out
      rw [List.take_of_length_le (by simp)] at h
      simpa using h

end Go.Proofs.Ytggflkjdpibioaa
