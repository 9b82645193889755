/- Layer 7: Take, by a contract. -/
import Derived.Test.YtggflkjdpibioaaNetsT
namespace Go.Proofs.Ytggflkjdpibioaa
set_option linter.unusedVariables false
open Go Go.RowKit

theorem blk_new_set (C : Array Value) (T : TypeId) (w : World) (a : Addr) (v : Value) : BlkIn C T ((w.setCell a v).alloc (.cells C T)) w.heap.size := by
  have h := heap_alloc_new (w.setCell a v) (.cells C T)
  rw [show (w.setCell a v).heap.size = w.heap.size from by simp [World.setCell]] at h
  exact h
theorem Slots.node_ne65 {nx : Nat → Int} {us fs : List Nat} (hs : Slots nx us fs) (j : Nat) (hj : j ≤ us.length) : node 64 us j ≠ 65 := by
  rcases node_mem 64 us j hj with q | q
  · omega
  · have := hs.parts.2.2.2.1 _ q; omega
theorem node_ne_of {a : Nat} : ∀ {us : List Nat} {j : Nat}, a ∉ us → us.Nodup → j < us.length → node a us j ≠ us.getD j 0
  | u :: t, 0, h, hn, _ => by
    simp only [List.mem_cons, not_or] at h
    exact h.1
  | u :: t, j + 1, h, hn, hj => by
    rw [node_cons]
    rw [List.nodup_cons] at hn
    exact node_ne_of hn.1 hn.2 (by simpa using hj)
theorem Slots.node_ne {nx : Nat → Int} {us fs : List Nat} (hs : Slots nx us fs) (j : Nat) (hj : j < us.length) : node 64 us j ≠ us.getD j 0 :=
  node_ne_of (fun h => by have := hs.parts.2.2.2.1 _ h; omega) hs.parts.1 hj

theorem netTake_no {w : World} {b : Nat} {L : List Ml} (h : NetIn w b L) (i : Int) (hi : ¬ (0 ≤ i ∧ i < L.length)) :
    Calls Try.prog 20 #[.pointer (some ⟨b, 0, none⟩), .int .i64 i] w fun e w' => e = .returned (.tuple #[mlV ml0, .bool false]) ∧ Below w.heap.size w w' := by
  obtain ⟨nx, ml, us, fs, hN, hS, rfl⟩ := h
  simp only [List.length_map] at hi
  have cH := fun (W : World) (hW : NetS W b nx ml us.length) => netHas_any hW i
  simp only [hi, decide_false] at cH
  have CH := Lib.hid cH
  have HN := Lib.hid hN
  clear hN hS cH
  go_enter Try.func20, Try.ntmps20
  go_wp2_with fail
  have hN1 := HN.out.more (.cells #[.int .i64 0, .int .i64 0, .string ⟨#[]⟩] 31)
  have hX1 : BlkIn #[.int .i64 ml0.src, .int .i64 ml0.dst, .string (S ml0.dat)] 31 (w.alloc (.cells #[.int .i64 0, .int .i64 0, .string ⟨#[]⟩] 31)) w.heap.size := heap_alloc_new w _
  have hb1 := (Below.refl w.heap.size w).alloc (Nat.le_refl _) (.cells #[.int .i64 0, .int .i64 0, .string ⟨#[]⟩] 31)
  generalize (w.alloc (.cells #[.int .i64 0, .int .i64 0, .string ⟨#[]⟩] 31)) = W1 at *
  have hf : ∀ j, W1.frozen? ⟨w.heap.size, j, none⟩ = false := fun j => hX1.free j
  have x0 : W1.cell? ⟨w.heap.size, 0, none⟩ = some (.int .i64 0) := hX1.cell 0
  have x1 : W1.cell? ⟨w.heap.size, 1, none⟩ = some (.int .i64 0) := hX1.cell 1
  have x2 : W1.cell? ⟨w.heap.size, 2, none⟩ = some (.string ⟨#[]⟩) := hX1.cell 2
  have HX1 := Lib.hid hX1
  have HB1 := Lib.hid hb1
  with_reducible refine (CH.out _ hN1).mono ?_
  rintro e w2 ⟨rfl, rfl⟩
  clear hX1 hb1 hN1
  go_wp2_with fail
  refine bodyPost_ret (ret_ml2 rfl _ _ w.heap.size ml0 rfl (blk_row3 ml0 HX1.out)) rfl ⟨rfl, ((HB1.out.setCell (Nat.le_refl _) _).setCell (Nat.le_refl _) _).setCell (Nat.le_refl _) _⟩
set_option maxHeartbeats 2000000 in
theorem netTake_yes {w : World} {b : Nat} {L : List Ml} (h : NetIn w b L) (i : Nat) (hi : i < L.length) :
    Calls Try.prog 20 #[.pointer (some ⟨b, 0, none⟩), .int .i64 i] w fun e w' => e = .returned (.tuple #[mlV (L.getD i ml0), .bool true]) ∧ NetIn w' b (L.take i ++ L.drop (i + 1)) ∧ Only b w w' := by
  obtain ⟨nx, ml, us, fs, hN, hS, rfl⟩ := h
  simp only [List.length_map] at hi
  have cH := fun (W : World) (hW : NetS W b nx ml us.length) => netHas_any hW i
  rw [show decide (0 ≤ (i : Int) ∧ (i : Int) < (us.length : Int)) = true from by simp; omega] at cH
  have cL := fun (W : World) (hW : NetS W b nx ml us.length) => netLink_any hW hS i (by omega)
  have CL := Lib.hid cL
  have CH := Lib.hid cH
  have hu := hS.used.link (show i ≤ us.length by omega)
  rw [if_pos hi] at hu
  have HU := Lib.hid hu
  have HP := Lib.hid (hS.node_lt i (by omega))
  have HV := Lib.hid (hS.get_lt i hi)
  have hfin := fun (W : World) hW => netIn_erase (w := W) (b := b) (ml := ml) hS hi hW
  have HF := Lib.hid hfin
  have hall := hS.all
  have hpu : node 64 us i ≠ us.getD i 0 := hS.node_ne i hi
  have hp65 : node 64 us i ≠ 65 := hS.node_ne65 i (by omega)
  rw [show (us.map ml).getD i ml0 = ml (us.getD i 0) from by simp [List.getD, List.getElem?_eq_getElem hi]]
  generalize us.getD i 0 = u at *
  generalize hm : ml u = m
  have HM := Lib.hid hm
  have HN := Lib.hid hN
  have g1 : (0 : Int) ≤ (u : Int) := by omega
  have g2 : (u : Int) < 64 := by have := HV.out; omega
  have cv : cel u = u * 4 + 3 := by unfold cel; exact if_pos HV.out
  generalize hcp : cel (node 64 us i) = cp at *
  generalize node 64 us i = p at *
  have HCP := Lib.hid hcp
  clear hN hS cH cL hu hm hfin hcp
  go_enter Try.func20, Try.ntmps20
  go_wp2_with fail
  have hN1 := HN.out.more (.cells #[.int .i64 0, .int .i64 0, .string ⟨#[]⟩] 31)
  have hX1 : BlkIn #[.int .i64 ml0.src, .int .i64 ml0.dst, .string (S ml0.dat)] 31 (w.alloc (.cells #[.int .i64 0, .int .i64 0, .string ⟨#[]⟩] 31)) w.heap.size := heap_alloc_new w _
  have hb1 := (Below.refl w.heap.size w).alloc (Nat.le_refl _) (.cells #[.int .i64 0, .int .i64 0, .string ⟨#[]⟩] 31)
  generalize (w.alloc (.cells #[.int .i64 0, .int .i64 0, .string ⟨#[]⟩] 31)) = W1 at *
  have HX1 := Lib.hid hX1
  have HN1 := Lib.hid hN1
  have HB1 := Lib.hid hb1
  with_reducible refine (CH.out _ hN1).mono ?_
  rintro e w2 ⟨rfl, rfl⟩
  clear hX1 hb1 hN1
  go_wp2_with fail
  with_reducible refine (CL.out _ HN1.out).mono ?_
  rintro e w2 ⟨rfl, hb2⟩
  have hN2 := HN1.out.below hb2
  have HX2 := Lib.hid (HX1.out.below hb2)
  have HB2 := Lib.hid (below_step HB1.out hb2)
  have hlt2 := hN2.lt
  have hne : ¬ b = w2.heap.size := by omega
  have hlt0 := HN.out.lt
  have hne1 : ¬ b = w.heap.size := by omega
  have hlt3 := HX2.out.lt
  have hne2 : ¬ w.heap.size = w2.heap.size := by omega
  have z0 := hN2.nxt HP.out
  rw [HCP.out, HU.out] at z0
  have z1 := hN2.src HV.out
  have z2 := hN2.dst HV.out
  have z3 := hN2.dat HV.out
  rw [HM.out] at z1 z2 z3
  have q0 : ∀ o, (w2.alloc o).cell? ⟨b, cp, none⟩ = some (.int .i64 u) := fun o => by rw [← HCP.out, ← HU.out]; exact (hN2.more o).nxt HP.out
  have q1 : ∀ o, (w2.alloc o).cell? ⟨b, u * 4, none⟩ = some (.int .i64 m.src) := fun o => by rw [← HM.out]; exact (hN2.more o).src HV.out
  have q2 : ∀ o, (w2.alloc o).cell? ⟨b, u * 4 + 1, none⟩ = some (.int .i64 m.dst) := fun o => by rw [← HM.out]; exact (hN2.more o).dst HV.out
  have q3 : ∀ o, (w2.alloc o).cell? ⟨b, u * 4 + 2, none⟩ = some (.string (S m.dat)) := fun o => by rw [← HM.out]; exact (hN2.more o).dat HV.out
  have q4 : ∀ o, (w2.alloc o).cell? ⟨b, u * 4 + 3, none⟩ = some (.int .i64 (nx u)) := fun o => by rw [← cv]; exact (hN2.more o).nxt (by have := HV.out; omega)
  have qf : ∀ o j, (w2.alloc o).frozen? ⟨b, j, none⟩ = false := fun o j => (hN2.more o).free j
  have HN2 := Lib.hid hN2
  clear hb2 hN2
  go_wp2_with fail
  have hN3 := (HN2.out.setNext HP.out (nx u)).more (.cells #[.int .i64 m.src, .int .i64 m.dst, .string (S m.dat)] 31)
  rw [HCP.out] at hN3
  have hX3 : BlkIn #[.int .i64 m.src, .int .i64 m.dst, .string (S m.dat)] 31 ((w2.setCell ⟨b, cp, none⟩ (.int .i64 (nx u))).alloc (.cells #[.int .i64 m.src, .int .i64 m.dst, .string (S m.dat)] 31)) w2.heap.size := blk_new_set _ _ _ _ _
  have hR3 : BlkIn #[.int .i64 ml0.src, .int .i64 ml0.dst, .string (S ml0.dat)] 31 ((w2.setCell ⟨b, cp, none⟩ (.int .i64 (nx u))).alloc (.cells #[.int .i64 m.src, .int .i64 m.dst, .string (S m.dat)] 31)) w.heap.size := (HX2.out.other (by omega) _ _).more _
  have hO3 := (((Only.ofBelow (b := b) HB2.out).setCell (p := ⟨b, cp, none⟩) (.inl rfl) (.int .i64 (nx u))).alloc (.cells #[.int .i64 m.src, .int .i64 m.dst, .string (S m.dat)] 31))
  generalize ((w2.setCell ⟨b, cp, none⟩ (.int .i64 (nx u))).alloc (.cells #[.int .i64 m.src, .int .i64 m.dst, .string (S m.dat)] 31)) = W3 at *
  clear q0 q1 q2 q3 q4 qf z0 z1 z2 z3
  have q0 := hN3.nxt (p := 65) (by omega)
  rw [upd_ne _ _ (Ne.symm hp65), show cel 65 = 257 from rfl] at q0
  have q1 := hN3.src HV.out
  have q2 := hN3.dst HV.out
  have q3 := hN3.dat HV.out
  have q4 := hN3.nxt (p := u) (by have := HV.out; omega)
  rw [upd_ne _ _ (Ne.symm hpu), cv] at q4
  have qf : ∀ j, W3.frozen? ⟨b, j, none⟩ = false := fun j => hN3.free j
  have HN3 := Lib.hid hN3
  have HX3 := Lib.hid hX3
  have HR3 := Lib.hid hR3
  have HO3 := Lib.hid hO3
  clear hN3 hX3 hR3 hO3
  go_region
  have hN4 := (HN3.out.setRow HV.out ml0 (nx 65)).drew
  have hX4 := ((((HX3.out.other (Ne.symm hne) (u * 4) (.int .i64 ml0.src)).other (Ne.symm hne) (u * 4 + 1) (.int .i64 ml0.dst)).other (Ne.symm hne) (u * 4 + 2) (.string (S ml0.dat))).other (Ne.symm hne) (u * 4 + 3) (.int .i64 (nx 65))).drew
  have hR4 := ((((HR3.out.other (Ne.symm hne1) (u * 4) (.int .i64 ml0.src)).other (Ne.symm hne1) (u * 4 + 1) (.int .i64 ml0.dst)).other (Ne.symm hne1) (u * 4 + 2) (.string (S ml0.dat))).other (Ne.symm hne1) (u * 4 + 3) (.int .i64 (nx 65))).drew
  have hO4 := ((((HO3.out.setCell (p := ⟨b, u * 4, none⟩) (.inl rfl) (.int .i64 ml0.src)).setCell (p := ⟨b, u * 4 + 1, none⟩) (.inl rfl) (.int .i64 ml0.dst)).setCell (p := ⟨b, u * 4 + 2, none⟩) (.inl rfl) (.string (S ml0.dat))).setCell (p := ⟨b, u * 4 + 3, none⟩) (.inl rfl) (.int .i64 (nx 65))).drew
  change NetS ((((W3.setCell ⟨b, u * 4, none⟩ (.int .i64 0)).setCell ⟨b, u * 4 + 1, none⟩ (.int .i64 0)).setCell ⟨b, u * 4 + 2, none⟩ (.string ⟨#[]⟩)).setCell ⟨b, u * 4 + 3, none⟩ (.int .i64 (nx 65))).drew _ _ _ _ at hN4
  change BlkIn _ _ ((((W3.setCell ⟨b, u * 4, none⟩ (.int .i64 0)).setCell ⟨b, u * 4 + 1, none⟩ (.int .i64 0)).setCell ⟨b, u * 4 + 2, none⟩ (.string ⟨#[]⟩)).setCell ⟨b, u * 4 + 3, none⟩ (.int .i64 (nx 65))).drew _ at hX4
  change BlkIn _ _ ((((W3.setCell ⟨b, u * 4, none⟩ (.int .i64 0)).setCell ⟨b, u * 4 + 1, none⟩ (.int .i64 0)).setCell ⟨b, u * 4 + 2, none⟩ (.string ⟨#[]⟩)).setCell ⟨b, u * 4 + 3, none⟩ (.int .i64 (nx 65))).drew _ at hR4
  change Only _ _ ((((W3.setCell ⟨b, u * 4, none⟩ (.int .i64 0)).setCell ⟨b, u * 4 + 1, none⟩ (.int .i64 0)).setCell ⟨b, u * 4 + 2, none⟩ (.string ⟨#[]⟩)).setCell ⟨b, u * 4 + 3, none⟩ (.int .i64 (nx 65))).drew at hO4
  generalize ((((W3.setCell ⟨b, u * 4, none⟩ (.int .i64 0)).setCell ⟨b, u * 4 + 1, none⟩ (.int .i64 0)).setCell ⟨b, u * 4 + 2, none⟩ (.string ⟨#[]⟩)).setCell ⟨b, u * 4 + 3, none⟩ (.int .i64 (nx 65))).drew = W4 at *
  clear q0 q1 q2 q3 q4 qf
  have q0 := hN4.nxt (p := 65) (by omega)
  rw [show cel 65 = 257 from rfl] at q0
  have qf : ∀ j, W4.frozen? ⟨b, j, none⟩ = false := fun j => hN4.free j
  have hN5 := hN4.setNext (p := 65) (by omega) (u : Int)
  rw [show cel 65 = 257 from rfl] at hN5
  have hc5 := hN5.cnt
  have qf5 : ∀ j, (W4.setCell ⟨b, 257, none⟩ (.int .i64 u)).frozen? ⟨b, j, none⟩ = false := fun j => hN5.free j
  have hN6 := hN5.setCount (us.length - 1)
  have ecnt : (us.length : Int) - 1 = ((us.length - 1 : Nat) : Int) := by omega
  have hX6 : BlkIn #[.int .i64 m.src, .int .i64 m.dst, .string (S m.dat)] 31 ((W4.setCell ⟨b, 257, none⟩ (.int .i64 u)).setCell ⟨b, 258, none⟩ (.int .i64 ((us.length - 1 : Nat) : Int))) w2.heap.size := (hX4.other (Ne.symm hne) _ _).other (Ne.symm hne) _ _
  have hR6 : BlkIn #[.int .i64 ml0.src, .int .i64 ml0.dst, .string (S ml0.dat)] 31 ((W4.setCell ⟨b, 257, none⟩ (.int .i64 u)).setCell ⟨b, 258, none⟩ (.int .i64 ((us.length - 1 : Nat) : Int))) w.heap.size := (hR4.other (Ne.symm hne1) _ _).other (Ne.symm hne1) _ _
  have x0 := hX6.cell 0
  have x1 := hX6.cell 1
  have x2 := hX6.cell 2
  have y0 := hR6.cell 0
  have y1 := hR6.cell 1
  have y2 := hR6.cell 2
  have yf := fun j => hR6.free j
  have HN6 := Lib.hid hN6
  have HR6 := Lib.hid hR6
  have HO6 := Lib.hid ((hO4.setCell (p := ⟨b, 257, none⟩) (.inl rfl) (.int .i64 u)).setCell (p := ⟨b, 258, none⟩) (.inl rfl) (.int .i64 ((us.length - 1 : Nat) : Int)))
  clear hN4 hN5 hN6 hX4 hX6 hR4 hR6 hO4
  go_wp2_with fail
  refine bodyPost_ret (ret_ml2 rfl _ _ w.heap.size m rfl (blk_row3 m HR6.out)) rfl ⟨rfl, HF.out _ (((HN6.out.other hne1 0 _).other hne1 1 _).other hne1 2 _), ((HO6.out.setCell (.inr (Nat.le_refl _)) _).setCell (.inr (Nat.le_refl _)) _).setCell (.inr (Nat.le_refl _)) _⟩

end Go.Proofs.Ytggflkjdpibioaa
