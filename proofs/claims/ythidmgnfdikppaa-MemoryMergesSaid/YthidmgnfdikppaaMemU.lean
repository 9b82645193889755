/- Layer 15: the laws' example, by a contract. -/
import Derived.Test.YthidmgnfdikppaaZM
import Derived.Deep.RegionHeld3
import Derived.Deep.CutRange
namespace Go.Proofs.Ythidmgnfdikppaa
set_option linter.unusedVariables false
set_option linter.unusedSimpArgs false
open Go Go.RowKit
attribute [local go_sem ↓] run_index_S
attribute [local go_sem] S_append S_extract

/-- What holds in the example. -/
structure Dm15 (w : World) (b x y z u : Nat) (L : List M.Cl) (W : World) : Prop where
  mem : MemX (fun k => k = x ∨ k = y ∨ k = z ∨ k = u) w.heap.size b L W
  rx : RowIn (clA M.x15) 38 W x
  ry : RowIn (clA M.y15) 38 W y
  rz : RowIn (clA M.y15) 38 W z
  ru : u = x ∨ RowIn (clA M.b15) 38 W u
  bel : Below w.heap.size w W
theorem Dm15.below {w : World} {b x y z u : Nat} {L : List M.Cl} {W W' : World} (h : Dm15 w b x y z u L W) (hb : Below W.heap.size W W') : Dm15 w b x y z u L W' :=
  ⟨h.mem.below hb, h.rx.below hb, h.ry.below hb, h.rz.below hb, h.ru.imp_right (fun h => h.below hb), h.bel.trans (hb.mono h.bel.size)⟩
theorem Dm15.lt {w : World} {b x y z u : Nat} {L : List M.Cl} {W : World} (h : Dm15 w b x y z u L W) : ∀ k, (k = x ∨ k = y ∨ k = z ∨ k = u) → k < W.heap.size := fun k hk => by
  rcases hk with rfl | rfl | rfl | rfl
  · exact h.rx.lt
  · exact h.ry.lt
  · exact h.rz.lt
  · rcases h.ru with e | e
    · rw [e]; exact h.rx.lt
    · exact e.lt
theorem Dm15.put {w : World} {b x y z u : Nat} {L L' : List M.Cl} {W W' : World} {e : Ending} {v : Int} (h : Dm15 w b x y z u L W) (hp : PutX (fun k => k = x ∨ k = y ∨ k = z ∨ k = u) w.heap.size b v L' W e W') : e = .returned (.int .i64 v) ∧ Dm15 w b x y z u L' W' := by
  obtain ⟨h1, h2, h3⟩ := hp
  exact ⟨h1, h2, h3.row h.rx (fun q => q.2 (.inl rfl)), h3.row h.ry (fun q => q.2 (.inr (.inl rfl))), h3.row h.rz (fun q => q.2 (.inr (.inr (.inl rfl)))), h.ru.imp_right (fun h => h3.row h (fun q => q.2 (.inr (.inr (.inr rfl))))), h.bel.trans (h3.below (fun k hk => hk.1) h.bel.size)⟩
theorem Dm15.call {w : World} {b x y z u : Nat} {L L' : List M.Cl} {W : World} (c : M.Cl) {v : Int} (h : Dm15 w b x y z u L W) (hc : ClOk c) (hn : L.length < 50000) (hv : (if M.mayC c then (0 : Int) else 2) = v) (hL : M.putL c L = L') :
    Calls Try.prog 51 #[.pointer (some ⟨b, 0, none⟩), .agg (clA c)] W fun e W' => e = .returned (.int .i64 v) ∧ Dm15 w b x y z u L' W' :=
  (putX15 c h.mem h.lt h.bel.size hc hn).mono (fun e W' hp => by rw [hv, hL] at hp; exact h.put hp)
theorem Dm15.s4 {w : World} {b x y z u : Nat} {L : List M.Cl} {W : World} (h : Dm15 w b x y z u L W) (hu : u ≠ x) : (W.cell? ⟨u, 0, none⟩ = some (.string ⟨#[98]⟩) ∧ W.cell? ⟨u, 1, none⟩ = some (.int .i64 1) ∧ W.cell? ⟨u, 2, none⟩ = some (.string ⟨#[]⟩)) := by
  rcases h.ru with e | e
  · exact absurd e hu
  · exact ⟨e.cell 0, e.cell 1, e.cell 2⟩
theorem Dm15.s {w : World} {b x y z u : Nat} {L : List M.Cl} {W : World} (h : Dm15 w b x y z u L W) : (W.cell? ⟨x, 0, none⟩ = some (.string ⟨#[97]⟩) ∧ W.cell? ⟨x, 1, none⟩ = some (.int .i64 1) ∧ W.cell? ⟨x, 2, none⟩ = some (.string ⟨#[120]⟩)) ∧ (W.cell? ⟨y, 0, none⟩ = some (.string ⟨#[97]⟩) ∧ W.cell? ⟨y, 1, none⟩ = some (.int .i64 2) ∧ W.cell? ⟨y, 2, none⟩ = some (.string ⟨#[121]⟩)) ∧ (W.cell? ⟨z, 0, none⟩ = some (.string ⟨#[97]⟩) ∧ W.cell? ⟨z, 1, none⟩ = some (.int .i64 2) ∧ W.cell? ⟨z, 2, none⟩ = some (.string ⟨#[121]⟩)) :=
  ⟨⟨h.rx.cell 0, h.rx.cell 1, h.rx.cell 2⟩, ⟨h.ry.cell 0, h.ry.cell 1, h.ry.cell 2⟩, ⟨h.rz.cell 0, h.rz.cell 1, h.rz.cell 2⟩⟩
/-- What holds in the example's last statement. -/
structure Ec15 (w : World) (b x y z u b1 b2 B1 : Nat) (W : World) : Prop where
  d : Dm15 w b x y z u [M.y15, M.x15, M.b15] W
  m1 : MemX (fun _ => False) B1 b1 [M.y15, M.x15] W
  m2 : MemX (fun _ => False) B1 b2 [M.b15] W
theorem Ec15.below {w : World} {b x y z u b1 b2 B1 : Nat} {W W' : World} (h : Ec15 w b x y z u b1 b2 B1 W) (hb : Below W.heap.size W W') : Ec15 w b x y z u b1 b2 B1 W' := ⟨h.d.below hb, h.m1.below hb, h.m2.below hb⟩
set_option maxHeartbeats 4000000 in
set_option maxRecDepth 100000 in
theorem does15_any (w : World) : Calls Try.prog 58 #[] w fun e w' => e = .returned (.bool true) ∧ Below w.heap.size w w' := by
  have CN := Lib.hid (new15_any w)
  go_enter Try.func58, Try.ntmps58
  go_wp2_with fail
  refine (CN.out).mono ?_
  rintro e w1 ⟨rfl, hw1⟩
  have HW := Lib.hid hw1
  clear CN hw1
  obtain ⟨b, hb⟩ : ∃ x, x = w.heap.size := ⟨_, rfl⟩
  rw [← hb]
  have HBB := Lib.hid hb
  clear hb
  go_wp2_with fail
  obtain ⟨W2, hW2⟩ : ∃ W, W = (w1.alloc (.cells #[.string ⟨#[97]⟩, .int .i64 1, .string ⟨#[120]⟩] 38)).alloc (.cells #[.string ⟨#[97]⟩, .int .i64 2, .string ⟨#[121]⟩] 38) := ⟨_, rfl⟩
  have hsz : w1.heap.size = w.heap.size + 1 := by rw [HW.out, szA]
  have hd0 : Dm15 w b w1.heap.size (w1.heap.size + 1) (w1.heap.size + 1) w1.heap.size [] W2 := by
    have h1 : Below w1.heap.size w1 W2 := by rw [hW2]; exact ((Below.refl _ _).alloc (Nat.le_refl _) _).alloc (by rw [szA]; omega) _
    have h2 : MemX (fun k => k = w1.heap.size ∨ k = w1.heap.size + 1 ∨ k = w1.heap.size + 1 ∨ k = w1.heap.size) w.heap.size b [] w1 := by
      rw [HBB.out]
      have := memX_new (fun k => k = w1.heap.size ∨ k = w1.heap.size + 1 ∨ k = w1.heap.size + 1 ∨ k = w1.heap.size) w (fun k hk => by omega)
      rw [← HW.out] at this
      exact this
    have h3 : RowIn (clA M.y15) 38 W2 (w1.heap.size + 1) := by rw [hW2]; exact rowIn_at _ _ _ _ (by rw [szA])
    refine ⟨h2.below h1, ?_, h3, h3, .inl rfl, ?_⟩
    · rw [hW2]; exact (rowIn_new (clA M.x15) 38 w1).more _
    · have h4 : Below w.heap.size w w1 := by rw [HW.out]; exact (Below.refl _ _).alloc (Nat.le_refl _) _
      exact h4.trans (h1.mono h4.size)
  obtain ⟨x, hx⟩ : ∃ x, x = w1.heap.size := ⟨_, rfl⟩
  obtain ⟨y, hy⟩ : ∃ x, x = w1.heap.size + 1 := ⟨_, rfl⟩
  rw [← hy, ← hx] at hd0
  rw [← hy, ← hx, ← hW2]
  have HD0 := Lib.hid hd0
  clear hd0 hx hy hW2 hsz HW
  have CP1 := Lib.hid (show Calls Try.prog 51 #[.pointer (some ⟨b, 0, none⟩), .agg #[.string ⟨#[97]⟩, .int .i64 1, .string ⟨#[120]⟩]] W2 (fun e W' => e = .returned (.int .i64 0) ∧ Dm15 w b x y y x [M.x15] W') from HD0.out.call M.x15 M.ok15.1 (by decide) (by decide) M.put15.1)
  with_reducible refine (CP1.out).mono ?_
  rintro e W3 ⟨rfl, hd1⟩
  have HD1 := Lib.hid hd1
  clear hd1 CP1 
  obtain ⟨⟨x0, x1, x2⟩, ⟨y0, y1, y2⟩, ⟨z0, z1, z2⟩⟩ := HD1.out.s
  have CP2 := Lib.hid (show Calls Try.prog 51 #[.pointer (some ⟨b, 0, none⟩), .agg #[.string ⟨#[97]⟩, .int .i64 2, .string ⟨#[121]⟩]] W3 (fun e W' => e = .returned (.int .i64 0) ∧ Dm15 w b x y y x [M.y15, M.x15] W') from HD1.out.call M.y15 M.ok15.2.1 (by decide) (by decide) M.put15.2.1)
  go_wp2_with fail
  with_reducible refine (CP2.out).mono ?_
  rintro e W4 ⟨rfl, hd2⟩
  have HD2 := Lib.hid hd2
  clear hd2 CP2 x0 x1 x2 y0 y1 y2 z0 z1 z2
  obtain ⟨⟨x0, x1, x2⟩, ⟨y0, y1, y2⟩, ⟨z0, z1, z2⟩⟩ := HD2.out.s
  have CP3 := Lib.hid (show Calls Try.prog 51 #[.pointer (some ⟨b, 0, none⟩), .agg #[.string ⟨#[97]⟩, .int .i64 1, .string ⟨#[122]⟩]] W4 (fun e W' => e = .returned (.int .i64 0) ∧ Dm15 w b x y y x [M.y15, M.x15] W') from HD2.out.call M.z15 M.ok15.2.2.1 (by decide) (by decide) M.put15.2.2.1)
  go_wp2_with fail
  with_reducible refine (CP3.out).mono ?_
  rintro e W5 ⟨rfl, hd3⟩
  have HD3 := Lib.hid hd3
  clear hd3 CP3 x0 x1 x2 y0 y1 y2 z0 z1 z2
  obtain ⟨⟨x0, x1, x2⟩, ⟨y0, y1, y2⟩, ⟨z0, z1, z2⟩⟩ := HD3.out.s
  have CP4 := Lib.hid (show Calls Try.prog 51 #[.pointer (some ⟨b, 0, none⟩), .agg #[.string ⟨#[]⟩, .int .i64 0, .string ⟨#[]⟩]] W5 (fun e W' => e = .returned (.int .i64 2) ∧ Dm15 w b x y y x [M.y15, M.x15] W') from HD3.out.call M.o15 M.ok15.2.2.2.1 (by decide) (by decide) M.put15.2.2.2.1)
  go_wp2_with fail
  with_reducible refine (CP4.out).mono ?_
  rintro e W6 ⟨rfl, hd4⟩
  have HD4 := Lib.hid hd4
  clear hd4 CP4 x0 x1 x2 y0 y1 y2 z0 z1 z2
  obtain ⟨⟨x0, x1, x2⟩, ⟨y0, y1, y2⟩, ⟨z0, z1, z2⟩⟩ := HD4.out.s
  have CL := Lib.hid (show Calls Try.prog 53 #[.pointer (some ⟨b, 0, none⟩)] W6 (fun e w' => e = .returned (.int .i64 2) ∧ W6 = w') from lenX15 HD4.out.mem)
  go_wp2_with fail
  with_reducible refine (CL.out).mono ?_
  rintro e W7 ⟨rfl, rfl⟩
  clear CL
  have CG := Lib.hid (show Calls Try.prog 54 #[.pointer (some ⟨b, 0, none⟩), .string ⟨#[97]⟩] W6 (fun e w' => e = .returned (.tuple #[.agg #[.string ⟨#[97]⟩, .int .i64 2, .string ⟨#[121]⟩], .bool true]) ∧ Below W6.heap.size W6 w') from by
    have := getX15 [97] HD4.out.mem
    rw [M.find15] at this
    exact this)
  go_wp2_with fail
  with_reducible refine (CG.out).mono ?_
  rintro e W7 ⟨rfl, hbq⟩
  have HD5 := Lib.hid (HD4.out.below hbq)
  clear hbq CG x0 x1 x2 y0 y1 y2 z0 z1 z2
  go_upto_region 7 with fail
  have hd6 : Dm15 w b x y W7.heap.size (W7.heap.size + 1) [M.y15, M.x15] ((W7.alloc (.cells #[.string ⟨#[97]⟩, .int .i64 2, .string ⟨#[121]⟩] 38)).alloc (.cells #[.string ⟨#[98]⟩, .int .i64 1, .string ⟨#[]⟩] 38)) := by
    have h1 : Below W7.heap.size W7 ((W7.alloc (.cells #[.string ⟨#[97]⟩, .int .i64 2, .string ⟨#[121]⟩] 38)).alloc (.cells #[.string ⟨#[98]⟩, .int .i64 1, .string ⟨#[]⟩] 38)) := ((Below.refl _ _).alloc (Nat.le_refl _) _).alloc (by rw [szA]; omega) _
    have h2 := HD5.out
    refine ⟨(h2.mem.more (X' := fun k => k = x ∨ k = y ∨ k = W7.heap.size ∨ k = W7.heap.size + 1) (fun k hk => by omega)).below h1, h2.rx.below h1, h2.ry.below h1, (rowIn_new (clA M.y15) 38 W7).more _, .inr (rowIn_at _ _ _ _ (by rw [szA])), h2.bel.trans (h1.mono h2.bel.size)⟩
  have hux : W7.heap.size + 1 ≠ x := by have := HD5.out.rx.lt; omega
  obtain ⟨W8, hW8⟩ : ∃ W, W = (W7.alloc (.cells #[.string ⟨#[97]⟩, .int .i64 2, .string ⟨#[121]⟩] 38)).alloc (.cells #[.string ⟨#[98]⟩, .int .i64 1, .string ⟨#[]⟩] 38) := ⟨_, rfl⟩
  obtain ⟨z, hz⟩ : ∃ x, x = W7.heap.size := ⟨_, rfl⟩
  obtain ⟨u, hu⟩ : ∃ x, x = W7.heap.size + 1 := ⟨_, rfl⟩
  rw [← hW8] at hd6
  rw [← hu, ← hz] at hd6
  rw [← hu] at hux
  rw [← hW8, ← hu, ← hz]
  have HD6 := Lib.hid hd6
  have HUX := Lib.hid hux
  clear hW8 hz hu hd6 hux
  go_cut [66] from 45 to 66 (fun c wx => c = .bool false ∧ Dm15 w b x y z u [M.y15, M.x15, M.b15] wx)
  case first =>
    obtain ⟨⟨x0, x1, x2⟩, ⟨y0, y1, y2⟩, ⟨z0, z1, z2⟩⟩ := HD6.out.s; obtain ⟨u0, u1, u2⟩ := HD6.out.s4 HUX.out
    have ha8 : Below W8.heap.size W8 (W8.alloc (.cells #[.string ⟨#[97]⟩, .int .i64 2, .string ⟨#[121]⟩, .string ⟨#[97]⟩, .int .i64 1, .string ⟨#[120]⟩] 38)).drew := ((Below.refl _ _).alloc (Nat.le_refl _) _).drew
    have HR8 := Lib.hid (show RowIn (cls [M.y15, M.x15]).toArray 38 (W8.alloc (.cells #[.string ⟨#[97]⟩, .int .i64 2, .string ⟨#[121]⟩, .string ⟨#[97]⟩, .int .i64 1, .string ⟨#[120]⟩] 38)).drew W8.heap.size from rowIn_new _ _ _)
    have HDA := Lib.hid (HD6.out.below ha8)
    have HDB := Lib.hid (HD6.out.below (Below.refl W8.heap.size W8).drew)
    have CA := Lib.hid (show Calls Try.prog 56 #[.pointer (some ⟨b, 0, none⟩), .string ⟨#[]⟩, .string ⟨#[]⟩] (W8.alloc (.cells #[.string ⟨#[97]⟩, .int .i64 2, .string ⟨#[121]⟩, .string ⟨#[97]⟩, .int .i64 1, .string ⟨#[120]⟩] 38)).drew (fun e w' => ∃ ao cap, e = .returned (.slice ao 2 cap) ∧ w'.ownsRow ((W8.alloc (.cells #[.string ⟨#[97]⟩, .int .i64 2, .string ⟨#[121]⟩, .string ⟨#[97]⟩, .int .i64 1, .string ⟨#[120]⟩] 38)).drew).heap.size 38 3 (.slice ao 2 cap) 2 (cls [M.y15, M.x15]) ∧ Below ((W8.alloc (.cells #[.string ⟨#[97]⟩, .int .i64 2, .string ⟨#[121]⟩, .string ⟨#[97]⟩, .int .i64 1, .string ⟨#[120]⟩] 38)).drew).heap.size (W8.alloc (.cells #[.string ⟨#[97]⟩, .int .i64 2, .string ⟨#[121]⟩, .string ⟨#[97]⟩, .int .i64 1, .string ⟨#[120]⟩] 38)).drew w') from rangeX15 HDA.out.mem)
    have CB := Lib.hid (show Calls Try.prog 56 #[.pointer (some ⟨b, 0, none⟩), .string ⟨#[]⟩, .string ⟨#[]⟩] W8.drew (fun e w' => ∃ ao cap, e = .returned (.slice ao 2 cap) ∧ w'.ownsRow (W8.drew).heap.size 38 3 (.slice ao 2 cap) 2 (cls [M.y15, M.x15]) ∧ Below (W8.drew).heap.size W8.drew w') from rangeX15 HDB.out.mem)
    clear ha8
    go_region_held3 (fun W => W.cell? ⟨x, 0, none⟩ = some (.string ⟨#[97]⟩) ∧ W.cell? ⟨x, 1, none⟩ = some (.int .i64 1) ∧ W.cell? ⟨x, 2, none⟩ = some (.string ⟨#[120]⟩) ∧ W.cell? ⟨y, 0, none⟩ = some (.string ⟨#[97]⟩) ∧ W.cell? ⟨y, 1, none⟩ = some (.int .i64 2) ∧ W.cell? ⟨y, 2, none⟩ = some (.string ⟨#[121]⟩) ∧ W.cell? ⟨z, 0, none⟩ = some (.string ⟨#[97]⟩) ∧ W.cell? ⟨z, 1, none⟩ = some (.int .i64 2) ∧ W.cell? ⟨z, 2, none⟩ = some (.string ⟨#[121]⟩) ∧ W.cell? ⟨u, 0, none⟩ = some (.string ⟨#[98]⟩) ∧ W.cell? ⟨u, 1, none⟩ = some (.int .i64 1) ∧ W.cell? ⟨u, 2, none⟩ = some (.string ⟨#[]⟩)) (go_keep) (first
      | (go_at_call 56; (with_reducible refine (CB.out).mono ?_); rintro e W9 ⟨ao, cap, rfl, ho, hbq⟩; have HDr := Lib.hid (HDB.out.below hbq); have hal : Below W9.heap.size W9 (W9.alloc (.cells #[.string ⟨#[97]⟩, .int .i64 2, .string ⟨#[121]⟩, .string ⟨#[97]⟩, .int .i64 1, .string ⟨#[120]⟩] 38)) := (Below.refl _ _).alloc (Nat.le_refl _) _; have CS := Lib.hid (sameCells9_yes [M.y15, M.x15] 2 rfl ao (some ⟨W9.heap.size, 0, none⟩) cap 2 (by omega) ((clsAt_own ho rfl).below hal) (clsAt_row (show RowIn (cls [M.y15, M.x15]).toArray 38 (W9.alloc (.cells #[.string ⟨#[97]⟩, .int .i64 2, .string ⟨#[121]⟩, .string ⟨#[97]⟩, .int .i64 1, .string ⟨#[120]⟩] 38)) W9.heap.size from rowIn_new _ _ _) (by simp))); have HDs := Lib.hid (HDr.out.below hal); clear ho hbq hal; clear x0 x1 x2 y0 y1 y2 z0 z1 z2 u0 u1 u2; obtain ⟨⟨x0, x1, x2⟩, ⟨y0, y1, y2⟩, ⟨z0, z1, z2⟩⟩ := HDr.out.s; obtain ⟨u0, u1, u2⟩ := HDr.out.s4 HUX.out)
      | (go_at_call 56; (with_reducible refine (CA.out).mono ?_); rintro e W9 ⟨ao, cap, rfl, ho, hbq⟩; have CS := Lib.hid (sameCells9_yes [M.y15, M.x15] 2 rfl ao (some ⟨W8.heap.size, 0, none⟩) cap 2 (by omega) (clsAt_own ho rfl) (clsAt_row (HR8.out.below hbq) (by simp))); have HDs := Lib.hid (HDA.out.below hbq); clear ho hbq; clear x0 x1 x2 y0 y1 y2 z0 z1 z2 u0 u1 u2; obtain ⟨⟨x0, x1, x2⟩, ⟨y0, y1, y2⟩, ⟨z0, z1, z2⟩⟩ := HDs.out.s; obtain ⟨u0, u1, u2⟩ := HDs.out.s4 HUX.out)
      | (go_at_call 35; (with_reducible refine (CS.out).mono ?_); rintro e WS ⟨rfl, hbq⟩; have HDt := Lib.hid (HDs.out.below hbq); have CPp := Lib.hid (show Calls Try.prog 51 #[.pointer (some ⟨b, 0, none⟩), .agg #[.string ⟨#[98]⟩, .int .i64 1, .string ⟨#[]⟩]] WS (fun e W' => e = .returned (.int .i64 0) ∧ Dm15 w b x y z u [M.y15, M.x15, M.b15] W') from HDt.out.call M.b15 M.ok15.2.2.2.2 (by decide) (by decide) M.put15.2.2.2.2); clear hbq; clear x0 x1 x2 y0 y1 y2 z0 z1 z2 u0 u1 u2; obtain ⟨⟨x0, x1, x2⟩, ⟨y0, y1, y2⟩, ⟨z0, z1, z2⟩⟩ := HDt.out.s; obtain ⟨u0, u1, u2⟩ := HDt.out.s4 HUX.out)
      | (go_at_call 51; (with_reducible refine (CPp.out).mono ?_); rintro e WT ⟨rfl, hdf⟩; have HDf := Lib.hid hdf; clear hdf; clear x0 x1 x2 y0 y1 y2 z0 z1 z2 u0 u1 u2; obtain ⟨⟨x0, x1, x2⟩, ⟨y0, y1, y2⟩, ⟨z0, z1, z2⟩⟩ := HDf.out.s; obtain ⟨u0, u1, u2⟩ := HDf.out.s4 HUX.out))
    all_goals
      go_wp2_with fail
      go_meet
      case rel => exact ⟨rfl, HDf.out⟩
  case rest =>
    obtain ⟨rfl, hd7⟩ := hcut
    have HD7 := Lib.hid hd7
    clear hd7
    have CT0 := Lib.hid (show Calls Try.prog 60 #[.pointer (some ⟨b, 0, none⟩), .string ⟨#[98]⟩] wc (fun e w' => ∃ b1 b2, e = .returned (.tuple #[.pointer (some ⟨b1, 0, none⟩), .pointer (some ⟨b2, 0, none⟩)]) ∧ MemX (fun _ => False) wc.heap.size b1 [M.y15, M.x15] w' ∧ MemX (fun _ => False) wc.heap.size b2 [M.b15] w' ∧ Below wc.heap.size wc w') from by
      have := cutX15 [98] HD7.out.mem
      unfold CutX at this
      rw [M.cut15.1, M.cut15.2] at this
      exact this)
    go_wp2_with fail
    with_reducible refine (CT0.out).mono ?_
    rintro e W10 ⟨b1, b2, rfl, hm1, hm2, hbq⟩
    have HE10 := Lib.hid (show Ec15 w b x y z u b1 b2 wc.heap.size W10 from ⟨HD7.out.below hbq, hm1, hm2⟩)
    clear hm1 hm2 hbq CT0
    go_wp2_with fail
    obtain ⟨⟨x0, x1, x2⟩, ⟨y0, y1, y2⟩, ⟨z0, z1, z2⟩⟩ := HE10.out.d.s; obtain ⟨u0, u1, u2⟩ := HE10.out.d.s4 HUX.out
    have ha8 : Below W10.heap.size W10 (W10.alloc (.cells #[.string ⟨#[97]⟩, .int .i64 2, .string ⟨#[121]⟩, .string ⟨#[97]⟩, .int .i64 1, .string ⟨#[120]⟩] 38)).drew := ((Below.refl _ _).alloc (Nat.le_refl _) _).drew
    have HR10 := Lib.hid (show RowIn (cls [M.y15, M.x15]).toArray 38 (W10.alloc (.cells #[.string ⟨#[97]⟩, .int .i64 2, .string ⟨#[121]⟩, .string ⟨#[97]⟩, .int .i64 1, .string ⟨#[120]⟩] 38)).drew W10.heap.size from rowIn_new _ _ _)
    have HEA := Lib.hid (HE10.out.below ha8)
    have HEB := Lib.hid (HE10.out.below (Below.refl W10.heap.size W10).drew)
    have CA := Lib.hid (show Calls Try.prog 56 #[.pointer (some ⟨b1, 0, none⟩), .string ⟨#[]⟩, .string ⟨#[]⟩] (W10.alloc (.cells #[.string ⟨#[97]⟩, .int .i64 2, .string ⟨#[121]⟩, .string ⟨#[97]⟩, .int .i64 1, .string ⟨#[120]⟩] 38)).drew (fun e w' => ∃ ao cap, e = .returned (.slice ao 2 cap) ∧ w'.ownsRow ((W10.alloc (.cells #[.string ⟨#[97]⟩, .int .i64 2, .string ⟨#[121]⟩, .string ⟨#[97]⟩, .int .i64 1, .string ⟨#[120]⟩] 38)).drew).heap.size 38 3 (.slice ao 2 cap) 2 (cls [M.y15, M.x15]) ∧ Below ((W10.alloc (.cells #[.string ⟨#[97]⟩, .int .i64 2, .string ⟨#[121]⟩, .string ⟨#[97]⟩, .int .i64 1, .string ⟨#[120]⟩] 38)).drew).heap.size (W10.alloc (.cells #[.string ⟨#[97]⟩, .int .i64 2, .string ⟨#[121]⟩, .string ⟨#[97]⟩, .int .i64 1, .string ⟨#[120]⟩] 38)).drew w') from rangeX15 HEA.out.m1)
    have CB := Lib.hid (show Calls Try.prog 56 #[.pointer (some ⟨b1, 0, none⟩), .string ⟨#[]⟩, .string ⟨#[]⟩] W10.drew (fun e w' => ∃ ao cap, e = .returned (.slice ao 2 cap) ∧ w'.ownsRow (W10.drew).heap.size 38 3 (.slice ao 2 cap) 2 (cls [M.y15, M.x15]) ∧ Below (W10.drew).heap.size W10.drew w') from rangeX15 HEB.out.m1)
    clear ha8
    go_region_held3 (fun W => W.cell? ⟨x, 0, none⟩ = some (.string ⟨#[97]⟩) ∧ W.cell? ⟨x, 1, none⟩ = some (.int .i64 1) ∧ W.cell? ⟨x, 2, none⟩ = some (.string ⟨#[120]⟩) ∧ W.cell? ⟨y, 0, none⟩ = some (.string ⟨#[97]⟩) ∧ W.cell? ⟨y, 1, none⟩ = some (.int .i64 2) ∧ W.cell? ⟨y, 2, none⟩ = some (.string ⟨#[121]⟩) ∧ W.cell? ⟨z, 0, none⟩ = some (.string ⟨#[97]⟩) ∧ W.cell? ⟨z, 1, none⟩ = some (.int .i64 2) ∧ W.cell? ⟨z, 2, none⟩ = some (.string ⟨#[121]⟩) ∧ W.cell? ⟨u, 0, none⟩ = some (.string ⟨#[98]⟩) ∧ W.cell? ⟨u, 1, none⟩ = some (.int .i64 1) ∧ W.cell? ⟨u, 2, none⟩ = some (.string ⟨#[]⟩)) (go_keep) (first
      | (go_at_call 56; (with_reducible refine (CB.out).mono ?_); clear CA CB; rintro e W11 ⟨ao, cap, rfl, ho, hbq⟩; have HDr := Lib.hid (HEB.out.below hbq); have hal : Below W11.heap.size W11 (W11.alloc (.cells #[.string ⟨#[97]⟩, .int .i64 2, .string ⟨#[121]⟩, .string ⟨#[97]⟩, .int .i64 1, .string ⟨#[120]⟩] 38)) := (Below.refl _ _).alloc (Nat.le_refl _) _; have CS := Lib.hid (sameCells9_yes [M.y15, M.x15] 2 rfl ao (some ⟨W11.heap.size, 0, none⟩) cap 2 (by omega) ((clsAt_own ho rfl).below hal) (clsAt_row (show RowIn (cls [M.y15, M.x15]).toArray 38 (W11.alloc (.cells #[.string ⟨#[97]⟩, .int .i64 2, .string ⟨#[121]⟩, .string ⟨#[97]⟩, .int .i64 1, .string ⟨#[120]⟩] 38)) W11.heap.size from rowIn_new _ _ _) (by simp))); have HEs := Lib.hid (HDr.out.below hal); clear ho hbq hal; clear x0 x1 x2 y0 y1 y2 z0 z1 z2 u0 u1 u2; obtain ⟨⟨x0, x1, x2⟩, ⟨y0, y1, y2⟩, ⟨z0, z1, z2⟩⟩ := HDr.out.d.s; obtain ⟨u0, u1, u2⟩ := HDr.out.d.s4 HUX.out; clear HDr)
      | (go_at_call 56; (with_reducible refine (CA.out).mono ?_); clear CA CB; rintro e W11 ⟨ao, cap, rfl, ho, hbq⟩; have CS := Lib.hid (sameCells9_yes [M.y15, M.x15] 2 rfl ao (some ⟨W10.heap.size, 0, none⟩) cap 2 (by omega) (clsAt_own ho rfl) (clsAt_row (HR10.out.below hbq) (by simp))); have HEs := Lib.hid (HEA.out.below hbq); clear ho hbq; clear x0 x1 x2 y0 y1 y2 z0 z1 z2 u0 u1 u2; obtain ⟨⟨x0, x1, x2⟩, ⟨y0, y1, y2⟩, ⟨z0, z1, z2⟩⟩ := HEs.out.d.s; obtain ⟨u0, u1, u2⟩ := HEs.out.d.s4 HUX.out)
      | (go_at_call 35; (with_reducible refine (CS.out).mono ?_); rintro e W12 ⟨rfl, hbq⟩; have HE12 := Lib.hid (HEs.out.below hbq); have hal2 : Below W12.heap.size W12 (W12.alloc (.cells #[.string ⟨#[98]⟩, .int .i64 1, .string ⟨#[]⟩] 38)) := (Below.refl _ _).alloc (Nat.le_refl _) _; have HE12a := Lib.hid (HE12.out.below hal2); have HR12 := Lib.hid (show RowIn (cls [M.b15]).toArray 38 (W12.alloc (.cells #[.string ⟨#[98]⟩, .int .i64 1, .string ⟨#[]⟩] 38)) W12.heap.size from rowIn_new _ _ _); have CQb := Lib.hid (show Calls Try.prog 56 #[.pointer (some ⟨b2, 0, none⟩), .string ⟨#[]⟩, .string ⟨#[]⟩] W12 (fun e w' => ∃ ao cap, e = .returned (.slice ao 1 cap) ∧ w'.ownsRow (W12).heap.size 38 3 (.slice ao 1 cap) 1 (cls [M.b15]) ∧ Below (W12).heap.size W12 w') from rangeX15 HE12.out.m2); have CQa := Lib.hid (show Calls Try.prog 56 #[.pointer (some ⟨b2, 0, none⟩), .string ⟨#[]⟩, .string ⟨#[]⟩] (W12.alloc (.cells #[.string ⟨#[98]⟩, .int .i64 1, .string ⟨#[]⟩] 38)) (fun e w' => ∃ ao cap, e = .returned (.slice ao 1 cap) ∧ w'.ownsRow ((W12.alloc (.cells #[.string ⟨#[98]⟩, .int .i64 1, .string ⟨#[]⟩] 38))).heap.size 38 3 (.slice ao 1 cap) 1 (cls [M.b15]) ∧ Below ((W12.alloc (.cells #[.string ⟨#[98]⟩, .int .i64 1, .string ⟨#[]⟩] 38))).heap.size (W12.alloc (.cells #[.string ⟨#[98]⟩, .int .i64 1, .string ⟨#[]⟩] 38)) w') from rangeX15 HE12a.out.m2); clear hbq hal2 CS; clear x0 x1 x2 y0 y1 y2 z0 z1 z2 u0 u1 u2; obtain ⟨⟨x0, x1, x2⟩, ⟨y0, y1, y2⟩, ⟨z0, z1, z2⟩⟩ := HE12.out.d.s; obtain ⟨u0, u1, u2⟩ := HE12.out.d.s4 HUX.out)
      | (go_at_call 56; (with_reducible refine (CQb.out).mono ?_); clear CQa CQb; rintro e W13 ⟨ao, cap, rfl, ho, hbq⟩; have HDr := Lib.hid (HE12.out.below hbq); have hal : Below W13.heap.size W13 (W13.alloc (.cells #[.string ⟨#[98]⟩, .int .i64 1, .string ⟨#[]⟩] 38)) := (Below.refl _ _).alloc (Nat.le_refl _) _; have CT := Lib.hid (sameCells9_yes [M.b15] 1 rfl ao (some ⟨W13.heap.size, 0, none⟩) cap 1 (by omega) ((clsAt_own ho rfl).below hal) (clsAt_row (show RowIn (cls [M.b15]).toArray 38 (W13.alloc (.cells #[.string ⟨#[98]⟩, .int .i64 1, .string ⟨#[]⟩] 38)) W13.heap.size from rowIn_new _ _ _) (by simp))); have HEt := Lib.hid (HDr.out.below hal); clear ho hbq hal; clear x0 x1 x2 y0 y1 y2 z0 z1 z2 u0 u1 u2; obtain ⟨⟨x0, x1, x2⟩, ⟨y0, y1, y2⟩, ⟨z0, z1, z2⟩⟩ := HDr.out.d.s; obtain ⟨u0, u1, u2⟩ := HDr.out.d.s4 HUX.out; clear HDr)
      | (go_at_call 56; (with_reducible refine (CQa.out).mono ?_); clear CQa CQb; rintro e W13 ⟨ao, cap, rfl, ho, hbq⟩; have CT := Lib.hid (sameCells9_yes [M.b15] 1 rfl ao (some ⟨W12.heap.size, 0, none⟩) cap 1 (by omega) (clsAt_own ho rfl) (clsAt_row (HR12.out.below hbq) (by simp))); have HEt := Lib.hid (HE12a.out.below hbq); clear ho hbq; clear x0 x1 x2 y0 y1 y2 z0 z1 z2 u0 u1 u2; obtain ⟨⟨x0, x1, x2⟩, ⟨y0, y1, y2⟩, ⟨z0, z1, z2⟩⟩ := HEt.out.d.s; obtain ⟨u0, u1, u2⟩ := HEt.out.d.s4 HUX.out)
      | (go_at_call 35; (with_reducible refine (CT.out).mono ?_); rintro e W14 ⟨rfl, hbq⟩; have HE14 := Lib.hid (HEt.out.below hbq); have CJ := Lib.hid (show Calls Try.prog 62 #[.pointer (some ⟨b1, 0, none⟩), .pointer (some ⟨b2, 0, none⟩)] W14 (fun e w' => ∃ bj, e = .returned (.pointer (some ⟨bj, 0, none⟩)) ∧ MemX (fun _ => False) W14.heap.size bj (M.joinL [M.y15, M.x15] [M.b15]) w' ∧ Below W14.heap.size W14 w') from joinX15 HE14.out.m1 HE14.out.m2 (by decide)); clear hbq; clear x0 x1 x2 y0 y1 y2 z0 z1 z2 u0 u1 u2; obtain ⟨⟨x0, x1, x2⟩, ⟨y0, y1, y2⟩, ⟨z0, z1, z2⟩⟩ := HE14.out.d.s; obtain ⟨u0, u1, u2⟩ := HE14.out.d.s4 HUX.out)
      | (go_at_call 62; (with_reducible refine (CJ.out).mono ?_); rintro e W15 ⟨bj, rfl, hmj, hbq⟩; have HE15 := Lib.hid (HE14.out.below hbq); have CLn := Lib.hid (show Calls Try.prog 53 #[.pointer (some ⟨bj, 0, none⟩)] W15 (fun e w' => e = .returned (.int .i64 3) ∧ W15 = w') from lenX15 hmj); clear hbq hmj; clear x0 x1 x2 y0 y1 y2 z0 z1 z2 u0 u1 u2; obtain ⟨⟨x0, x1, x2⟩, ⟨y0, y1, y2⟩, ⟨z0, z1, z2⟩⟩ := HE15.out.d.s; obtain ⟨u0, u1, u2⟩ := HE15.out.d.s4 HUX.out)
      | (go_at_call 53; (with_reducible refine (CLn.out).mono ?_); rintro e W16 ⟨rfl, rfl⟩))
    all_goals
      go_wp2_with fail
      go_ret
      exact ⟨rfl, HE15.out.d.bel⟩

end Go.Proofs.Ythidmgnfdikppaa
