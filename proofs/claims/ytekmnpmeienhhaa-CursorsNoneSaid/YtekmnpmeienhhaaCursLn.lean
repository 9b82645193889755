/- Layer 13: CursorsNone, walked. -/
import Derived.Test.YtekmnpmeienhhaaCursO
import Derived.Test.YtekmnpmeienhhaaDiskZ
namespace Go.Proofs.Ytekmnpmeienhhaa
set_option linter.unusedVariables false
open Go Go.RowKit Go.Maps

section
variable {w w' : World} {p : Option Addr}
set_option maxRecDepth 100000 in
theorem filesStateN (h : NoDk w p) : Calls Try.prog 86 #[.pointer p] w (RetN (.int .i64 1) w) := by
  have CR := Lib.hid (show Calls Try.prog 26 #[.pointer p, .string { data := #[] }] w (RetN (.tuple #[.string (S []), .int .i64 1]) w) from readN h [])
  clear h
  go_enter Try.func86, Try.ntmps86
  go_wp2_with fail
  with_reducible refine CR.out.mono ?_
  rintro e w1 ⟨rfl, hb⟩
  have HB := Lib.hid hb
  clear hb
  go_wp2_with fail
  go_ret
  exact ⟨rfl, HB.out⟩
set_option maxRecDepth 100000 in
set_option maxHeartbeats 1000000 in
theorem loadN13 (h : NoDk w p) : Calls Try.prog 50 #[.pointer p] w fun e w' => e = .returned (.tuple #[.agg #[.int .i64 0, .int .i64 0], .int .i64 1]) ∧ Below w.heap.size w w' := by
  have hb := (Below.refl w.heap.size w).alloc (Nat.le_refl _) (.cells #[.int .i64 0, .int .i64 0] 71)
  have CR := Lib.hid (show Calls Try.prog 26 #[.pointer p, .string { data := #[99, 117, 114, 115, 111, 114] }] (w.alloc (.cells #[.int .i64 0, .int .i64 0] 71)) (RetN (.tuple #[.string (S []), .int .i64 1]) (w.alloc (.cells #[.int .i64 0, .int .i64 0] 71))) from readN (h.below hb) Cu.nC)
  have hi : (Try.prog.info? 71).map (·.size) = some 2 := by kernel_rfl
  have HI := Lib.hid hi
  have HB := Lib.hid hb
  have HX := Lib.hid (bk_new #[.int .i64 0, .int .i64 0] 71 w)
  clear h hi hb
  go_enter Try.func50, Try.ntmps50
  go_wp2_with fail
  with_reducible refine CR.out.mono ?_
  rintro e w1 ⟨rfl, hb1⟩
  replace HX := Lib.hid (HX.out.below hb1)
  replace HB := Lib.hid (below_step HB.out hb1)
  clear hb1 CR
  go_wp2_with (refine wpList_store13 rfl 71 _ _ rfl w.heap.size #[.int .i64 0, .int .i64 0] rfl rfl 71 _ HX.out HI.out rfl (by simp [Value.oneCell']) ?_; intro w5 h5 hw5; have HR5 := Lib.hid h5; have HW5 := Lib.hid hw5; clear h5 hw5)
  exact bodyPost_ret (v := .tuple #[.agg #[.int .i64 0, .int .i64 0], .int .i64 1]) (ret_cell2 (p := 2) (q := 3) (C := #[.int .i64 0, .int .i64 0]) Try.underlying71 HI.out rfl _ _ w.heap.size rfl HR5.out) rfl ⟨rfl, HB.out.trans (HW5.out.below (fun k hk => by omega) HB.out.size)⟩
set_option maxRecDepth 100000 in
theorem saveN13 (h : NoDk w p) (a b : Int) : Calls Try.prog 56 #[.pointer p, .agg #[.int .i64 a, .int .i64 b]] w (RetN (.int .i64 1) w) := by
  have hb := (Below.refl w.heap.size w).alloc (Nat.le_refl _) (.cells #[.int .i64 a, .int .i64 b] 71)
  have CS := Lib.hid (filesStateN (h.below hb))
  have HB := Lib.hid hb
  clear h hb
  go_enter Try.func56, Try.ntmps56
  go_wp2_with fail
  with_reducible refine CS.out.mono ?_
  rintro e w1 ⟨rfl, hb⟩
  replace HB := Lib.hid (below_step HB.out hb)
  clear hb CS
  go_wp2_with fail
  go_ret
  exact ⟨rfl, HB.out⟩
end
theorem Cu.none50 : Dk.crash [] (Dk.new 50) = (0, ⟨50, 0, false, none, []⟩) := by rfl
set_option maxRecDepth 100000 in
set_option maxHeartbeats 8000000 in
theorem cursorsNone_calls (W : World) (v : Value) (hv : UCu v) : Calls Try.prog 12 #[v] W fun e w' => e = .returned (.bool true) ∧ Below W.heap.size W w' := by
  obtain ⟨⟨a, b⟩, rfl, -⟩ := hv
  have CD := Lib.hid (fun w => does13 w)
  have hi : (Try.prog.info? 71).map (·.size) = some 2 := by kernel_rfl
  have HI := Lib.hid hi
  have HB := Lib.hid ((Below.refl W.heap.size W).alloc (Nat.le_refl _) (.cells #[.int .i64 a, .int .i64 b] 71))
  have HX := Lib.hid (bk_new #[.int .i64 a, .int .i64 b] 71 W)
  have HXL := Lib.hid (Nat.le_refl W.heap.size)
  clear hi
  go_enter Try.func12, Try.ntmps12
  go_wp2_with fail
  obtain ⟨xb, hxb⟩ : ∃ x, x = W.heap.size := ⟨_, rfl⟩
  obtain ⟨w1, hw1⟩ : ∃ x, x = W.alloc (.cells #[.int .i64 a, .int .i64 b] 71) := ⟨_, rfl⟩
  rw [← hw1] at HB HX
  rw [← hxb] at HX
  simp only [← hw1, ← hxb]
  clear hw1 hxb HXL
  refine wp_loop_rounds 3 ?_
  rw [rounds_succ]
  have CL := Lib.hid (loadN13 (p := none) (w := w1) (.inl rfl))
  go_wp2_with fail
  with_reducible refine CL.out.mono ?_
  rintro e w2 ⟨rfl, hb⟩
  replace HX := Lib.hid ((HX.out.below hb).more (.cells #[.int .i64 0, .int .i64 0] 71))
  replace HB := Lib.hid ((below_step HB.out hb).alloc (below_step HB.out hb).size (.cells #[.int .i64 0, .int .i64 0] 71))
  have HY := Lib.hid (bk_new #[.int .i64 0, .int .i64 0] 71 w2)
  clear hb CL
  have CS := Lib.hid (saveN13 (p := none) (w := w2.alloc (.cells #[.int .i64 0, .int .i64 0] 71)) (.inl rfl) a b)
  go_wp2_with (refine wpList_load_row rfl 71 _ rfl xb rfl 71 _ (0, 0) _ HX.out Try.underlying71 rfl ?_ ?_; exact HI.out)
  with_reducible refine CS.out.mono ?_
  rintro e w3 ⟨rfl, hb⟩
  replace HX := Lib.hid (HX.out.below hb)
  replace HB := Lib.hid (below_step HB.out hb)
  have c0 : w3.cell? ⟨w2.heap.size, 0, none⟩ = some (.int .i64 0) := (HY.out.below hb).cell 0
  have c1 : w3.cell? ⟨w2.heap.size, 1, none⟩ = some (.int .i64 0) := (HY.out.below hb).cell 1
  clear hb CS HY
  go_wp2_with fail
  rw [rounds_succ]
  have HP := Lib.hid (show NoDk (w3.alloc (.cells #[.int .i64 0, .int .i64 0, .map none, .bool false, .int .i64 0, .nilFunc] 43)) (some ⟨w3.heap.size, 0, none⟩) from .inr ⟨_, rfl, bk_new _ _ _⟩)
  replace HX := Lib.hid (HX.out.more (.cells #[.int .i64 0, .int .i64 0, .map none, .bool false, .int .i64 0, .nilFunc] 43))
  replace HB := Lib.hid (HB.out.alloc HB.out.size (.cells #[.int .i64 0, .int .i64 0, .map none, .bool false, .int .i64 0, .nilFunc] 43))
  clear c0 c1
  go_upto_region 7 with fail
  obtain ⟨db, hdb⟩ : ∃ x, x = w3.heap.size := ⟨_, rfl⟩
  obtain ⟨w4, hw4⟩ : ∃ x, x = w3.alloc (.cells #[.int .i64 0, .int .i64 0, .map none, .bool false, .int .i64 0, .nilFunc] 43) := ⟨_, rfl⟩
  rw [← hw4] at HP HX HB
  rw [← hdb] at HP
  simp only [← hw4, ← hdb]
  clear hw4 hdb
  have CL := Lib.hid (loadN13 HP.out)
  go_wp2_with fail
  with_reducible refine CL.out.mono ?_
  rintro e w5 ⟨rfl, hb⟩
  replace HX := Lib.hid ((HX.out.below hb).more (.cells #[.int .i64 0, .int .i64 0] 71))
  replace HB := Lib.hid ((below_step HB.out hb).alloc (below_step HB.out hb).size (.cells #[.int .i64 0, .int .i64 0] 71))
  replace HP := Lib.hid ((HP.out.below hb).below ((Below.refl w5.heap.size w5).alloc (Nat.le_refl _) (.cells #[.int .i64 0, .int .i64 0] 71)))
  have HY := Lib.hid (bk_new #[.int .i64 0, .int .i64 0] 71 w5)
  clear hb CL
  have CS := Lib.hid (saveN13 HP.out a b)
  go_wp2_with (refine wpList_load_row rfl 71 _ rfl xb rfl 71 _ (0, 0) _ HX.out Try.underlying71 rfl ?_ ?_; exact HI.out)
  with_reducible refine CS.out.mono ?_
  rintro e w6 ⟨rfl, hb⟩
  replace HX := Lib.hid (HX.out.below hb)
  replace HB := Lib.hid (below_step HB.out hb)
  have c0 : w6.cell? ⟨w5.heap.size, 0, none⟩ = some (.int .i64 0) := (HY.out.below hb).cell 0
  have c1 : w6.cell? ⟨w5.heap.size, 1, none⟩ = some (.int .i64 0) := (HY.out.below hb).cell 1
  clear hb CS HY HP
  go_wp2_with fail
  rw [rounds_succ]
  clear c0 c1
  have CN := Lib.hid (show Calls Try.prog 17 #[.int .i64 50] w6 _ from newDB 50 w6 (by decide) (by decide) (W := W) HB.out)
  go_wp2_with fail
  with_reducible refine CN.out.mono ?_
  rintro e w7 ⟨d, rfl, hd, hb⟩
  have HD := Lib.hid (hd.add (HX.out.below hb) HX.out.lt)
  clear hd hb CN HX HB
  generalize w6.heap.size = B0 at HD
  have CC := Lib.hid (HD.out.crash [] none 0 ⟨by simp, fun x hx => by cases hx⟩ (fun h => absurd rfl h) (fun a h => absurd rfl h))
  rw [Cu.none50, show ([] : List Int).length = 0 from rfl] at CC
  go_wp2_with fail
  with_reducible refine CC.out.mono ?_
  rintro e w8 ⟨rfl, hd⟩
  replace HD := Lib.hid hd
  clear hd CC
  have CL := Lib.hid HD.out.load
  rw [show Cu.load ⟨50, 0, false, none, []⟩ = (51, Cu.c0) from rfl] at CL
  go_wp2_with fail
  with_reducible refine CL.out.mono ?_
  rintro e w9 ⟨rfl, hd⟩
  replace HD := Lib.hid (hd.box #[.int .i64 0, .int .i64 0] 71)
  clear hd CL
  unfold loadV13 Cu.c0
  simp only
  go_upto_region 14 with fail
  have q1 := HD.out.bx _ (List.mem_cons_self ..)
  have q2 := HD.out.bx _ (List.mem_cons_of_mem _ (List.mem_cons_self ..))
  have CS := Lib.hid (HD.out.save ⟨a, b⟩)
  rw [show Cu.save ⟨a, b⟩ ⟨50, 0, false, none, []⟩ = (51, ⟨50, 0, false, none, []⟩) from rfl] at CS
  obtain ⟨yb, hyb⟩ : ∃ x, x = w9.heap.size := ⟨_, rfl⟩
  obtain ⟨w10, hw10⟩ : ∃ x, x = w9.alloc (.cells #[.int .i64 0, .int .i64 0] 71) := ⟨_, rfl⟩
  rw [← hw10, ← hyb] at HD q1
  rw [← hw10, ← hyb] at CS
  rw [← hw10] at q2
  simp only [← hw10, ← hyb]
  clear hw10 hyb
  have HX := Lib.hid q2
  clear q1 q2
  go_wp2_with (refine wpList_load_row rfl 71 _ rfl xb rfl 71 _ (0, 0) _ HX.out Try.underlying71 rfl ?_ ?_; exact HI.out)
  with_reducible refine CS.out.mono ?_
  rintro e w11 ⟨rfl, hd⟩
  have q1 := hd.bx _ (List.mem_cons_self ..)
  have c0 : w11.cell? ⟨yb, 0, none⟩ = some (.int .i64 0) := q1.cell 0
  have c1 : w11.cell? ⟨yb, 1, none⟩ = some (.int .i64 0) := q1.cell 1
  have HB := Lib.hid hd.bel
  clear hd CS q1 HD HX
  go_wp2_with fail
  with_reducible refine (CD.out _).mono ?_
  rintro e w12 ⟨rfl, hb⟩
  replace HB := Lib.hid (below_step HB.out hb)
  clear hb CD
  go_wp2_with fail
  go_ret
  exact ⟨rfl, HB.out⟩

end Go.Proofs.Ytekmnpmeienhhaa
