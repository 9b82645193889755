/- Layer 16: the chapter's edits: lives, by a contract. -/
import Derived.Test.YtfcmjgcjmldpcaaEditsAb
import Derived.Test.YtfcmjgcjmldpcaaEditsE
namespace Go.Proofs.Ytfcmjgcjmldpcaa
set_option linter.unusedVariables false
set_option linter.unusedSimpArgs false
open Go Go.RowKit
attribute [local go_sem ↓] run_index_S
attribute [local go_sem] S_append S_extract

namespace Ed
def sA : St := ⟨[⟨[], [5]⟩], 1, 6⟩
def sB : St := ⟨[⟨[], [5]⟩, ⟨[109], [5]⟩], 1, 6⟩
def sC : St := ⟨[⟨[], [5]⟩, ⟨[109], [5, 7]⟩], 1, 8⟩
def sD : St := ⟨[⟨[], [5, 7]⟩], 1, 8⟩
theorem ok_one {l : List Int} {n : Int} (h : rise l n) (h1 : 1 < n) (h2 : n ≤ 2147483647) : Ok ⟨[⟨[], l⟩], 1, n⟩ := ⟨by simp, by simp, by simp, h1, h2, rfl, fun i hi => by
  have : i = 0 := by simp at hi; exact hi
  subst this
  exact ⟨fun h => absurd h (by omega), by simp, h⟩⟩
theorem ok_two {k : List UInt8} {l l' : List Int} {n : Int} (h : rise l n) (h' : rise l' n) (hk : k ≠ []) (hl : k.length ≤ 64) (h1 : 1 < n) (h2 : n ≤ 2147483647) : Ok ⟨[⟨[], l⟩, ⟨k, l'⟩], 1, n⟩ := ⟨by simp, by simp, by simp, h1, h2, rfl, fun i hi => by
  have : i = 0 ∨ i = 1 := by simp at hi; omega
  rcases this with rfl | rfl
  · exact ⟨fun h => absurd h (by omega), by simp, h⟩
  · exact ⟨fun _ => nil_less hk, hl, h'⟩⟩
theorem ok_sA : Ok sA := ok_one ⟨⟨by decide, by decide, trivial⟩, by decide⟩ (by decide) (by decide)
theorem ok_sB : Ok sB := ok_two ⟨⟨by decide, by decide, trivial⟩, by decide⟩ ⟨⟨by decide, by decide, trivial⟩, by decide⟩ (by simp) (by decide) (by decide) (by decide)
theorem ok_sC : Ok sC := ok_two ⟨⟨by decide, by decide, trivial⟩, by decide⟩ ⟨⟨by decide, by decide, by decide, by decide, trivial⟩, by decide⟩ (by simp) (by decide) (by decide) (by decide)
theorem ok_sD : Ok sD := ok_one ⟨⟨by decide, by decide, by decide, by decide, trivial⟩, by decide⟩ (by decide) (by decide)
theorem apply_eq {s t : St} {e : Ed} (hs : Ok s) (h1 : 0 ≤ e.file ∧ e.file < 2147483647) (h : edit s e = some t) (ht : Ok t) : apply s e = some t := by
  unfold apply
  rw [if_pos ⟨hs, h1⟩, h]
  simp only [Option.bind_some]
  rw [if_pos ht]
theorem lives_all : all first [⟨1, 0, 5, [], []⟩, ⟨3, 0, 0, [], [109]⟩, ⟨1, 1, 7, [], []⟩] = some sC := by
  simp only [all]
  rw [apply_eq (t := sA) ok_first ⟨by decide, by decide⟩ rfl ok_sA]
  simp only [Option.bind_some]
  rw [apply_eq (t := sB) ok_sA ⟨by decide, by decide⟩ rfl ok_sB]
  simp only [Option.bind_some]
  rw [apply_eq (t := sC) ok_sB ⟨by decide, by decide⟩ rfl ok_sC]
  rfl
theorem lives_merge : apply sC ⟨4, 0, 0, [], []⟩ = some sD := apply_eq ok_sC ⟨by decide, by decide⟩ rfl ok_sD
theorem lives_no : apply first ⟨1, 0, 1, [], []⟩ = none := by
  unfold apply
  rw [if_pos ⟨ok_first, by decide, by decide⟩]
  rfl
end Ed
def lvE : List Re := [⟨1, 0, 5, [], none, 0, []⟩, ⟨3, 0, 0, [], none, 0, [109]⟩, ⟨1, 1, 7, [], none, 0, []⟩]
def lvC : Array Value := #[.int .i64 1, .int .i64 0, .int .i64 5, .slice none 0 0, .string ⟨#[]⟩, .int .i64 3, .int .i64 0, .int .i64 0, .slice none 0 0, .string ⟨#[109]⟩, .int .i64 1, .int .i64 1, .int .i64 7, .slice none 0 0, .string ⟨#[]⟩]
theorem lvE_in : ResIn lvE := ⟨by decide, fun r hr => by
  simp only [lvE, List.mem_cons, List.not_mem_nil, or_false] at hr
  rcases hr with rfl | rfl | rfl <;> exact ⟨by decide, by decide, fun n hn => by simp at hn⟩⟩
theorem lvE_at {w : World} {g : Nat} (h : BkIn lvC 27 w g) : EdsAt w (some ⟨g, 0, none⟩) lvE := fun _ => ⟨g, 0, rfl, fun j hj => by
  have : j = 0 ∨ j = 1 ∨ j = 2 := by simp [lvE] at hj; omega
  rcases this with rfl | rfl | rfl
  · exact ⟨h.cell 0, h.cell 1, h.cell 2, h.cell 3, h.cell 4, nsAt_nil _ _⟩
  · exact ⟨h.cell 5, h.cell 6, h.cell 7, h.cell 8, h.cell 9, nsAt_nil _ _⟩
  · exact ⟨h.cell 10, h.cell 11, h.cell 12, h.cell 13, h.cell 14, nsAt_nil _ _⟩⟩
def LivesR (w : World) (e : Ending) (w' : World) : Prop := e = .returned (.bool true) ∧ Below w.heap.size w w'
theorem tbs_one {R : List Rt} {a : Ed.Tb} (h : tbs R = [a]) : ∃ o k, R = [⟨a.f, a.l, o, k⟩] := by
  unfold tbs at h
  match R, h with
  | [r], h => simp only [List.map_cons, List.map_nil, List.cons.injEq, and_true] at h; subst h; exact ⟨r.o, r.k, rfl⟩
theorem tbs_two {R : List Rt} {a b : Ed.Tb} (h : tbs R = [a, b]) : ∃ o k o' k', R = [⟨a.f, a.l, o, k⟩, ⟨b.f, b.l, o', k'⟩] := by
  unfold tbs at h
  match R, h with
  | [r, q], h =>
    simp only [List.map_cons, List.map_nil, List.cons.injEq, and_true] at h
    obtain ⟨h1, h2⟩ := h
    subst h1; subst h2
    exact ⟨r.o, r.k, q.o, q.k, rfl⟩
theorem bkIn_at {w : World} (C : Array Value) (T : TypeId) {n : Nat} (h : w.heap.size = n) : BkIn C T (w.alloc (.cells C T)) n := by subst h; exact bkIn_new C T w
theorem nsAt_two {w : World} {q : Nat} {x y : Int} (h : BkIn #[.int .i64 x, .int .i64 y] 3 w q) : NsAt w (some ⟨q, 0, none⟩) [x, y] := fun _ => ⟨q, 0, rfl, fun j hj => by
  have : j = 0 ∨ j = 1 := by simp at hj; omega
  rcases this with rfl | rfl
  · exact h.cell 0
  · exact h.cell 1⟩
theorem rtsOk_nil : RtsOk [rt0] := ⟨by decide, fun r hr => by rw [List.mem_singleton.1 hr]; decide, fun r hr => by rw [List.mem_singleton.1 hr]; decide⟩
/-- Small rows. -/
theorem rtsOk_two {f f' : List UInt8} {l l' : List Int} {o o' : Option Addr} {k k' : Nat} (h1 : f.length ≤ 64) (h2 : f'.length ≤ 64) (h3 : l.length ≤ 256) (h4 : l'.length ≤ 256) : RtsOk [⟨f, l, o, k⟩, ⟨f', l', o', k'⟩] :=
  ⟨by simp, fun r hr => by rcases List.mem_cons.1 hr with rfl | hr; (· simp only; omega); rw [List.mem_singleton.1 hr]; simp only; omega, fun r hr => by rcases List.mem_cons.1 hr with rfl | hr; (· simp only; omega); rw [List.mem_singleton.1 hr]; simp only; omega⟩
theorem rtsOk_one {f : List UInt8} {l : List Int} {o : Option Addr} {k : Nat} (h1 : f.length ≤ 64) (h3 : l.length ≤ 256) : RtsOk [⟨f, l, o, k⟩] :=
  ⟨by simp, fun r hr => by rw [List.mem_singleton.1 hr]; simp only; omega, fun r hr => by rw [List.mem_singleton.1 hr]; simp only; omega⟩
set_option maxHeartbeats 4000000 in
set_option maxRecDepth 100000 in
theorem lives16_any (w : World) : Calls Try.prog 11 #[] w (LivesR w) := by
  have C0 := Lib.hid first16_any
  have C1 := Lib.hid all16_any
  have C2 := Lib.hid apply16_any
  go_enter Try.func11, Try.ntmps11
  go_wp2_with fail
  with_reducible refine (C0.out _).mono ?_
  rintro e w1 ⟨⟨ao, cap, rfl, hT⟩, hb1⟩
  have HB1 := Lib.hid hb1
  have HT1 := Lib.hid hT
  clear hb1 hT
  have hba1 := (Below.refl w1.heap.size w1).alloc (Nat.le_refl _) (.cells lvC 27)
  have HBA1 := Lib.hid (HB1.out.trans (hba1.mono HB1.out.size))
  have CA := Lib.hid (show Calls Try.prog 23 #[stV ao 1 cap 1 2, .slice (some ⟨w1.heap.size, 0, none⟩) 3 3] (w1.alloc (.cells lvC 27)) (All16R Ed.first lvE (w1.alloc (.cells lvC 27))) from C1.out [rt0] rtsOk_nil ao cap 1 2 lvE lvE_in (some ⟨w1.heap.size, 0, none⟩) 3 _ (HT1.out.below hba1) (lvE_at (bkIn_new _ _ w1)))
  unfold lvC at CA
  go_wp2_with fail
  with_reducible refine (CA.out).mono ?_
  rintro e w2 ⟨hb2, (⟨t, R2, a2, c2, ho, ht, rfl, hT2, htb⟩ | ⟨hno, rfl⟩)⟩
  rotate_left
  · exact absurd ⟨Ed.ok_first, _, Ed.lives_all⟩ hno
  rw [show Ed.all Ed.first (eds lvE) = some Ed.sC from Ed.lives_all] at ht
  injection ht with ht
  subst ht
  obtain ⟨o0, k0, o1, k1, rfl⟩ := tbs_two htb
  have HB2 := Lib.hid (HBA1.out.trans (hb2.mono HBA1.out.size))
  have HT2 := Lib.hid hT2
  clear hb2 hT2 htb ho CA hba1
  unfold stV
  simp only [Ed.sC, List.length_cons, List.length_nil, Nat.zero_add, Nat.reduceAdd] at HT2 ⊢
  have hba2 := (Below.refl w2.heap.size w2).alloc (Nat.le_refl _) (.cells #[.slice a2 2 c2, .int .i64 1, .int .i64 8] 24)
  have HBA2 := Lib.hid (HB2.out.trans (hba2.mono HB2.out.size))
  have HTA2 := Lib.hid (HT2.out.below hba2)
  have CB := Lib.hid (show Calls Try.prog 12 #[.agg #[.slice a2 2 c2, .int .i64 1, .int .i64 8], .agg #[.int .i64 4, .int .i64 0, .int .i64 0, .slice none 0 0, .string ⟨#[]⟩]] (w2.alloc (.cells #[.slice a2 2 c2, .int .i64 1, .int .i64 8] 24)) (ApplyR Ed.sC ⟨4, 0, 0, [], none, 0, []⟩ (w2.alloc (.cells #[.slice a2 2 c2, .int .i64 1, .int .i64 8] 24))) from C2.out _ (rtsOk_two (by decide) (by decide) (by decide) (by decide)) a2 c2 1 8 ⟨4, 0, 0, [], none, 0, []⟩ (by decide) (by decide) (fun n hn => by simp at hn) _ HTA2.out (nsAt_nil _ _))
  have HX2 := Lib.hid (bkIn_new #[.slice a2 2 c2, .int .i64 1, .int .i64 8] 24 w2)
  clear hba2
  go_wp2_with fail
  with_reducible refine (CB.out).mono ?_
  rintro e w3 ⟨hb3, (⟨t, R3, g3, c3, ht, rfl, hO3, htb⟩ | ⟨hno, rfl⟩)⟩
  rotate_left
  · rw [show Ed.apply Ed.sC (⟨4, 0, 0, [], none, 0, []⟩ : Re).ed = some Ed.sD from Ed.lives_merge] at hno
    cases hno
  rw [show Ed.apply Ed.sC (⟨4, 0, 0, [], none, 0, []⟩ : Re).ed = some Ed.sD from Ed.lives_merge] at ht
  injection ht with ht
  subst ht
  obtain ⟨o3, k3, rfl⟩ := tbs_one htb
  have HB3 := Lib.hid (HBA2.out.trans (hb3.mono HBA2.out.size))
  have HT3 := Lib.hid hO3.at_
  have HX3 := Lib.hid (HX2.out.below hb3)
  have HTA3 := Lib.hid (HTA2.out.below hb3)
  have HS3 := Lib.hid (show w2.heap.size < w3.heap.size from by have := hb3.size; simp at this; omega)
  clear hb3 htb CB hO3 HX2 HTA2 HBA2 HBA1 HB1 HT1 HT2
  unfold stV
  simp only [Ed.sD, List.length_cons, List.length_nil, Nat.zero_add, Nat.reduceAdd] at HT3 ⊢
  have hba3 := (Below.refl w3.heap.size w3).alloc (Nat.le_refl _) (.cells #[.slice (some ⟨g3, 0, none⟩) 1 c3, .int .i64 1, .int .i64 8] 24)
  have HBA3 := Lib.hid (HB3.out.trans (hba3.mono HB3.out.size))
  go_wp2_with fail
  with_reducible refine (C0.out _).mono ?_
  rintro e w4 ⟨⟨ao4, cap4, rfl, hT⟩, hb4⟩
  have HT4 := Lib.hid hT
  have HX4 := Lib.hid ((HX3.out.below hba3).below hb4)
  have HY4 := Lib.hid ((bkIn_new #[.slice (some ⟨g3, 0, none⟩) 1 c3, .int .i64 1, .int .i64 8] 24 w3).below hb4)
  have HTA4 := Lib.hid ((HTA3.out.below hba3).below hb4)
  have HTB4 := Lib.hid ((HT3.out.below hba3).below hb4)
  have HB4 := Lib.hid (HBA3.out.trans (hb4.mono HBA3.out.size))
  have HS4 := Lib.hid (show w3.heap.size < w4.heap.size from by have := hb4.size; simp at this; omega)
  have CD := Lib.hid (show Calls Try.prog 12 #[stV ao4 1 cap4 1 2, .agg #[.int .i64 1, .int .i64 0, .int .i64 1, .slice none 0 0, .string ⟨#[]⟩]] w4 (ApplyR Ed.first ⟨1, 0, 1, [], none, 0, []⟩ w4) from C2.out [rt0] rtsOk_nil ao4 cap4 1 2 ⟨1, 0, 1, [], none, 0, []⟩ (by decide) (by decide) (fun n hn => by simp at hn) _ HT4.out (nsAt_nil _ _))
  clear hT hb4 hba3 HX3 HTA3 HT3 HBA3 HB3 HB2
  go_wp2_with fail
  with_reducible refine (CD.out).mono ?_
  rintro e w5 ⟨hb5, (⟨t, R5, g5, c5, ht, rfl, hO5, htb⟩ | ⟨hno, rfl⟩)⟩
  · rw [show Ed.apply Ed.first (⟨1, 0, 1, [], none, 0, []⟩ : Re).ed = none from Ed.lives_no] at ht
    cases ht
  have hba5 := (Below.refl w5.heap.size w5).alloc (Nat.le_refl _) (.cells #[.slice none 0 0, .int .i64 0, .int .i64 0] 24)
  have HX5 := Lib.hid ((HX4.out.below hb5).below hba5)
  have HY5 := Lib.hid ((HY4.out.below hb5).below hba5)
  have HTA5 := Lib.hid ((HTA4.out.below hb5).below hba5)
  have HTB5 := Lib.hid ((HTB4.out.below hb5).below hba5)
  have HB5 := Lib.hid ((HB4.out.trans (hb5.mono HB4.out.size)).trans (hba5.mono (HB4.out.trans (hb5.mono HB4.out.size)).size))
  unfold stV
  clear hb5 hba5 hno CD HX4 HY4 HTA4 HTB4 HB4 HT4
  have x0 : (w5.alloc (.cells #[.slice none 0 0, .int .i64 0, .int .i64 0] 24)).cell? ⟨w2.heap.size, 0, none⟩ = some (.slice a2 2 c2) := HX5.out.cell 0
  obtain ⟨gt, ot, rfl, ct⟩ := HTA5.out (by simp)
  have c1 := ct 1 (by simp)
  have x1 : (w5.alloc (.cells #[.slice none 0 0, .int .i64 0, .int .i64 0] 24)).cell? ⟨gt, ot + 2 + 1, none⟩ = some (.slice o1 2 k1) := by have := c1.2.1; simpa using this
  have HN1 := Lib.hid c1.2.2
  clear ct c1
  have hba6 := (Below.refl (w5.alloc (.cells #[.slice none 0 0, .int .i64 0, .int .i64 0] 24)).heap.size (w5.alloc (.cells #[.slice none 0 0, .int .i64 0, .int .i64 0] 24))).alloc (Nat.le_refl _) (.cells #[.int .i64 5, .int .i64 7] 3)
  have HX6 := Lib.hid (HX5.out.below hba6)
  have HY6 := Lib.hid (HY5.out.below hba6)
  have HTA6 := Lib.hid (HTA5.out.below hba6)
  have HTB6 := Lib.hid (HTB5.out.below hba6)
  have HB6 := Lib.hid (HB5.out.trans (hba6.mono HB5.out.size))
  have CS := Lib.hid (show Calls Try.prog 19 #[.slice o1 2 k1, .slice (some ⟨w5.heap.size + 1, 0, none⟩) 2 2] ((w5.alloc (.cells #[.slice none 0 0, .int .i64 0, .int .i64 0] 24)).alloc (.cells #[.int .i64 5, .int .i64 7] 3)) fun e w' => ∃ r, e = .returned (.bool r) ∧ (r = true ↔ ([5, 7] : List Int) = [5, 7]) ∧ ∃ m, w' = ((w5.alloc (.cells #[.slice none 0 0, .int .i64 0, .int .i64 0] 24)).alloc (.cells #[.int .i64 5, .int .i64 7] 3)).drewN m from
    sameInts16_any [5, 7] [5, 7] (by decide) (by decide) o1 (some ⟨w5.heap.size + 1, 0, none⟩) k1 2 _ (HN1.out.below hba6) (nsAt_two (bkIn_at _ _ (by simp))))
  clear hba6
  go_wp2_with fail
  with_reducible refine (CS.out).mono ?_
  rintro e wq ⟨r, rfl, hr, m, hwq⟩
  obtain rfl : r = true := hr.2 (by trivial)
  have hbq := below_drewN (Below.refl ((w5.alloc (.cells #[.slice none 0 0, .int .i64 0, .int .i64 0] 24)).alloc (.cells #[.int .i64 5, .int .i64 7] 3)).heap.size ((w5.alloc (.cells #[.slice none 0 0, .int .i64 0, .int .i64 0] 24)).alloc (.cells #[.int .i64 5, .int .i64 7] 3))) m
  rw [← hwq] at hbq
  have HX7 := Lib.hid (HX6.out.below hbq)
  have HY7 := Lib.hid (HY6.out.below hbq)
  have HTA7 := Lib.hid (HTA6.out.below hbq)
  have HTB7 := Lib.hid (HTB6.out.below hbq)
  have HB7 := Lib.hid (HB6.out.trans (hbq.mono HB6.out.size))
  clear hbq hwq hr CS HX6 HY6 HTA6 HTB6 HB6 HX5 HY5 HTA5 HTB5 HB5 x0 x1 HN1
  have y0 : wq.cell? ⟨w3.heap.size, 0, none⟩ = some (.slice (some ⟨g3, 0, none⟩) 1 c3) := HY7.out.cell 0
  obtain ⟨gt', ot', e, ct⟩ := HTB7.out (by simp)
  cases e
  have c1 := ct 0 (by simp)
  have y1 : wq.cell? ⟨g3, 1, none⟩ = some (.slice o3 2 k3) := by have := c1.2.1; simpa using this
  have HN2 := Lib.hid c1.2.2
  clear ct c1
  have hba8 := (Below.refl wq.heap.size wq).alloc (Nat.le_refl _) (.cells #[.int .i64 5, .int .i64 7] 3)
  have HX8 := Lib.hid (HX7.out.below hba8)
  have HTA8 := Lib.hid (HTA7.out.below hba8)
  have HB8 := Lib.hid (HB7.out.trans (hba8.mono HB7.out.size))
  have CS := Lib.hid (show Calls Try.prog 19 #[.slice o3 2 k3, .slice (some ⟨wq.heap.size, 0, none⟩) 2 2] (wq.alloc (.cells #[.int .i64 5, .int .i64 7] 3)) fun e w' => ∃ r, e = .returned (.bool r) ∧ (r = true ↔ ([5, 7] : List Int) = [5, 7]) ∧ ∃ m, w' = (wq.alloc (.cells #[.int .i64 5, .int .i64 7] 3)).drewN m from
    sameInts16_any [5, 7] [5, 7] (by decide) (by decide) o3 (some ⟨wq.heap.size, 0, none⟩) k3 2 _ (HN2.out.below hba8) (nsAt_two (bkIn_at _ _ rfl)))
  have x7 : wq.cell? ⟨w2.heap.size, 0, none⟩ = some (.slice (some ⟨gt, ot, none⟩) 2 c2) := HX7.out.cell 0
  clear hba8
  go_wp2_with fail
  with_reducible refine (CS.out).mono ?_
  rintro e wp ⟨r, rfl, hr, m, hwp⟩
  obtain rfl : r = true := hr.2 (by trivial)
  have hbq := below_drewN (Below.refl (wq.alloc (.cells #[.int .i64 5, .int .i64 7] 3)).heap.size (wq.alloc (.cells #[.int .i64 5, .int .i64 7] 3))) m
  rw [← hwp] at hbq
  have HX9 := Lib.hid (HX8.out.below hbq)
  have HTA9 := Lib.hid (HTA8.out.below hbq)
  have HB9 := Lib.hid (HB8.out.trans (hbq.mono HB8.out.size))
  clear hbq hwp hr CS HX8 HTA8 HB8 HX7 HY7 HTA7 HTB7 HB7 y0 y1 HN2 x7
  have CF := Lib.hid (fun (key : List UInt8) (x : World) (h : TbsAt x (some ⟨gt, ot, none⟩) [⟨[], [5], o0, k0⟩, ⟨[109], [5, 7], o1, k1⟩]) => show Calls Try.prog 17 #[.agg #[.slice (some ⟨gt, ot, none⟩) 2 c2, .int .i64 1, .int .i64 8], .string (S key)] x fun e w' => e = .returned (.int .i64 (Ed.find Ed.sC key)) ∧ Below x.heap.size x w' from
    (find16_any _ (rtsOk_two (by decide) (by decide) (by decide) (by decide)) (some ⟨gt, ot, none⟩) c2 1 8 key x h).mono (fun e w' ⟨i, he, h1, _, hb⟩ => ⟨by rw [he, h1 Ed.ok_sC]; rfl, hb⟩))
  have s0 : wp.cell? ⟨w2.heap.size, 0, none⟩ = some (.slice (some ⟨gt, ot, none⟩) 2 c2) := HX9.out.cell 0
  have s1 : wp.cell? ⟨w2.heap.size, 1, none⟩ = some (.int .i64 1) := HX9.out.cell 1
  have s2 : wp.cell? ⟨w2.heap.size, 2, none⟩ = some (.int .i64 8) := HX9.out.cell 2
  have CG := Lib.hid (show Calls Try.prog 17 #[.agg #[.slice (some ⟨gt, ot, none⟩) 2 c2, .int .i64 1, .int .i64 8], .string ⟨#[97]⟩] wp fun e w' => e = .returned (.int .i64 0) ∧ Below wp.heap.size wp w' from CF.out [97] wp HTA9.out)
  go_wp2_with fail
  with_reducible refine (CG.out).mono ?_
  rintro e wra ⟨rfl, hb⟩
  have HX10 := Lib.hid (HX9.out.below hb)
  have HTA10 := Lib.hid (HTA9.out.below hb)
  have HB10 := Lib.hid (HB9.out.trans (hb.mono HB9.out.size))
  clear hb CG HX9 HTA9 HB9 s0 s1 s2
  have s0 : wra.cell? ⟨w2.heap.size, 0, none⟩ = some (.slice (some ⟨gt, ot, none⟩) 2 c2) := HX10.out.cell 0
  have s1 : wra.cell? ⟨w2.heap.size, 1, none⟩ = some (.int .i64 1) := HX10.out.cell 1
  have s2 : wra.cell? ⟨w2.heap.size, 2, none⟩ = some (.int .i64 8) := HX10.out.cell 2
  have CG := Lib.hid (show Calls Try.prog 17 #[.agg #[.slice (some ⟨gt, ot, none⟩) 2 c2, .int .i64 1, .int .i64 8], .string ⟨#[109]⟩] wra fun e w' => e = .returned (.int .i64 1) ∧ Below wra.heap.size wra w' from CF.out [109] wra HTA10.out)
  go_wp2_with fail
  with_reducible refine (CG.out).mono ?_
  rintro e wrb ⟨rfl, hb⟩
  have HX11 := Lib.hid (HX10.out.below hb)
  have HTA11 := Lib.hid (HTA10.out.below hb)
  have HB11 := Lib.hid (HB10.out.trans (hb.mono HB10.out.size))
  clear hb CG HX10 HTA10 HB10 s0 s1 s2
  have s0 : wrb.cell? ⟨w2.heap.size, 0, none⟩ = some (.slice (some ⟨gt, ot, none⟩) 2 c2) := HX11.out.cell 0
  have s1 : wrb.cell? ⟨w2.heap.size, 1, none⟩ = some (.int .i64 1) := HX11.out.cell 1
  have s2 : wrb.cell? ⟨w2.heap.size, 2, none⟩ = some (.int .i64 8) := HX11.out.cell 2
  have CG := Lib.hid (show Calls Try.prog 17 #[.agg #[.slice (some ⟨gt, ot, none⟩) 2 c2, .int .i64 1, .int .i64 8], .string ⟨#[122]⟩] wrb fun e w' => e = .returned (.int .i64 1) ∧ Below wrb.heap.size wrb w' from CF.out [122] wrb HTA11.out)
  go_wp2_with fail
  with_reducible refine (CG.out).mono ?_
  rintro e wrc ⟨rfl, hb⟩
  have HX12 := Lib.hid (HX11.out.below hb)
  have HTA12 := Lib.hid (HTA11.out.below hb)
  have HB12 := Lib.hid (HB11.out.trans (hb.mono HB11.out.size))
  clear hb CG HX11 HTA11 HB11 s0 s1 s2
  have s2 : wrc.cell? ⟨w2.heap.size, 2, none⟩ = some (.int .i64 8) := HX12.out.cell 2
  go_wp2_with fail
  go_ret
  exact ⟨rfl, HB12.out⟩

end Go.Proofs.Ytfcmjgcjmldpcaa
