/- Texts of lower layers, as one. -/
import Derived.Test.YtmammmjmipgmoaaGreatDoorZHc
/- Layer 6: load. By wip/tools/genhlload.py. -/
namespace Go.Proofs.YtmammmjmipgmoaaGreatDoor
set_option linter.unusedVariables false
open Go Go.RowKit Go.Maps Go.Shelf
attribute [local go_sem ↓] run_index_S
attribute [local go_sem] S_append S_extract
attribute [local go_sem] Oper.semAt_some

namespace Hl
/-- What a disk has, where it has segments; tz: what is torn behind the last one. -/
structure LdOk (D : Dk.St) (Z : List Sg) (tz : List UInt8) : Prop where
  nums : sortI6 (numsOf [108] 0 999999999 (Dk.names D.L)) = Z.map fun s => (s.n : Int)
  read : ∀ i (hi : i < Z.length), Dk.read (nm Z[i].n) D = (0, dat Z[i].L ++ (if i + 1 = Z.length then tz else []))
  mays : ∀ s ∈ Z, Mays s.L
  tail : Tail tz
  chain : ∀ i (hi : i + 1 < Z.length), Z[i + 1].n = Z[i].n + Z[i].L.length
  few : Z.length ≤ 1000
  small : ∀ s ∈ Z, s.n + s.L.length ≤ 900
  none : Z = [] → tz = []
theorem ends_cons (x : M.Sp) (L : List M.Sp) : ends (x :: L) = (fr x).length :: (ends L).map ((fr x).length + ·) := by
  unfold ends
  rw [List.length_cons, List.range_succ_eq_map, List.map_cons, List.map_map, List.map_map]
  congr 1
  · simp [dat]
  · refine List.map_congr_left fun i _ => ?_
    simp only [Function.comp_apply, List.take_succ_cons, dat_cons, List.length_append]
theorem recs_snd : ∀ (L : List M.Sp) (a : Nat), (recs a L).map (·.2) = (ends L).map (a + ·)
  | [], a => rfl
  | x :: L, a => by
    unfold recs
    rw [List.map_cons, recs_snd L, ends_cons, List.map_cons, List.map_map]
    congr 1
    refine List.map_congr_left fun i _ => ?_
    simp only [Function.comp_apply]
    omega
theorem recs_ends (L : List M.Sp) : (recs 0 L).map (·.2) = ends L := by rw [recs_snd]; simp
theorem size_sm (s : Sg) : (smOf s).size = (dat s.L).length := by
  unfold Sm.size smOf
  simp only [ends_len]
  by_cases h : s.L = []
  · rw [h]; rfl
  · exact ends_last s.L h
theorem ends_le {L : List M.Sp} (h : Mays L) : ∀ e ∈ ends L, e ≤ 100 * (ends L).length := by
  intro e he
  unfold ends at he
  obtain ⟨i, hi, rfl⟩ := List.mem_map.1 he
  have h1 := dat_take_le L (i := i + 1) (j := L.length) (by have := List.mem_range.1 hi; omega)
  rw [List.take_length] at h1
  have := dat_most h
  rw [ends_len]
  omega
end Hl
section
variable {X : Nat → Prop} {B b d : Nat} {G : Hl.Lg} {D : Dk.St} {w w' : World}
open Hl
/-- What load leaves. -/
def LdR (B b d st : Nat) (Z : List Sg) (tz : List UInt8) (w : World) (e : Ending) (w' : World) : Prop :=
  e = .returned (.tuple #[.bool (decide (tz ≠ [])), .int .i64 0]) ∧ ∃ vs P, LgIn B b d ⟨st, false, Z.map smOf⟩ vs P w' ∧ Wr (fun k => k = b) w w' ∧ (∀ k, LgF b vs P k → k = b ∨ w.heap.size ≤ k)
/-- What holds at the loop's head. -/
structure LdI (B b d st : Nat) (Z : List Sg) (tz : List UInt8) (w : World) (tb eb : Nat) (nv : Value) (i : Nat) (vs : Value) (P : List (Sm × Value)) (ds : List Deferred) (wr : World) : Prop where
  L : LgIn B b d ⟨st, false, (Z.take i).map smOf⟩ vs P wr
  W : Wr (fun k => k = b) w wr
  F : ∀ k, LgF b vs P k → k = b ∨ w.heap.size ≤ k
  t : Bk #[.bool (decide (i = Z.length ∧ tz ≠ []))] 4 wr tb
  e : Bk #[.int .i64 0] 25 wr eb
  m : MarksAt w.heap.size ds wr
  r : wr.ownsRow w.heap.size 3 1 nv Z.length (ints5 (Z.map fun s => (s.n : Int)))
theorem LgIn.far {C : Array Value} {T : TypeId} {t : Nat} {vs : Value} {P : List (Sm × Value)} (h : LgIn B b d G vs P w) (k : Bk C T w t) (hb : b ≠ t) (h1 : T ≠ 88) (h2 : T ≠ 3) : ∀ q, LgF b vs P q → q ≠ t := fun q hq e => by
  rcases hq with rfl | hq | ⟨p, hp, hq⟩
  · exact hb e
  · exact h.row.ne k h1 q hq e
  · exact (ofr_own (h.ends p hp)).ne k h2 q hq e
theorem ofr_cells6 {e : TypeId} {sz n : Nat} {v : Value} {xs : List Value} (h : Ofr B e sz v n xs w) : ∀ q, v.ownBlock = some q → ∃ o : Obj, w.heap[q]? = some o ∧ o.isCells = true := by
  intro q hq
  rcases h.2 with ⟨rfl, _⟩ | ⟨g, off, cap, cur, rfl, _, hg, _⟩
  · cases hq
  · simp only [Value.ownBlock, Option.some.injEq] at hq
    subst hq
    exact ⟨_, hg, rfl⟩
theorem LgIn.cells {vs : Value} {P : List (Sm × Value)} (h : LgIn B b d G vs P w) : ∀ k, LgF b vs P k → ∃ o : Obj, w.heap[k]? = some o ∧ o.isCells = true := fun q hq => by
  rcases hq with rfl | hq | ⟨p, hp, hq⟩
  · exact bk_cells h.box
  · exact ofr_cells6 h.row q hq
  · exact own_cells (h.ends p hp) q hq
theorem wr_bel6 {n : Nat} (h : Below n w w') : Wr (fun x => n ≤ x) w w' := ⟨h.os, h.tape, h.output, h.size, fun k _ hn => h.block k (by omega)⟩
theorem Turn6.wr {n : Nat} (h : Turn6 n w w') : Wr (fun k => ∃ o : Obj, w.heap[k]? = some o ∧ o.isCells = false) w w' := ⟨h.bel.os, h.bel.tape, h.bel.output, by rw [h.size]; exact Nat.le_refl _, fun k hk hn => by
  have e : w.heap[k]? = some w.heap[k] := Array.getElem?_eq_getElem hk
  rw [e]
  refine h.cells k _ e ?_
  cases hc : w.heap[k].isCells with
  | true => rfl
  | false => exact absurd ⟨_, e, hc⟩ hn⟩
theorem MarksAt.bel {B n : Nat} {w w' : World} (hb : Below n w w') : ∀ {ds : List Deferred}, (∀ e ∈ ds, ∀ r, e.target = .collected r → r < n) → MarksAt B ds w → MarksAt B ds w'
  | [], _, _ => trivial
  | d :: ds, hn, ⟨⟨q, h1, h2, h3, h4⟩, h5⟩ => ⟨⟨q, h1, h2, (hb.block q (hn d (List.mem_cons_self ..) q h1)).trans h3, h4⟩, MarksAt.bel hb (fun e he => hn e (List.mem_cons_of_mem _ he)) h5⟩
theorem MarksAt.lt' {B : Nat} {w : World} {ds : List Deferred} (h : MarksAt B ds w) : ∀ e ∈ ds, ∀ r, e.target = .collected r → r < w.heap.size := fun e he r hr => by
  obtain ⟨q, h1, h2⟩ := h.lt e he
  rw [hr] at h1
  injection h1 with h1
  omega
/-- A way out alone: the function returns. -/
def QRet6 (L : Act → World → Prop) : Exit → Act → World → Prop
  | .ret, a, w => L a w
  | _, _, _ => False
/-- What holds between two records. -/
structure LiI (bg sn bx : Nat) (W6 : World) (pre : List (List UInt8 × Nat)) (W : World) : Prop where
  g : ∃ ao cap, Bk #[.int .i64 (sn : Nat), .slice ao pre.length cap] 88 W bg ∧ W.ownsRow (bx + 1) 3 1 (.slice ao pre.length cap) pre.length (nats (pre.map (·.2)))
  bel : Below bg W6 W
  sz : bx + 1 ≤ W.heap.size
theorem liI_own (bg sn bx : Nat) (W6 : World) (BB : Nat) (hB : bg ≤ BB) : OwnFrom BB (LiI bg sn bx W6) := by
  rintro pre W W' row ⟨⟨ao, cap, h1, h2⟩, h4, h5⟩ hg hr
  have hr' : ∀ r, row = some r → ∃ o : Obj, W.heap[r]? = some o ∧ o.isCells = false := fun r e => (hr r e).2
  exact ⟨⟨ao, cap, bk_turn h1 hg hr', own_turn h2 hg hr'⟩, h4.grown hg (by have := h1.lt; omega) (fun k e => Nat.le_trans hB (hr k e).1), Nat.le_trans h5 hg.size⟩
set_option maxHeartbeats 8000000 in
set_option maxRecDepth 100000 in
theorem load6_in (n : Nat) (hn3 : 3 ≤ n) (h : DkX X B d D w) (hX : ∀ k, X k → k < w.heap.size) (hB : B ≤ w.heap.size) (hv : Vr w) (h3 : 3 ≤ B) {st : Nat} (hst : st ≤ 1000000000) (hb : Bk #[.pointer (some ⟨d, 0, none⟩), .int .i64 (st : Nat), .bool false, .slice none 0 0] 48 w b) (hbB : B ≤ b) (hbX : X b)
    (Z : List Sg) (tz : List UInt8) (hZ : LdOk D Z tz) :
    CallsIn Fence.wide n Tryz.prog 60 #[.pointer (some ⟨b, 0, none⟩)] w (LdR B b d st Z tz w) := by
  have CN := Lib.hid (fun W (k : Below w.heap.size w W) => show Calls Tryz.prog 114 #[.pointer (some ⟨d, 0, none⟩), .string { data := #[108] }, .int .i64 0, .int .i64 999999999] W (RowN (Z.map fun s => (s.n : Int)) W) from by
    have := numbers6_any (h.below k) (hv.below k) [108] 0 999999999 (by decide) (by decide)
    rw [hZ.nums] at this
    exact this)
  have c0 : ∀ o o', ((w.alloc o).alloc o').cell? ⟨b, 0, none⟩ = some (.pointer (some ⟨d, 0, none⟩)) := fun o o' => ((hb.more o).more o').cell 0
  refine callsIn_of_wp_marks Tryz.func60 rfl trivial ?_ rfl
  simp only [Tryz.ntmps60, List.size_toArray, List.length_cons, List.length_nil, Nat.reduceAdd, Nat.reduceSub, Array.replicate_succ, Array.replicate_zero, List.push_toArray, List.append_toArray, List.nil_append, List.cons_append]
  refine wpIn_wide.2 ?_
  refine wp_mono (Q := QRet6 (fun a wx => LeavesInM Fence.wide n Tryz.prog Tryz.f60 a.tmps (LdR B b d st Z tz w) a.defers .returning wx)) ?_ (fun e a w h => by cases e <;> first | exact h | exact h.elim)
  generalize hQQ : (fun (a : Act) (wx : World) => LeavesInM Fence.wide n Tryz.prog Tryz.f60 a.tmps (LdR B b d st Z tz w) a.defers .returning wx) = QQ
  have HQ := Lib.hid (show ∀ (a : Act) (wx : World), LeavesInM Fence.wide n Tryz.prog Tryz.f60 a.tmps (LdR B b d st Z tz w) a.defers .returning wx → QRet6 QQ .ret a wx from fun a wx q => by rw [← hQQ]; exact q)
  clear hQQ
  go_wp2_with fail
  have hb2 := ((Below.refl w.heap.size w).alloc (Nat.le_refl _) (.cells #[.bool false] 4)).alloc (by simp) (.cells #[.int .i64 0] 25)
  have kt : Bk #[.bool false] 4 ((w.alloc (.cells #[.bool false] 4)).alloc (.cells #[.int .i64 0] 25)) w.heap.size := (bk_new _ _ _).more _
  have ke : Bk #[.int .i64 0] 25 ((w.alloc (.cells #[.bool false] 4)).alloc (.cells #[.int .i64 0] 25)) (w.heap.size + 1) := by
    have := bk_new #[.int .i64 0] 25 (w.alloc (.cells #[.bool false] 4))
    rw [World.size_alloc] at this
    exact this
  with_reducible refine (CN.out _ hb2).mono ?_
  rintro e w1 ⟨ao, cap, rfl, hr, hb1⟩
  clear CN c0
  rw [List.length_map] at hr ⊢
  have HI0 := Lib.hid (show LdI B b d st Z tz w w.heap.size (w.heap.size + 1) (.slice ao Z.length cap) 0 (.slice none 0 0) [] [] w1 from
    ⟨⟨(hb.below hb2).below hb1, Ofr.nil _ _ _ _, rfl, (fun p hp => by cases hp), List.Pairwise.nil, ⟨by simp, (fun s hs => by cases hs), hst⟩, hbB⟩, (wr_below hb2).trans (wr_below hb1), (fun k hk => by
      rcases hk with q | q | ⟨p, hp, q⟩
      · exact .inl q
      · cases q
      · cases hp), by
      have h0 : decide (0 = Z.length ∧ tz ≠ []) = false := by
        simp only [decide_eq_false_iff_not, not_and, Classical.not_not]
        exact fun q => hZ.none (List.length_eq_zero_iff.1 q.symm)
      rw [h0]; exact kt.below hb1, ke.below hb1, trivial, row_base5 hr hb2.size⟩)
  obtain ⟨tb, htb⟩ : ∃ x, x = w.heap.size := ⟨_, rfl⟩
  obtain ⟨eb, heb⟩ : ∃ x, x = w.heap.size + 1 := ⟨_, rfl⟩
  rw [← heb, ← htb] at HI0
  have hsz1 : w.heap.size + 2 ≤ w1.heap.size := by have := hb1.size; simp at this; omega
  have HTB := Lib.hid (show w.heap.size ≤ tb ∧ tb < eb ∧ b < w.heap.size from ⟨by omega, by omega, hb.lt⟩)
  obtain ⟨PL, hPL⟩ : ∃ x, x = Z.length := ⟨_, rfl⟩
  have HPL := Lib.hid hPL
  have hfew : PL ≤ 1000 := by rw [hPL]; exact hZ.few
  have H3 := Lib.hid h3
  have HD := Lib.hid h
  have HX0 := Lib.hid hX
  have HV0 := Lib.hid hv
  have HBK := Lib.hid hbX
  have HZ := Lib.hid hZ
  have HB0 := Lib.hid hB
  clear h hX hv h3 hst hb hbB hbX hZ hb2 kt ke hr hb1 hB
  go_wp2_with fail
  rw [← heb, ← htb, ← hPL]
  clear htb heb hPL
  rw [← HPL.out] at HI0
  refine wp_loop (fun a wr => ∃ u5 u6 u7 u8 u9 u10 u11 u12 u20 u21 u22 u23 u24 u25 u26 u27 u28 u29 u30 u31 u32 u33 u34 u35 u36 u37 u38 u39 u40 u41 u42 u43 u44 u45 u46 u47 u48 u49 u50 u51 u52 u53 u54 u55 u56 u57 u58 u59 u60 u61 u62 u63 u64 u65 u66 u67 u68 u69 u70 u71 u72 u73 u74 u75 u76 u77 u78 u79 u80 u81 u82 u83 u84 u85 u86 u87 u88 u89 u90 u91, ∃ (i : Nat) (vs : Value) (P : List (Sm × Value)) (ds : List Deferred), (i ≤ PL ∧ u20 = .int .i64 (i : Nat) ∧ Hid (LdI B b d st Z tz w tb eb (.slice ao PL cap) i vs P ds wr)) ∧ a = { tmps := #[.pointer (some ⟨b, 0, none⟩), undef, .pointer (some ⟨tb, 0, none⟩), .pointer (some ⟨eb, 0, none⟩), undef, u5, u6, u7, u8, u9, u10, u11, u12, .pointer (some ⟨b, 0, none⟩), .pointer (some ⟨b, 0, none⟩), .pointer (some ⟨b, 0, none⟩), .pointer (some ⟨b, 0, none⟩), .pointer (some ⟨d, 0, none⟩), .slice ao PL cap, .int .i64 (PL : Nat), u20, u21, u22, u23, u24, u25, u26, u27, u28, u29, u30, u31, u32, u33, u34, u35, u36, u37, u38, u39, u40, u41, u42, u43, u44, u45, u46, u47, u48, u49, u50, u51, u52, u53, u54, u55, u56, u57, u58, u59, u60, u61, u62, u63, u64, u65, u66, u67, u68, u69, u70, u71, u72, u73, u74, u75, u76, u77, u78, u79, u80, u81, u82, u83, u84, u85, u86, u87, u88, u89, u90, u91], defers := ds }) (fun a _ => PL - (intOf (a.tmps.getD 20 undef)).toNat) ?_ ?_
  · (repeat apply Exists.intro); refine ⟨⟨Nat.zero_le _, rfl, HI0⟩, rfl⟩
  intro a1 w3 hinv
  obtain ⟨u5, hinv⟩ := hinv
  obtain ⟨u6, hinv⟩ := hinv
  obtain ⟨u7, hinv⟩ := hinv
  obtain ⟨u8, hinv⟩ := hinv
  obtain ⟨u9, hinv⟩ := hinv
  obtain ⟨u10, hinv⟩ := hinv
  obtain ⟨u11, hinv⟩ := hinv
  obtain ⟨u12, hinv⟩ := hinv
  obtain ⟨u20, hinv⟩ := hinv
  obtain ⟨u21, hinv⟩ := hinv
  obtain ⟨u22, hinv⟩ := hinv
  obtain ⟨u23, hinv⟩ := hinv
  obtain ⟨u24, hinv⟩ := hinv
  obtain ⟨u25, hinv⟩ := hinv
  obtain ⟨u26, hinv⟩ := hinv
  obtain ⟨u27, hinv⟩ := hinv
  obtain ⟨u28, hinv⟩ := hinv
  obtain ⟨u29, hinv⟩ := hinv
  obtain ⟨u30, hinv⟩ := hinv
  obtain ⟨u31, hinv⟩ := hinv
  obtain ⟨u32, hinv⟩ := hinv
  obtain ⟨u33, hinv⟩ := hinv
  obtain ⟨u34, hinv⟩ := hinv
  obtain ⟨u35, hinv⟩ := hinv
  obtain ⟨u36, hinv⟩ := hinv
  obtain ⟨u37, hinv⟩ := hinv
  obtain ⟨u38, hinv⟩ := hinv
  obtain ⟨u39, hinv⟩ := hinv
  obtain ⟨u40, hinv⟩ := hinv
  obtain ⟨u41, hinv⟩ := hinv
  obtain ⟨u42, hinv⟩ := hinv
  obtain ⟨u43, hinv⟩ := hinv
  obtain ⟨u44, hinv⟩ := hinv
  obtain ⟨u45, hinv⟩ := hinv
  obtain ⟨u46, hinv⟩ := hinv
  obtain ⟨u47, hinv⟩ := hinv
  obtain ⟨u48, hinv⟩ := hinv
  obtain ⟨u49, hinv⟩ := hinv
  obtain ⟨u50, hinv⟩ := hinv
  obtain ⟨u51, hinv⟩ := hinv
  obtain ⟨u52, hinv⟩ := hinv
  obtain ⟨u53, hinv⟩ := hinv
  obtain ⟨u54, hinv⟩ := hinv
  obtain ⟨u55, hinv⟩ := hinv
  obtain ⟨u56, hinv⟩ := hinv
  obtain ⟨u57, hinv⟩ := hinv
  obtain ⟨u58, hinv⟩ := hinv
  obtain ⟨u59, hinv⟩ := hinv
  obtain ⟨u60, hinv⟩ := hinv
  obtain ⟨u61, hinv⟩ := hinv
  obtain ⟨u62, hinv⟩ := hinv
  obtain ⟨u63, hinv⟩ := hinv
  obtain ⟨u64, hinv⟩ := hinv
  obtain ⟨u65, hinv⟩ := hinv
  obtain ⟨u66, hinv⟩ := hinv
  obtain ⟨u67, hinv⟩ := hinv
  obtain ⟨u68, hinv⟩ := hinv
  obtain ⟨u69, hinv⟩ := hinv
  obtain ⟨u70, hinv⟩ := hinv
  obtain ⟨u71, hinv⟩ := hinv
  obtain ⟨u72, hinv⟩ := hinv
  obtain ⟨u73, hinv⟩ := hinv
  obtain ⟨u74, hinv⟩ := hinv
  obtain ⟨u75, hinv⟩ := hinv
  obtain ⟨u76, hinv⟩ := hinv
  obtain ⟨u77, hinv⟩ := hinv
  obtain ⟨u78, hinv⟩ := hinv
  obtain ⟨u79, hinv⟩ := hinv
  obtain ⟨u80, hinv⟩ := hinv
  obtain ⟨u81, hinv⟩ := hinv
  obtain ⟨u82, hinv⟩ := hinv
  obtain ⟨u83, hinv⟩ := hinv
  obtain ⟨u84, hinv⟩ := hinv
  obtain ⟨u85, hinv⟩ := hinv
  obtain ⟨u86, hinv⟩ := hinv
  obtain ⟨u87, hinv⟩ := hinv
  obtain ⟨u88, hinv⟩ := hinv
  obtain ⟨u89, hinv⟩ := hinv
  obtain ⟨u90, hinv⟩ := hinv
  obtain ⟨u91, hinv⟩ := hinv
  obtain ⟨i, vs, P, ds, ⟨hi, hu20, HI⟩, ha⟩ := hinv
  subst ha hu20
  try dsimp only
  clear HI0
  by_cases hlt : i < PL
  · have d1 : decide ((i : Int) < (PL : Int)) = true := by simpa using hlt
    have d1' : decide (i < PL) = true := by simpa using hlt
    have hI := HI.out
    have hiz : i < Z.length := by rw [← HPL.out]; exact hlt
    obtain ⟨sg, hsg⟩ : ∃ s, s = Z[i] := ⟨_, rfl⟩
    have hsm : sg ∈ Z := by rw [hsg]; exact List.getElem_mem _
    have HMay := Lib.hid (HZ.out.mays sg hsm)
    have hsmall := HZ.out.small sg hsm
    have hrd := HZ.out.read i hiz
    obtain ⟨tl, htl⟩ : ∃ t, t = (if i + 1 = Z.length then tz else []) := ⟨_, rfl⟩
    rw [← htl, ← hsg] at hrd
    have HTail := Lib.hid (show Tail tl from by rw [htl]; split; exact HZ.out.tail; exact tail_nil)
    have HSG := Lib.hid hsg
    have HTL := Lib.hid htl
    have HRD := Lib.hid hrd
    have hkt := hI.t
    rw [show decide (i = Z.length ∧ tz ≠ []) = false from by simp; omega] at hkt
    have ct := hkt.cell 0
    obtain ⟨g, o, cap', hv9, k1, k2, k3, k4, k5, k6⟩ := (ofr_own hI.r).shape (by omega)
    simp only [Value.slice.injEq] at hv9
    obtain ⟨rfl, -, rfl⟩ := hv9
    have cn : w3.cell? ⟨g, o + i, none⟩ = some (.int .i64 (sg.n : Nat)) := by
      rw [k3 i (by omega)]
      unfold ints5
      rw [List.map_map, List.getElem?_map, List.getElem?_eq_getElem hiz, hsg]
      rfl
    have hPl : P.length = i := by rw [hI.L.len, List.length_map, List.length_take]; omega
    have HPl := Lib.hid hPl
    have HKT := Lib.hid hkt
    have hcap : PL ≤ cap := by have := HPL.out; omega
    obtain ⟨av, cv, rfl, -, -⟩ := hI.L.row.val
    have hchain : ∀ m, i = m + 1 → ∃ L' : Nat, (lastS ⟨st, false, (Z.take i).map smOf⟩).es.length = L' ∧ (lastS ⟨st, false, (Z.take i).map smOf⟩).n + L' = sg.n ∧ (lastS ⟨st, false, (Z.take i).map smOf⟩).fin ≤ 900 := fun m hm => by
      have hm2 : m < Z.length := by omega
      have e : lastS ⟨st, false, (Z.take i).map smOf⟩ = smOf Z[m] := by
        subst hm
        refine lastS_snoc (S0 := (Z.take m).map smOf) ?_
        rw [List.take_succ_eq_append_getElem hm2, List.map_append]
        rfl
      have hc := HZ.out.chain m (by omega)
      have hs := HZ.out.small Z[m] (List.getElem_mem _)
      rw [e]
      refine ⟨Z[m].L.length, ends_len _, ?_, ?_⟩
      · subst hm
        rw [hsg, hc]
        rfl
      · unfold Sm.fin smOf
        simp only [ends_len]
        exact hs
    have HChain := Lib.hid hchain
    have c3 := hI.L.cell3
    clear hI hkt hsg htl hrd hsm k1 k2 k3 k4 k5 k6 hchain hPl
    generalize hNP : P.length = NP at *
    have HNP := Lib.hid hNP
    clear hNP
    go_upto_region 4 with fail
    go_cut [41] from 24 to 41 (fun c wx => c = .bool false ∧ Hid (Below w3.heap.size w3 wx))
    case first =>
      have hNPi : NP = i := by rw [HPl.out]
      by_cases hi0 : i = 0
      · have d5 : decide ((0 : Int) < (NP : Int)) = false := by simp; omega
        have d5' : decide (0 < NP) = false := by simp; omega
        go_wp2_with fail
        go_meet
        case rel => exact ⟨rfl, Lib.hid (Below.refl _ _)⟩
      · obtain ⟨m, rfl⟩ : ∃ m, i = m + 1 := ⟨i - 1, by omega⟩
        subst hNPi
        obtain ⟨L', hl1, hl2, hl3⟩ := HChain.out m rfl
        obtain ⟨gs, os, cp, lv, hvs, q1, q2, q3, q4, q5, q6⟩ := HI.out.L.lastc (m := m) HNP.out
        simp only [Value.slice.injEq] at hvs
        obtain ⟨rfl, -, rfl⟩ := hvs
        have hrow : w3.ownsRow B 3 1 lv (lastS ⟨st, false, (Z.take (m + 1)).map smOf⟩).es.length (nats (lastS ⟨st, false, (Z.take (m + 1)).map smOf⟩).es) := HI.out.L.ends (lastS ⟨st, false, (Z.take (m + 1)).map smOf⟩, lv) (List.mem_of_getElem? q5)
        obtain ⟨al, cl, rfl⟩ := row_shape5 hrow
        have hbx := HI.out.L.box
        rw [hl1] at q4
        have hfin : (lastS ⟨st, false, (Z.take (m + 1)).map smOf⟩).n ≤ 900 := by unfold Sm.fin at hl3; omega
        have CT := Lib.hid (last6_in (G := ⟨st, false, (Z.take (m + 1)).map smOf⟩) hbx (by omega) q1)
        have HLN := Lib.hid hl2
        clear hrow q5 q6 hl1 hl3 hbx HChain HI hl2
        generalize (lastS ⟨st, false, (Z.take (m + 1)).map smOf⟩).n = ln at *
        have CE := Lib.hid (fun W => segEnd6 ln L' cl al (by omega) (by have := HLN.out; omega) W)
        have C5 := Lib.hid q3
        have C6 := Lib.hid q4
        have d5 : decide ((0 : Int) < ((m + 1 : Nat) : Int)) = true := decide_eq_true (by omega)
        have d6 : (((ln : Int) + (L' : Int)) != (sg.n : Int)) = false := by have := HLN.out; simp; omega
        go_wp2_with fail
        with_reducible refine CT.out.mono ?_
        rintro e w4 ⟨rfl, hb4⟩
        have HB4 := Lib.hid hb4
        have c5 := cell_below6 C5.out hb4
        have c6 := cell_below6 C6.out hb4
        clear hb4 CT q3 q4
        go_wp2_with fail
        with_reducible refine (CE.out _).mono ?_
        rintro e w5 ⟨rfl, hb5⟩
        have HB5 := Lib.hid (below_step HB4.out hb5)
        clear hb5 CE c5 c6
        go_wp2_with fail
        go_meet
        case rel => exact ⟨rfl, HB5⟩
    case rest =>
    obtain ⟨rfl, HB4⟩ := hcut
    clear ct cn c3
    have HD4 := Lib.hid ((HD.out.wr HI.out.W (fun k hk => by rw [hk]; exact HBK.out)).below HB4.out)
    have HV4 := Lib.hid ((HV0.out.wr HI.out.W (fun k hk q => by have := HI.out.L.bB; have := H3.out; omega)).below HB4.out)
    have HL4 := Lib.hid (HI.out.L.below HB4.out)
    have c0 : ∀ o, (wc.alloc o).cell? ⟨b, 0, none⟩ = some (.pointer (some ⟨d, 0, none⟩)) := fun o => (HL4.out.box.more o).cell 0
    go_upto_region 7 with fail
    have hb5 := (Below.refl wc.heap.size wc).alloc (Nat.le_refl _) (.cells #[.int .i64 (sg.n : Nat), .slice none 0 0] 88)
    have bk5 := bk_new #[.int .i64 (sg.n : Nat), .slice none 0 0] 88 wc
    have HW5 := Lib.hid hb5
    have hbg : ∃ bg, bg = wc.heap.size := ⟨_, rfl⟩
    obtain ⟨bg, hbg⟩ := hbg
    rw [← hbg] at bk5 ⊢
    have HBG := Lib.hid hbg
    have HK5 := Lib.hid bk5
    clear hb5 bk5 hbg c0
    generalize wc.alloc (.cells #[.int .i64 (sg.n : Nat), .slice none 0 0] 88) = w5 at *
    have CN := Lib.hid (fun W (k : Below w5.heap.size w5 W) => name6_any ⟨sg.n, []⟩ (.slice none 0 0) (by simp only; omega) W ((HV4.out.below HW5.out).below k))
    have hnl2 : (nm sg.n).length ≤ 11 := nm_len (by omega)
    have CD := Lib.hid (fun W (k : Below w5.heap.size w5 W) => readX ((HD4.out.below HW5.out).below k) (nm sg.n) (by omega))
    rw [HRD.out] at CD
    obtain ⟨txt, htxt⟩ : ∃ t, t = dat sg.L ++ tl := ⟨_, rfl⟩
    rw [← htxt] at CD
    have HTXT := Lib.hid htxt
    have C4 := Lib.hid (show w5.cell? ⟨b, 0, none⟩ = some (.pointer (some ⟨d, 0, none⟩)) from (HL4.out.box.below HW5.out).cell 0)
    have C5 := Lib.hid (show w5.cell? ⟨bg, 0, none⟩ = some (.int .i64 (sg.n : Nat)) from HK5.out.cell 0)
    have C6 := Lib.hid (show w5.cell? ⟨bg, 1, none⟩ = some (.slice none 0 0) from HK5.out.cell 1)
    clear htxt hnl2
    generalize hN : S (nm sg.n) = N at *
    clear hN
    obtain ⟨sn, hsn⟩ : ∃ x, x = sg.n := ⟨_, rfl⟩
    have HSN := Lib.hid hsn
    simp only at CN
    rw [← hsn] at CN C5 HK5 hsmall ⊢
    clear hsn
    have c4 := C4.out
    have c5 := C5.out
    have c6 := C6.out
    go_region_held3 (fun W => W.cell? ⟨b, 0, none⟩ = some (.pointer (some ⟨d, 0, none⟩)) ∧ W.cell? ⟨bg, 0, none⟩ = some (.int .i64 (sn : Nat)) ∧ W.cell? ⟨bg, 1, none⟩ = some (.slice none 0 0)) (go_keep) (first
      | (go_at_call 73; refine (CN.out _ ((Below.refl _ w5).drew)).mono ?_; rintro e w6 ⟨rfl, hb6⟩; have HB6 := Lib.hid (below_step ((Below.refl _ w5).drew) hb6); clear hb6; have z4 := cell_below6 C4.out HB6.out; have z5 := cell_below6 C5.out HB6.out; have z6 := cell_below6 C6.out HB6.out)
      | (go_at_call 107; refine (CD.out _ HB6.out).mono ?_; rintro e w7 ⟨rfl, hb7⟩; have HB7 := Lib.hid (below_step HB6.out hb7); clear hb7; have v4 := cell_below6 C4.out HB7.out; have v5 := cell_below6 C5.out HB7.out; have v6 := cell_below6 C6.out HB7.out))
    clear z4 z5 z6 v4 v5 v6 c4 c5 c6 CN CD C4 C5 C6
    have CE6 := Lib.hid (fun l W => eachF_any6 l W)
    have HK7 := Lib.hid (HK5.out.below HB7.out)
    go_wp2_with fail
    with_reducible refine (CE6.out _ _).mono ?_
    rintro e w8 ⟨rfl, rfl⟩
    clear CE6
    go_wp2_with fail
    have hbox : (w7.alloc (.cells #[.string (S txt)] 9)).cell? ⟨w7.heap.size, 0, none⟩ = some (.string (S txt)) := (bk_new #[.string (S txt)] 9 w7).cell 0
    have hbgl : bg < w7.heap.size := HK7.out.lt
    have hI0 : LiI bg sn w7.heap.size w7 [] (w7.alloc (.cells #[.string (S txt)] 9)) := ⟨⟨none, 0, HK7.out.more _, World.ownsRow_nil _ _ _ _⟩, ((Below.refl w7.heap.size w7).alloc (Nat.le_refl _) _).mono (by omega), by simp⟩
    have hsz0 : (w7.alloc (.cells #[.string (S txt)] 9)).heap.size = w7.heap.size + 1 := by simp
    generalize w7.alloc (.cells #[.string (S txt)] 9) = W0 at *
    have htl : txt.length ≤ 1000000 := by
      rw [HTXT.out, List.length_append]
      have := dat_most HMay.out
      have := HTail.out.2
      omega
    have hru : M.runs txt 0 = recs 0 sg.L := by have := runs_rec HTail.out sg.L [] HMay.out; rw [HTXT.out]; simpa using this
    have HRU := Lib.hid hru
    clear hru
    refine (wpIn_wide (n := 5)).1 ?_
    refine wpIn_rangeFunc_ownF rfl (by omega) (gf := 150) (lb := #[.pointer (some ⟨w7.heap.size, 0, none⟩)]) rfl trivial (enters_of Tryz.func150 (by kernel_rfl) rfl)
      (each_stops6 txt htl (5 - 1) (by omega) w7.heap.size (w7.heap.size + 1) W0 (by omega) (by omega) hbox) kpB_t (kpB_b (by omega)) (Below.refl _ _) (fun _ => rfl)
      (fun (ys : List (RunX txt)) W => LiI bg sn w7.heap.size w7 (vals6 ys) W) (fun _ _ _ => False) (fun s => liI_own bg sn w7.heap.size w7 _ (by omega) (vals6 s)) (fun _ _ _ _ _ hs _ _ => hs) hI0
      (fun (x : RunX txt) => { tmps := #[.pointer (some ⟨b, 0, none⟩), undef, .pointer (some ⟨tb, 0, none⟩), .pointer (some ⟨eb, 0, none⟩), undef, .int .i64 (sn : Nat), .pointer (some ⟨bg, 0, none⟩), .string (S txt), .int .i64 0, .string (S x.1.1), .int .i64 (x.1.2 : Nat), u11, u12, .pointer (some ⟨b, 0, none⟩), .pointer (some ⟨b, 0, none⟩), .pointer (some ⟨b, 0, none⟩), .pointer (some ⟨b, 0, none⟩), .pointer (some ⟨d, 0, none⟩), .slice (some ⟨g, o, none⟩) PL cap, .int .i64 (PL : Nat), .int .i64 (i : Nat), .bool true, .pointer (some ⟨g, o + i, none⟩), .int .i64 (sn : Nat), u24, u25, u26, u27, u28, u29, u30, u31, u32, u33, u34, u35, u36, u37, u38, u39, u40, .bool false, .int .i64 (sn : Nat), .agg #[.int .i64 (sn : Nat), .slice none 0 0], .tuple #[.string (S txt), .int .i64 0], .pointer (some ⟨b, 0, none⟩), .pointer (some ⟨b, 0, none⟩), .pointer (some ⟨b, 0, none⟩), .pointer (some ⟨b, 0, none⟩), .pointer (some ⟨d, 0, none⟩), .agg #[.int .i64 (sn : Nat), .slice none 0 0], .string N, .tuple #[.string (S txt), .int .i64 0], .string (S txt), .int .i64 0, .int .i64 0, .bool false, u57, .string (S txt), .func (Fn.func 150) #[] #[.pointer (some ⟨w7.heap.size, 0, none⟩)], .string (S x.1.1), .int .i64 (x.1.2 : Nat), u62, u63, u64, u65, u66, u67, u68, u69, u70, u71, u72, u73, u74, u75, u76, u77, u78, u79, u80, u81, u82, u83, u84, u85, u86, u87, u88, u89, u90, u91], defers := [] }) ?assign ?body ?done ?stop
    case assign =>
      intro lp x W K hK
      gi_wp2
      exact hK
    case body =>
      rintro lp pre0 ⟨x, hx⟩ W hI hlen
      have hdec : ∃ y, M.dec x.1 = some y ∧ x.1.length ≤ 140737488351232 := by
        rw [HRU.out] at hx
        have h2 : x.1 ∈ sg.L.map M.enc := by rw [← recs_fst sg.L 0]; exact List.mem_map_of_mem hx
        obtain ⟨y, hy, e⟩ := List.mem_map.1 h2
        have := M.enc_len (HMay.out y hy).1
        exact ⟨y, by rw [← e, M.dec_enc (HMay.out y hy).2 (HMay.out y hy).1], by rw [← e]; omega⟩
      obtain ⟨y, hy, hxl⟩ := hdec
      obtain ⟨pre, hpre⟩ : ∃ pre, pre = vals6 pre0 := ⟨_, rfl⟩
      have HVS := Lib.hid (show vals6 (pre0 ++ [⟨x, hx⟩]) = pre ++ [x] from by rw [vals6_snoc, hpre])
      rw [← vals6_len] at hlen
      change LiI bg sn w7.heap.size w7 (vals6 pre0) W at hI
      rw [← hpre] at hI hlen
      dsimp only
      obtain ⟨⟨ae, ce, hg, hrow⟩, hbel, hsz2⟩ := id hI
      have hpl : pre.length ≤ 1000000 := by omega
      obtain ⟨K, hK⟩ : ∃ K, K = pre.length := ⟨_, rfl⟩
      rw [← hK] at hg hrow hpl
      have HKK := Lib.hid hK
      have HI2 := Lib.hid hI
      have CD := Lib.hid (decode_any x.1 hxl W)
      rw [hy] at CD
      change Hid (Calls Tryz.prog 113 #[.string (S x.1)] W fun e w' => e = .returned (.tuple #[.agg #[.int .i64 y.trace, .int .i64 y.id, .int .i64 y.parent, .string (S y.svc), .string (S y.host), .int .i64 y.start, .int .i64 y.dur, .string (S y.note)], .int .i64 0]) ∧ Below W.heap.size W w') at CD
      have HG := Lib.hid hg
      have HRow := Lib.hid hrow
      have HBEL := Lib.hid hbel
      clear hI hg hrow hbel hK hpre hlen hy hxl
      gi_wp2
      refine ⟨trivial, (CallsIn.inRound lp (callsIn_wide.2 CD.out)).mono ?_⟩
      rintro e wa ⟨rfl, hba⟩
      have HGa := Lib.hid (HG.out.below hba)
      have HRa := Lib.hid (row_below5 HRow.out hba)
      have HBa := Lib.hid hba
      have cs : ∀ C, (wa.alloc (.cells C 39)).cell? ⟨bg, 1, none⟩ = some (.slice ae K ce) := fun C => (HGa.out.more _).cell 1
      have hsa := hba.size
      have hz2 : w7.heap.size + 1 ≤ wa.heap.size := by omega
      obtain ⟨j0, hj, hy0, hy1, hy2⟩ := info_parts infoInt5
      clear hba CD
      gi_wp2_with (gi_at_builtin; go_loud (refine wpListIn_append_own_at _ rfl _ _ 40 rfl (w7.heap.size + 1) 3 j0 (.int .i64 0) 1 8 Tryz.underlying40 hj hy0 hy1 hy2 rfl (by decide) (.slice ae K ce) K _ rfl ((HRa.out.alloc _).alloc _) ⟨wa.heap.size + 1, 0, none⟩ 1 1 [.int .i64 (x.2 : Nat)] rfl rfl (by have := cell_one_new (wa.alloc (.cells #[.int .i64 y.trace, .int .i64 y.id, .int .i64 y.parent, .string (S y.svc), .string (S y.host), .int .i64 y.start, .int .i64 y.dur, .string (S y.note)] 39)) (.int .i64 (x.2 : Nat)) 3; rw [World.size_alloc] at this; exact this) (by simp [Value.oneCell']) (by unfold maxLen; omega) (by omega) (by rw [World.size_alloc, World.size_alloc]; omega) ?_; intro vb wb hob hgb _ h7; obtain ⟨ab, cb, rfl⟩ := row_shape5 hob; have HOB := Lib.hid hob; have HGB := Lib.hid hgb; have hkb := ((HGa.out.more _).more _).grown hgb (fun e => (ofr_own HRa.out).ne HGa.out (by decide) _ e.symm rfl); have n0 := hkb.cell 1; have f0 := hkb.free 1; have HKB := Lib.hid hkb; clear hob hgb h7 hkb))
      have hwb : Wr (fun q => q = bg ∨ (Value.slice ae K ce).ownBlock = some q) W (wb.setCell ⟨bg, 1, none⟩ (.slice ab (K + 1) cb)) :=
        (((wr_below HBa.out).trans ((wr_alloc _ _).trans (wr_alloc _ _))).trans (wr_grown HGB.out (fun q hq => .inl (.inr hq)))).trans (wr_set _ _ _ (.inl rfl))
      have hlt7 := (ofr_own HRow.out).lt
      refine ⟨keepsO_wr hwb (fun q hq => by
          rcases hq with rfl | q
          · exact bk_cells HG.out
          · exact own_cells HRow.out _ q), ⟨World.cell?_of_block (a := ⟨w7.heap.size, 0, none⟩) (hwb.block _ (by show w7.heap.size < W.heap.size; omega) (fun q => by
          rcases q with q | q
          · simp only at q; omega
          · have := (hlt7 _ q).1; simp only at this; omega)), hwb.size⟩, show LiI bg sn w7.heap.size w7 (vals6 (pre0 ++ [⟨x, hx⟩])) _ from by
        rw [HVS.out]
        refine ⟨⟨ab, cb, ?_, ?_⟩, HBEL.out.trans (hwb.below (fun q hq => ?_) (by omega)), by have := hwb.size; omega⟩
        · rw [List.length_append, List.length_singleton, ← HKK.out]
          exact HKB.out.set 1 _
        · rw [List.length_append, List.length_singleton, ← HKK.out, List.map_append, nats_app]
          exact row_set5 HOB.out ((ofr_own HOB.out).ne HKB.out (by decide))
        · rcases hq with q | q
          · omega
          · have := (hlt7 _ q).1; omega⟩
    case done =>
      rintro DD ys W hDD hys hI hK
      have HDK := Lib.hid hK
      have hsz00 := hsz0
      change LiI bg sn w7.heap.size w7 (vals6 ys) W at hI
      rw [hys, HRU.out] at hI
      obtain ⟨⟨ae, ce, hg, hrow⟩, hbel, hsz2⟩ := hI
      rw [recs_len] at hg hrow
      rw [recs_ends] at hrow
      have hEl : (smOf sg).es.length = sg.L.length := ends_len _
      have HE9 := Lib.hid (show W.ownsRow B 3 1 (.slice ae sg.L.length ce) (smOf sg).es.length (nats (smOf sg).es) from by
        rw [hEl]
        exact row_base5 hrow (by have := HB0.out; have := HI.out.W.size; have := HB4.out.size; have := HW5.out.size; have := HB7.out.size; omega))
      have HNV := Lib.hid (fun q hq => (hrow.lt q hq).1)
      have hb37 := below_step (below_step HB4.out HW5.out) HB7.out
      have hw3bg : w3.heap.size ≤ bg := by rw [HBG.out]; exact HB4.out.size
      have HB3 := Lib.hid (hb37.trans (hbel.mono hw3bg))
      have HKT2 := Lib.hid (HKT.out.below HB3.out)
      have HG := Lib.hid hg
      have ho := HTB.out
      have hs3 := HI.out.W.size
      have htbl := HKT.out.lt
      have hLl : sg.L.length ≤ 900 := by omega
      have CZ := Lib.hid (size6_any (smOf sg) (.slice ae sg.L.length ce) B W HE9.out (by rw [hEl]; omega))
      rw [size_sm] at CZ
      have hn0 : (smOf sg).n = sn := by rw [HSN.out]; rfl
      rw [hn0] at CZ
      have HTN := Lib.hid (show decide ((dat sg.L).length < txt.length) = decide (i + 1 = Z.length ∧ tz ≠ []) from by
        rw [HTXT.out, List.length_append, HTL.out]
        by_cases q : i + 1 = Z.length
        · rw [if_pos q]
          cases tz with
          | nil => simp
          | cons x r => simp [q]
        · rw [if_neg q]
          simp [q])
      have xg0 := HG.out.cell 0
      have xg1 := HG.out.cell 1
      have xt := HKT2.out.cell 0
      clear hg hrow hEl hn0 hbel hys htl hbox hI0 hsz0
      generalize hdl : (dat sg.L).length = dl at *
      have HDL := Lib.hid hdl
      clear hdl
      generalize hLn : sg.L.length = Ln at *
      have HLn := Lib.hid hLn
      clear hLn
      obtain ⟨tn, htn⟩ : ∃ x, x = decide (i + 1 = Z.length ∧ tz ≠ []) := ⟨_, rfl⟩
      rw [← htn] at HTN
      have HTN2 := Lib.hid htn
      clear htn
      have d7 := HTN.out
      go_wp2_with fail
      with_reducible refine CZ.out.mono ?_
      rintro e wz ⟨rfl, hbz⟩
      have HBZ := Lib.hid hbz
      have HKT3 := Lib.hid (HKT2.out.below hbz)
      have xt3 := HKT3.out.cell 0
      have ft3 := HKT3.out.free 0
      clear hbz CZ xg0 xg1 xt
      go_upto_region 18 with fail
      obtain ⟨w9, hw9⟩ : ∃ x, x = wz.setCell ⟨tb, 0, none⟩ (.bool tn) := ⟨_, rfl⟩
      rw [← hw9]
      have hset9 := wr_set (A := fun z => z = tb) wz ⟨tb, 0, none⟩ (.bool tn) rfl
      have hwr9 : Wr (fun z => z = tb) w3 w9 := by rw [hw9]; exact (wr_below (below_step HB3.out HBZ.out)).trans hset9
      have HWR9 := Lib.hid hwr9
      have HKT9 := Lib.hid (show Bk #[.bool tn] 4 w9 tb from by rw [hw9]; exact HKT3.out.set 0 _)
      have HL9 := Lib.hid (HI.out.L.wr hwr9 (fun k hk q => HI.out.L.far HKT.out (by omega) (by decide) (by decide) k hk q))
      have hbgtb : bg ≠ tb := by omega
      have HG9 := Lib.hid (show Bk #[.int .i64 (sn : Nat), .slice ae Ln ce] 88 w9 bg from by rw [hw9]; exact (HG.out.below HBZ.out).other hbgtb _ _)
      have HE10 := Lib.hid (show w9.ownsRow B 3 1 (.slice ae Ln ce) (smOf sg).es.length (nats (smOf sg).es) from by
        rw [hw9]; exact row_set5 (row_below5 HE9.out HBZ.out) ((ofr_own (row_below5 HE9.out HBZ.out)).ne HKT3.out (by decide)))
      have HSZ9 := Lib.hid (show w3.heap.size ≤ bg ∧ bg < w9.heap.size ∧ w7.heap.size < w9.heap.size from by
        refine ⟨hw3bg, HG9.out.lt, ?_⟩
        have h1 := HBZ.out.size
        rw [hw9]
        simp only [World.setCell, Array.size_modify]
        omega)
      have HKO9 := Lib.hid (show KeepsOthers W w9 from by rw [hw9]; exact (keepsO_below HBZ.out).trans (KeepsOthers.setCell _ _ _))
      clear hw9 hset9 hwr9 xt3 ft3
      obtain ⟨i0, hi0, hz0, hz1, hz2⟩ := info_parts infoSeg6
      have HR := Lib.hid HL9.out.row
      rw [HNP.out] at HR
      have hNP2 : NP ≤ 1000 := by have := HPl.out; omega
      have HBB := Lib.hid (show B ≤ w9.heap.size from by have := HB0.out; have := HWR9.out.size; omega)
      have F1 := Lib.hid (show w9.cell? ⟨bg, 0, none⟩ = some (.int .i64 (sn : Nat)) from HG9.out.cell 0)
      have F2 := Lib.hid (show w9.cell? ⟨bg, 1, none⟩ = some (.slice ae Ln ce) from HG9.out.cell 1)
      have F3 := Lib.hid (show w9.cell? ⟨b, 3, none⟩ = some (.slice av NP cv) from HL9.out.cell3)
      have HVF := Lib.hid (fun q (hq : (Value.slice av NP cv).ownBlock = some q) => (show LgF b (.slice av NP cv) P q from .inr (.inl hq)))
      have NE1 := Lib.hid (show ¬ (Value.slice av NP cv).ownBlock = some bg from fun e => by have := (HI.out.L.lt bg (HVF.out bg e)).2; have := HSZ9.out; omega)
      have NE2 := NE1
      have NE3 := Lib.hid (show ¬ (Value.slice av NP cv).ownBlock = some b from fun e => HR.out.ne HL9.out.box (by decide) b e rfl)
      have FZ := Lib.hid (fun (wx wy : World) (h1 : Below w9.heap.size w9 wx) (h2 : Wr (fun q => (Value.slice av NP cv).ownBlock = some q) wx wy) => ((HL9.out.box.below h1).wr h2 NE3.out).free 3)
      refine wp_region_Z (S := fun V => V.cell? ⟨bg, 0, none⟩ = some (.int .i64 (sn : Nat)) ∧ V.cell? ⟨bg, 1, none⟩ = some (.slice ae Ln ce) ∧ V.cell? ⟨b, 3, none⟩ = some (.slice av NP cv)) 10 (by kernel_rfl) ?_ (fun hHeld => ?_)
      · exact ⟨cell_below6 F1.out (Below.refl _ _).drew, cell_below6 F2.out (Below.refl _ _).drew, cell_below6 F3.out (Below.refl _ _).drew⟩
      have HX := Lib.hid (Below.refl w9.heap.size w9).drew
      obtain ⟨wd, hwd⟩ : ∃ x, x = World.drew w9 := ⟨_, rfl⟩
      rw [← hwd] at HX hHeld ⊢
      clear hwd
      refine wpAnyZ_takeY (i := 0) (oi := { dst := some 80, op := Op.move (Operand.tmp 0), type := 33, pos := "hostlog.go:93", after := #[], guard := none }) (v := ?_) rfl (by kernel_rfl) (by kernel_rfl) (by kernel_rfl) (by rfl) (fun _ _ _ h => h) (Or.inl ⟨by rfl, ?_⟩) (by assumption) ?_
      rotate_left
      · (intro w; go_simp); (first | done | with_reducible rfl)
      try simp only [Act.put, List.setIfInBounds_toArray, List.set_cons_zero, List.set_cons_succ]
      refine wpAnyZ_takeY (i := 1) (oi := { dst := some 81, op := Op.move (Operand.tmp 0), type := 33, pos := "hostlog.go:93", after := #[], guard := none }) (v := ?_) rfl (by kernel_rfl) (by kernel_rfl) (by kernel_rfl) (by rfl) (fun _ _ _ h => h) (Or.inl ⟨by rfl, ?_⟩) (by assumption) ?_
      rotate_left
      · (intro w; go_simp); (first | done | with_reducible rfl)
      try simp only [Act.put, List.setIfInBounds_toArray, List.set_cons_zero, List.set_cons_succ]
      refine wpAnyZ_takeY (i := 2) (oi := { dst := some 82, op := Op.nilCheck (Operand.tmp 81), type := 0, pos := "hostlog.go:93", after := #[{ on := 1, ground := Ground.data }], guard := none }) (v := ?_) rfl (by kernel_rfl) (by kernel_rfl) (by kernel_rfl) (by rfl) (fun _ _ _ h => h) (Or.inl ⟨by rfl, ?_⟩) (by assumption) ?_
      rotate_left
      · (intro w; go_simp); (first | done | with_reducible rfl)
      try simp only [Act.put, List.setIfInBounds_toArray, List.set_cons_zero, List.set_cons_succ]
      refine wpAnyZ_takeY (i := 3) (oi := { dst := some 83, op := Op.fieldAddr 48 (Operand.tmp 82) 1, type := 0, pos := "hostlog.go:93", after := #[{ on := 2, ground := Ground.data }], guard := none }) (v := ?_) rfl (by kernel_rfl) (by kernel_rfl) (by kernel_rfl) (by rfl) (fun _ _ _ h => h) (Or.inl ⟨by rfl, ?_⟩) (by assumption) ?_
      rotate_left
      · (intro w; go_simp); (first | done | with_reducible rfl)
      try simp only [Act.put, List.setIfInBounds_toArray, List.set_cons_zero, List.set_cons_succ]
      refine wpAnyZ_take (i := 4) (oi := { dst := some 84, op := Op.load 46 (Operand.tmp 83), type := 46, pos := "hostlog.go:93", after := #[{ on := 3, ground := Ground.data }], guard := none }) (v := ?_) [7, 8, 9, 10] rfl (by kernel_rfl) (by kernel_rfl) (by kernel_rfl) (by kernel_rfl) (fun _ _ _ h => h) (Or.inl ⟨by rfl, ?_⟩) (by assumption) ?_
      rotate_left
      · (intro w hSw; (try dsimp only at hSw); go_simp); (first | done | with_reducible rfl)
      try simp only [Act.put, List.setIfInBounds_toArray, List.set_cons_zero, List.set_cons_succ]
      refine wpAnyZ_take (i := 5) (oi := { dst := some 85, op := Op.load 88 (Operand.tmp 6), type := 88, pos := "hostlog.go:93", after := #[], guard := none }) (v := ?_) [6, 7, 8, 9, 10] rfl (by kernel_rfl) (by kernel_rfl) (by kernel_rfl) (by kernel_rfl) (fun _ _ _ h => h) (Or.inl ⟨by rfl, ?_⟩) (by assumption) ?_
      rotate_left
      · (intro w hSw; (try dsimp only at hSw); go_simp); (first | done | with_reducible rfl)
      try simp only [Act.put, List.setIfInBounds_toArray, List.set_cons_zero, List.set_cons_succ]
      refine wpAnyZ_ready (rs := [6]) (by kernel_rfl) (by simp) ?_
      refine AllReadyZ.cons (o := { dst := some 86, op := Op.buildSlice 46 1 #[(0, Operand.tmp 85)], type := 46, pos := "hostlog.go:93", after := #[{ on := 5, ground := Ground.data }], guard := none }) rfl (by rfl) (fun K hK => ?_) (AllReadyZ.nil)
      go_simp
      have HY := Lib.hid (bk_new #[.int .i64 (sn : Nat), .slice ae Ln ce] 88 wd)
      replace HX := Lib.hid (HX.out.alloc HX.out.size (.cells #[.int .i64 (sn : Nat), .slice ae Ln ce] 88))
      generalize hq12 : wd.heap.size = q12 at *
      generalize hw12 : wd.alloc (.cells #[.int .i64 (sn : Nat), .slice ae Ln ce] 88) = w12 at *
      clear hq12 hw12
      refine hK.out _ _ ?_ (fun hHeld => ?_)
      · exact ⟨cell_below6 F1.out HX.out, cell_below6 F2.out HX.out, cell_below6 F3.out HX.out⟩
      clear hK K
      try simp only [Act.put, List.setIfInBounds_toArray, List.set_cons_zero, List.set_cons_succ]
      refine wpAnyZ_ready (rs := [7]) (by kernel_rfl) (by simp) ?_
      refine AllReadyZ.cons (o := { dst := some 87, op := Op.call { callee := Callee.builtin Builtin.append, args := #[Operand.tmp 84, Operand.tmp 86], argTypes := #[46, 46] }, type := 46, pos := "hostlog.go:93", after := #[{ on := 4, ground := Ground.data }, { on := 6, ground := Ground.data }], guard := none }) rfl (by rfl) (fun K hK => ?_) (AllReadyZ.nil)
      refine step_append_ofr (by rfl) _ _ 46 (by rfl) i0 (.agg #[.int .i64 0, .slice none 0 0]) 32 Tryz.underlying46 hi0 hz0 hz1 hz2 rfl (by decide) (by rfl) (HR.out.below HX.out) ⟨q12, 0, none⟩ 1 1 [.int .i64 (sn : Nat), .slice ae Ln ce] (by rfl) rfl (fun j u hu => by rw [Addr.add_lit, Nat.zero_add, HY.out.cell]; simpa using hu) (fun u hu => by simp only [List.mem_cons, List.not_mem_nil, or_false] at hu; rcases hu with rfl | rfl <;> rfl) (by unfold maxLen; omega) (by omega) (Nat.le_trans HBB.out HX.out.size) ?_
      intro v13 w13 ho13 hw13 hv13
      obtain ⟨a13, c13, rfl, -, -⟩ := ho13.val
      have HO := Lib.hid ho13
      have HW13 := Lib.hid hw13
      have HV := Lib.hid hv13
      have x1 : w13.cell? ⟨bg, 0, none⟩ = some (.int .i64 (sn : Nat)) := cell_wr6 (cell_below6 F1.out HX.out) hw13 NE1.out
      have x2 : w13.cell? ⟨bg, 1, none⟩ = some (.slice ae Ln ce) := cell_wr6 (cell_below6 F2.out HX.out) hw13 NE2.out
      have x3 : w13.cell? ⟨b, 3, none⟩ = some (.slice av NP cv) := cell_wr6 (cell_below6 F3.out HX.out) hw13 NE3.out
      clear ho13 hw13 hv13 HY
      refine hK.out _ _ ?_ (fun hHeld => ?_)
      · exact ⟨x1, x2, x3⟩
      clear hK K
      try simp only [Act.put, List.setIfInBounds_toArray, List.set_cons_zero, List.set_cons_succ]
      refine wpAnyZ_takeY (i := 8) (oi := { dst := some 88, op := Op.nilCheck (Operand.tmp 80), type := 0, pos := "hostlog.go:93", after := #[{ on := 0, ground := Ground.data }, { on := 0, ground := Ground.phase }, { on := 1, ground := Ground.phase }, { on := 2, ground := Ground.phase }, { on := 3, ground := Ground.phase }, { on := 4, ground := Ground.phase }, { on := 5, ground := Ground.phase }, { on := 6, ground := Ground.phase }, { on := 7, ground := Ground.phase }], guard := none }) (v := ?_) rfl (by kernel_rfl) (by kernel_rfl) (by kernel_rfl) (by rfl) (fun _ _ _ h => h) (Or.inl ⟨by rfl, ?_⟩) (by assumption) ?_
      rotate_left
      · (intro w; go_simp); (first | done | with_reducible rfl)
      try simp only [Act.put, List.setIfInBounds_toArray, List.set_cons_zero, List.set_cons_succ]
      refine wpAnyZ_takeY (i := 9) (oi := { dst := some 89, op := Op.fieldAddr 48 (Operand.tmp 88) 1, type := 0, pos := "hostlog.go:93", after := #[{ on := 8, ground := Ground.data }, { on := 0, ground := Ground.phase }, { on := 1, ground := Ground.phase }, { on := 2, ground := Ground.phase }, { on := 3, ground := Ground.phase }, { on := 4, ground := Ground.phase }, { on := 5, ground := Ground.phase }, { on := 6, ground := Ground.phase }, { on := 7, ground := Ground.phase }], guard := none }) (v := ?_) rfl (by kernel_rfl) (by kernel_rfl) (by kernel_rfl) (by rfl) (fun _ _ _ h => h) (Or.inl ⟨by rfl, ?_⟩) (by assumption) ?_
      rotate_left
      · (intro w; go_simp); (first | done | with_reducible rfl)
      try simp only [Act.put, List.setIfInBounds_toArray, List.set_cons_zero, List.set_cons_succ]
      refine wpAnyZ_ready (rs := [10]) (by kernel_rfl) (by simp) ?_
      refine AllReadyZ.last (o := { dst := none, op := Op.store 46 (Operand.tmp 89) (Operand.tmp 87), type := 0, pos := "hostlog.go:93", after := #[{ on := 9, ground := Ground.data }, { on := 7, ground := Ground.data }, { on := 7, ground := Ground.chain }, { on := 0, ground := Ground.phase }, { on := 1, ground := Ground.phase }, { on := 2, ground := Ground.phase }, { on := 3, ground := Ground.phase }, { on := 4, ground := Ground.phase }, { on := 5, ground := Ground.phase }, { on := 6, ground := Ground.phase }, { on := 7, ground := Ground.phase }], guard := none }) rfl (fun K hK => ?_) AllReadyZ.nil
      have f9 : w13.frozen? ⟨b, 3, none⟩ = false := FZ.out w12 w13 HX.out HW13.out
      have m9 := x3
      go_simp
      refine hK.out _ _ ?_
      clear hK K
      refine wpAny_done (by kernel_rfl) ?_ _
      clear hHeld x1 x2 x3 m9 f9 F1 F2 F3 HR
      have hNP := HNP.out
      subst hNP
      have HK := Lib.hid (LgIn.push (s := smOf sg) (HL9.out.below HX.out) (by
          have h1 : (smOf sg).es.length = sg.L.length := ends_len _
          refine ⟨?_, fun e he => ends_le HMay.out e he⟩
          unfold Sm.fin
          rw [h1, HLn.out]
          have h2 : (smOf sg).n = sn := by rw [HSN.out]; rfl
          omega) (by rw [← HL9.out.len]; have := HPl.out; omega) (by
          have h2 : (smOf sg).n = sn := by rw [HSN.out]; rfl
          rw [h2]
          exact HO.out) HW13.out (row_below5 HE10.out HX.out) (fun k hk e => by
          have h1 := (HI.out.L.lt k hk).2
          have h2 := HNV.out k e
          have := HSZ9.out
          omega))
      have HPF := Lib.hid (fun z hz => push_F (b := b) (vs := .slice av P.length cv) (P := P) (s := smOf sg) (ve := .slice ae Ln ce) HV.out z hz)
      have HSET := Lib.hid (wr_set (A := fun z => z = b) w13 ⟨b, 3, none⟩ (.slice a13 (P.length + 1) c13) rfl)
      have HALL := Lib.hid (show Wr (fun k => k = tb ∨ k = b ∨ (Value.slice av P.length cv).ownBlock = some k) w3 (w13.setCell ⟨b, 3, none⟩ (.slice a13 (P.length + 1) c13)) from
        (((HWR9.out.mono (fun k hk => .inl (.inl hk))).trans (wr_below HX.out)).trans (HW13.out.mono (fun k hk => .inl (.inr (.inr hk))))).trans (HSET.out.mono (fun k hk => .inl (.inr (.inl hk)))))
      have htb0 : tb ≠ b := by omega
      have HK14 := Lib.hid ((((HKT9.out.below HX.out).wr HW13.out (fun e => HL9.out.row.ne HKT9.out (by decide) tb e rfl))).other (c := b) htb0 3 (.slice a13 (P.length + 1) c13))
      have hAF : ∀ k, (k = b ∨ (Value.slice av P.length cv).ownBlock = some k) → LgF b (.slice av P.length cv) P k := fun k hk => hk.elim .inl (fun q => .inr (.inl q))
      have heb : b ≠ eb := by omega
      have hfar := HI.out.L.far HI.out.e heb (by decide) (by decide)
      have HM9 := Lib.hid (show MarksAt w.heap.size ({ target := .collected DD, args := #[] } :: ds) w9 from by
        have h1 := HSZ9.out
        refine ⟨⟨DD, rfl, by omega, HKO9.out.same _ _ HDK.out rfl, fun e he h => ?_⟩, HI.out.m.keep (keepsO_wr HWR9.out (fun k hk => by rw [hk]; exact bk_cells HKT.out))⟩
        have := HI.out.m.lt' e he DD h
        have := HB4.out.size
        have := HW5.out.size
        have := HB7.out.size
        omega)
      have HM14 := Lib.hid (HM9.out.keep (((keepsO_below HX.out).trans (keepsO_wr HW13.out (fun k hk => ofr_cells6 (HL9.out.row.below HX.out) k hk))).trans (KeepsOthers.setCell w13 ⟨b, 3, none⟩ (.slice a13 (P.length + 1) c13))))
      have HNX := Lib.hid (show LdI B b d st Z tz w tb eb (.slice (some ⟨g, o, none⟩) PL cap) (i + 1) (.slice a13 (P.length + 1) c13) (P ++ [(smOf sg, .slice ae Ln ce)]) ({ target := .collected DD, args := #[] } :: ds) (w13.setCell ⟨b, 3, none⟩ (.slice a13 (P.length + 1) c13)) from by
        refine ⟨?_, HI.out.W.step HALL.out (fun k hk => ?_), fun k hk => ?_, ?_, HI.out.e.wr HALL.out (fun hk => ?_), HM14.out, row_wr HI.out.r HALL.out (fun q hq hk => ?_)⟩
        · have hiz2 : i < Z.length := hiz
          have e : (⟨st, false, (Z.take (i + 1)).map smOf⟩ : Lg) = (⟨st, false, (Z.take i).map smOf⟩ : Lg).push (smOf sg) := by
            unfold Lg.push
            rw [List.take_succ_eq_append_getElem hiz2, List.map_append, ← HSG.out]
            rfl
          rw [e]
          exact HK.out
        · rcases hk with rfl | hk
          · exact .inr (by omega)
          · rcases HI.out.F k (hAF k hk) with q | q
            · exact .inl q
            · exact .inr q
        · rcases HPF.out k hk with q | q | ⟨_, q⟩
          · exact HI.out.F k q
          · have h1 := HNV.out k q
            have h2 := HSZ9.out
            exact .inr (by omega)
          · have h1 := HX.out.size
            have h2 := HSZ9.out
            exact .inr (by omega)
        · rw [← HTN2.out]
          exact HK14.out
        · rcases hk with q | q
          · omega
          · exact hfar eb (hAF eb q) rfl
        · rcases hk with q | q | q
          · exact (ofr_own HI.out.r).ne HKT.out (by decide) _ hq q
          · exact (ofr_own HI.out.r).ne HI.out.L.box (by decide) _ hq q
          · exact rows_apart (ofr_own HI.out.r) HI.out.L.row (by decide) _ hq q)
      clear HALL HK14 hAF hfar HM9 HM14 HK HPF HSET HO HW13 HV
      go_wp2_with fail
      refine ⟨?_, ?_⟩
      · (repeat apply Exists.intro); refine ⟨⟨?_, ?_, HNX⟩, rfl⟩
        · omega
        · go_num
      · simp [intOf]; omega
    case stop =>
      rintro DD cd pre W _ _ hX _
      exact hX.elim

  · have d1 : decide ((i : Int) < (PL : Int)) = false := by simpa using hlt
    have d1' : decide (i < PL) = false := by simpa using hlt
    obtain rfl : i = PL := by omega
    have hI := HI.out
    have htt : decide (i = Z.length ∧ tz ≠ []) = decide (tz ≠ []) := by simp [HPL.out]
    have kt := hI.t
    rw [htt] at kt
    have ke := hI.e
    have ho := HTB.out
    have hszw := hI.W.size
    have ct := kt.cell 0
    have ft := kt.free 0
    have n1 : ¬ (eb = tb) := by omega
    have n2 : tb ≠ eb := by omega
    have ce : ∀ u, (w3.setCell ⟨tb, 0, none⟩ u).cell? ⟨eb, 0, none⟩ = some (.int .i64 0) := fun u => (ke.other n1 _ _).cell 0
    have fe : ∀ u, (w3.setCell ⟨tb, 0, none⟩ u).frozen? ⟨eb, 0, none⟩ = false := fun u => (ke.other n1 _ _).free 0
    have HKT := Lib.hid kt
    have HKE := Lib.hid ke
    clear hI kt ke htt
    obtain ⟨tn, htn⟩ : ∃ x, x = decide (tz ≠ []) := ⟨_, rfl⟩
    have HTN := Lib.hid htn
    rw [← htn] at HKT ct
    clear htn
    go_wp2_with fail
    have hI := HI.out
    have hw4 : Wr (fun k => k = tb ∨ k = eb) w3 ((w3.setCell ⟨tb, 0, none⟩ (.bool tn)).setCell ⟨eb, 0, none⟩ (.int .i64 0)) := (wr_set _ _ _ (.inl rfl)).trans (wr_set _ _ _ (.inr rfl))
    have hL4 := hI.L.wr hw4 (fun k hk q => by
      rcases q with rfl | rfl
      · exact hI.L.far HKT.out (by omega) (by decide) (by decide) k hk rfl
      · exact hI.L.far HKE.out (by omega) (by decide) (by decide) k hk rfl)
    have hT4 := (HKT.out.set 0 (.bool tn)).other (c := eb) n2 0 (.int .i64 0)
    have hE4 := (HKE.out.other (c := tb) n1 0 (.bool tn)).set 0 (.int .i64 0)
    have hM4 : MarksAt w.heap.size ds ((w3.setCell ⟨tb, 0, none⟩ (.bool tn)).setCell ⟨eb, 0, none⟩ (.int .i64 0)) := hI.m.keep ((KeepsOthers.setCell _ _ _).trans (KeepsOthers.setCell _ _ _))
    have hW4 : Wr (fun k => k = b) w ((w3.setCell ⟨tb, 0, none⟩ (.bool tn)).setCell ⟨eb, 0, none⟩ (.int .i64 0)) := hI.W.step hw4 (fun x hx => .inr (by rcases hx with rfl | rfl <;> omega))
    have hF4 := hI.F
    clear hI
    generalize (w3.setCell ⟨tb, 0, none⟩ (.bool tn)).setCell ⟨eb, 0, none⟩ (.int .i64 0) = w4 at *
    refine HQ.out _ _ (leaves_marks6 (B := w.heap.size) ds _ hW4.size hM4 (fun w5 ht => ?_))
    have t1 := (ht.bk hT4).cell 0
    have t2 := (ht.bk hE4).cell 0
    refine ⟨.tuple #[.bool tn, .int .i64 0], ?_, ?_⟩
    · simp [results, Tryz.f60, go_sem, t1, t2]
    · refine ⟨by rw [HTN.out], vs, P, ?_, hW4.step (wr_bel6 ht.bel) (fun x hx => .inr hx), hF4⟩
      have hS : (Z.take i).map smOf = Z.map smOf := by rw [List.take_of_length_le (by rw [← HPL.out]; exact Nat.le_refl _)]
      have := hL4.wr ht.wr (fun k hk ⟨o, h1, h2⟩ => by
        obtain ⟨o', h3, h4⟩ := hL4.cells k hk
        rw [h1] at h3
        cases h3
        rw [h4] at h2
        cases h2)
      rw [hS] at this
      exact this
theorem load6_any (h : DkX X B d D w) (hX : ∀ k, X k → k < w.heap.size) (hB : B ≤ w.heap.size) (hv : Vr w) (h3 : 3 ≤ B) {st : Nat} (hst : st ≤ 1000000000) (hb : Bk #[.pointer (some ⟨d, 0, none⟩), .int .i64 (st : Nat), .bool false, .slice none 0 0] 48 w b) (hbB : B ≤ b) (hbX : X b)
    (Z : List Sg) (tz : List UInt8) (hZ : LdOk D Z tz) :
    Calls Tryz.prog 60 #[.pointer (some ⟨b, 0, none⟩)] w (LdR B b d st Z tz w) :=
  callsIn_wide.1 (load6_in 4 (by omega) h hX hB hv h3 hst hb hbB hbX Z tz hZ)
end

end Go.Proofs.YtmammmjmipgmoaaGreatDoor
