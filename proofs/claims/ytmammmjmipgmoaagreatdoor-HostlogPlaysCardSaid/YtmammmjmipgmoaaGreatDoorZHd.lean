import Derived.Test.YtmammmjmipgmoaaGreatDoorZHc
import Derived.Test.YtmammmjmipgmoaaGreatDoorZQh
set_option linter.unusedVariables false
set_option maxRecDepth 100000
set_option maxHeartbeats 16000000
namespace Go.Proofs.YtmammmjmipgmoaaGreatDoor
open Go Go.RowKit Go.Maps Go.Shelf
attribute [local go_sem ↓] run_index_S
attribute [local go_sem] S_append S_extract
attribute [local go_sem] Oper.semAt_some
namespace Hl
structure LdOk (D : Dk.St) (Z : List Sg) (tz : List UInt8) : Prop where
 nums : Jbk (Jar [108] 0 999999999 (Dk.names D.L)) = Z.map fun s => (s.n : Int)
 read : ∀ i (hi : i < Z.length), Dk.read (nm Z[i].n) D = (0, dat Z[i].L ++ (if i + 1 = Z.length then tz else []))
 mays : ∀ s ∈ Z, Mays s.L
 tail : Tail tz
 chain : ∀ i (hi : i + 1 < Z.length), Z[i + 1].n = Z[i].n + Z[i].L.length
 few : Z.length ≤ 1000
 small : ∀ s ∈ Z, s.n + s.L.length ≤ 900
 none : Z = [] → tz = []
theorem ends_cons (x : M.Sp) (L : List M.Sp) : ends (x :: L) = (fr x).length :: (ends L).map ((fr x).length + ·) := by
 unfold ends;rw [List.length_cons, List.range_succ_eq_map, List.map_cons, List.map_map, List.map_map];congr 1
 ·simp [dat]
 ·refine List.map_congr_left fun i _ => ?_
  simp only [Function.comp_apply, List.take_succ_cons, dat_cons, List.length_append]
theorem recs_snd : ∀ (L : List M.Sp) (a : Nat), (recs a L).map (·.2) = (ends L).map (a + ·)
 | [], a => rfl
 | x :: L, a => by
  unfold recs;rw [List.map_cons, recs_snd L, ends_cons, List.map_cons, List.map_map];congr 1
  refine List.map_congr_left fun i _ => ?_
  simp only [Function.comp_apply];omega
theorem recs_ends (L : List M.Sp) : (recs 0 L).map (·.2) = ends L := by rw [recs_snd]; simp
theorem size_sm (s : Sg) : (smOf s).size = (dat s.L).length := by
 unfold Sm.size smOf;simp only [ends_len];by_cases h : s.L = []
 ·rw [h]; rfl
 ·exact ends_last s.L h
theorem ends_le {L : List M.Sp} (h : Mays L) : ∀ e ∈ ends L, e ≤ 100 * (ends L).length := by
 intro e he;unfold ends at he;obtain ⟨i, hi, rfl⟩ := List.mem_map.1 he;have h1 := dat_take_le L (i := i + 1) (j := L.length) (by have := List.mem_range.1 hi; omega);rw [List.take_length] at h1;have := dat_most h;rw [ends_len];omega
end Hl
section
variable {X : Nat → Prop} {B b d : Nat} {G : Hl.Lg} {D : Dk.St} {w w' : World}
open Hl
def LdR (B b d st : Nat) (Z : List Sg) (tz : List UInt8) (w : World) (e : Ending) (w' : World) : Prop :=
 e = .returned (.tuple #[.bool (decide (tz ≠ [])), .int .i64 0]) ∧ ∃ vs P, LgIn B b d ⟨st, false, Z.map smOf⟩ vs P w' ∧ Wr (fun k => k = b) w w' ∧ (∀ k, LgF b vs P k → k = b ∨ w.heap.size ≤ k)
structure LdI (B b d st : Nat) (Z : List Sg) (tz : List UInt8) (w : World) (tb eb : Nat) (nv : Value) (i : Nat) (vs : Value) (P : List (Sm × Value)) (ds : List Deferred) (wr : World) : Prop where
 L : LgIn B b d ⟨st, false, (Z.take i).map smOf⟩ vs P wr
 W : Wr (fun k => k = b) w wr
 F : ∀ k, LgF b vs P k → k = b ∨ w.heap.size ≤ k
 t : Bk #[.bool (decide (i = Z.length ∧ tz ≠ []))] 4 wr tb
 e : Bk #[.int .i64 0] 25 wr eb
 m : MarksAt w.heap.size ds wr
 r : wr.ownsRow w.heap.size 3 1 nv Z.length (Jap (Z.map fun s => (s.n : Int)))
theorem LgIn.far {C : Array Value} {T : TypeId} {t : Nat} {vs : Value} {P : List (Sm × Value)} (h : LgIn B b d G vs P w) (k : Bk C T w t) (hb : b ≠ t) (h1 : T ≠ 88) (h2 : T ≠ 3) : ∀ q, LgF b vs P q → q ≠ t := fun q hq e => by
 rcases hq with rfl | hq | ⟨p, hp, hq⟩
 ·exact hb e
 ·exact h.row.ne k h1 q hq e
 ·exact (Jak (h.ends p hp)).ne k h2 q hq e
theorem Jf8 {e : TypeId} {sz n : Nat} {v : Value} {xs : List Value} (h : Ofr B e sz v n xs w) : ∀ q, v.ownBlock = some q → ∃ o : Obj, w.heap[q]? = some o ∧ o.isCells = true := by
 intro q hq;rcases h.2 with ⟨rfl, _⟩ | ⟨g, off, cap, cur, rfl, _, hg, _⟩
 ·cases hq
 ·simp only [Value.ownBlock, Option.some.injEq] at hq
  subst hq;exact ⟨_, hg, rfl⟩
theorem LgIn.cells {vs : Value} {P : List (Sm × Value)} (h : LgIn B b d G vs P w) : ∀ k, LgF b vs P k → ∃ o : Obj, w.heap[k]? = some o ∧ o.isCells = true := fun q hq => by
 rcases hq with rfl | hq | ⟨p, hp, hq⟩
 ·exact Jcy h.box
 ·exact Jf8 h.row q hq
 ·exact Je4 (h.ends p hp) q hq
theorem Jqe {n : Nat} (h : Below n w w') : Wr (fun x => n ≤ x) w w' := ⟨h.os, h.tape, h.output, h.size, fun k _ hn => h.block k (by omega)⟩
theorem Turn6.wr {n : Nat} (h : Turn6 n w w') : Wr (fun k => ∃ o : Obj, w.heap[k]? = some o ∧ o.isCells = false) w w' := ⟨h.bel.os, h.bel.tape, h.bel.output, by rw [h.size]; exact Nat.le_refl _, fun k hk hn => by
 have e : w.heap[k]? = some w.heap[k] := Array.getElem?_eq_getElem hk;rw [e];refine h.cells k _ e ?_;cases hc : w.heap[k].isCells with
 | true => rfl
 | false => exact absurd ⟨_, e, hc⟩ hn⟩
theorem MarksAt.lt' {B : Nat} {w : World} {ds : List Deferred} (h : MarksAt B ds w) : ∀ e ∈ ds, ∀ r, e.target = .collected r → r < w.heap.size := fun e he r hr => by
 obtain ⟨q, h1, h2⟩ := h.lt e he;rw [hr] at h1;injection h1 with h1
 omega
def QRet6 (L : Act → World → Prop) : Exit → Act → World → Prop
 | .ret, a, w => L a w
 | _, _, _ => False
structure LiI (bg sn bx : Nat) (W6 : World) (pre : List (List UInt8 × Nat)) (W : World) : Prop where
 g : ∃ ao cap, Bk #[.int .i64 (sn : Nat), .slice ao pre.length cap] 88 W bg ∧ W.ownsRow (bx + 1) 3 1 (.slice ao pre.length cap) pre.length (nats (pre.map (·.2)))
 bel : Below bg W6 W
 sz : bx + 1 ≤ W.heap.size
theorem Jqf (bg sn bx : Nat) (W6 : World) (BB : Nat) (hB : bg ≤ BB) : OwnFrom BB (LiI bg sn bx W6) := by
 rintro pre W W' row ⟨⟨ao, cap, h1, h2⟩, h4, h5⟩ hg hr;have hr' : ∀ r, row = some r → ∃ o : Obj, W.heap[r]? = some o ∧ o.isCells = false := fun r e => (hr r e).2
 exact ⟨⟨ao, cap, Jcz h1 hg hr', Jef h2 hg hr'⟩, h4.grown hg (by have := h1.lt; omega) (fun k e => Nat.le_trans hB (hr k e).1), Nat.le_trans h5 hg.size⟩
theorem Joz (n : Nat) (hn3 : 3 ≤ n) (h : DkX X B d D w) (hX : ∀ k, X k → k < w.heap.size) (hB : B ≤ w.heap.size) (hv : Vr w) (h3 : 3 ≤ B) {st : Nat} (hst : st ≤ 1000000000) (hb : Bk #[.pointer (some ⟨d, 0, none⟩), .int .i64 (st : Nat), .bool false, .slice none 0 0] 48 w b) (hbB : B ≤ b) (hbX : X b)
  (Z : List Sg) (tz : List UInt8) (hZ : LdOk D Z tz) :
  CallsIn Fence.wide n Tryz.prog 60 #[.pointer (some ⟨b, 0, none⟩)] w (LdR B b d st Z tz w) := by
 have CN := Qh (fun W (k : Below w.heap.size w W) => show Calls Tryz.prog 114 #[.pointer (some ⟨d, 0, none⟩), .string { data := #[108] }, .int .i64 0, .int .i64 999999999] W (RowN (Z.map fun s => (s.n : Int)) W) from by
  have := Ji7 (h.below k) (hv.below k) [108] 0 999999999 (by decide) (by decide);rw [hZ.nums] at this
  exact this)
 have c0 : ∀ o o', ((w.alloc o).alloc o').cell? ⟨b, 0, none⟩ = some (.pointer (some ⟨d, 0, none⟩)) := fun o o' => ((hb.more o).more o').cell 0
 refine callsIn_of_wp_marks Tryz.func60 rfl trivial ?_ rfl;simp only [Tryz.ntmps60, List.size_toArray, List.length_cons, List.length_nil, Nat.reduceAdd, Nat.reduceSub, Array.replicate_succ, Array.replicate_zero, List.push_toArray, List.append_toArray, List.nil_append, List.cons_append];refine wpIn_wide.2 ?_;refine wp_mono (Q := QRet6 (fun a wx => LeavesInM Fence.wide n Tryz.prog Tryz.f60 a.tmps (LdR B b d st Z tz w) a.defers .returning wx)) ?_ (fun e a w h => by cases e <;> first | exact h | exact h.elim);generalize hQQ : (fun (a : Act) (wx : World) => LeavesInM Fence.wide n Tryz.prog Tryz.f60 a.tmps (LdR B b d st Z tz w) a.defers .returning wx) = QQ;have HQ := Qh (show ∀ (a : Act) (wx : World), LeavesInM Fence.wide n Tryz.prog Tryz.f60 a.tmps (LdR B b d st Z tz w) a.defers .returning wx → QRet6 QQ .ret a wx from fun a wx q => by rw [← hQQ]; exact q);clear hQQ;go_wp2_with fail;have hb2 := ((Below.refl w.heap.size w).alloc (Nat.le_refl _) (.cells #[.bool false] 4)).alloc (by simp) (.cells #[.int .i64 0] 25);have kt : Bk #[.bool false] 4 ((w.alloc (.cells #[.bool false] 4)).alloc (.cells #[.int .i64 0] 25)) w.heap.size := (Jae _ _ _).more _
 have ke : Bk #[.int .i64 0] 25 ((w.alloc (.cells #[.bool false] 4)).alloc (.cells #[.int .i64 0] 25)) (w.heap.size + 1) := by
  have := Jae #[.int .i64 0] 25 (w.alloc (.cells #[.bool false] 4));rw [World.size_alloc] at this;exact this
 with_reducible refine (CN.o _ hb2).mono ?_
 rintro e w1 ⟨ao, cap, rfl, hr, hb1⟩;clear CN c0;rw [List.length_map] at hr ⊢
 have HI0 := Qh (show LdI B b d st Z tz w w.heap.size (w.heap.size + 1) (.slice ao Z.length cap) 0 (.slice none 0 0) [] [] w1 from
  ⟨⟨(hb.below hb2).below hb1, Ofr.nil _ _ _ _, rfl, (fun p hp => by cases hp), List.Pairwise.nil, ⟨by simp, (fun s hs => by cases hs), hst⟩, hbB⟩, (Jad hb2).trans (Jad hb1), (fun k hk => by
   rcases hk with q | q | ⟨p, hp, q⟩
   ·exact .inl q
   ·cases q
   ·cases hp), by
   have h0 : decide (0 = Z.length ∧ tz ≠ []) = false := by
    simp only [decide_eq_false_iff_not, not_and, Classical.not_not];exact fun q => hZ.none (List.length_eq_zero_iff.1 q.symm)
   rw [h0]; exact kt.below hb1, ke.below hb1, trivial, Jaq hr hb2.size⟩)
 obtain ⟨tb, htb⟩ : ∃ x, x = w.heap.size := ⟨_, rfl⟩
 obtain ⟨eb, heb⟩ : ∃ x, x = w.heap.size + 1 := ⟨_, rfl⟩
 rw [← heb, ← htb] at HI0;have hsz1 : w.heap.size + 2 ≤ w1.heap.size := by have := hb1.size; simp at this; omega
 have HTB := Qh (show w.heap.size ≤ tb ∧ tb < eb ∧ b < w.heap.size from ⟨by omega, by omega, hb.lt⟩);obtain ⟨PL, hPL⟩ : ∃ x, x = Z.length := ⟨_, rfl⟩
 have HPL := Qh hPL;have hfew : PL ≤ 1000 := by rw [hPL]; exact hZ.few
 have H3 := Qh h3;have HD := Qh h;have HX0 := Qh hX;have HV0 := Qh hv;have HBK := Qh hbX;have HZ := Qh hZ;have HB0 := Qh hB;clear h hX hv h3 hst hb hbB hbX hZ hb2 kt ke hr hb1 hB;go_wp2_with fail;rw [← heb, ← htb, ← hPL];clear htb heb hPL;rw [← HPL.o] at HI0;refine wp_loop (fun a wr => ∃ u5 u6 u7 u8 u9 u10 u11 u12 u20 u21 u22 u23 u24 u25 u26 u27 u28 u29 u30 u31 u32 u33 u34 u35 u36 u37 u38 u39 u40 u41 u42 u43 u44 u45 u46 u47 u48 u49 u50 u51 u52 u53 u54 u55 u56 u57 u58 u59 u60 u61 u62 u63 u64 u65 u66 u67 u68 u69 u70 u71 u72 u73 u74 u75 u76 u77 u78 u79 u80 u81 u82 u83 u84 u85 u86 u87 u88 u89 u90 u91, ∃ (i : Nat) (vs : Value) (P : List (Sm × Value)) (ds : List Deferred), (i ≤ PL ∧ u20 = .int .i64 (i : Nat) ∧ Hid (LdI B b d st Z tz w tb eb (.slice ao PL cap) i vs P ds wr)) ∧ a = { tmps := #[.pointer (some ⟨b, 0, none⟩), undef, .pointer (some ⟨tb, 0, none⟩), .pointer (some ⟨eb, 0, none⟩), undef, u5, u6, u7, u8, u9, u10, u11, u12, .pointer (some ⟨b, 0, none⟩), .pointer (some ⟨b, 0, none⟩), .pointer (some ⟨b, 0, none⟩), .pointer (some ⟨b, 0, none⟩), .pointer (some ⟨d, 0, none⟩), .slice ao PL cap, .int .i64 (PL : Nat), u20, u21, u22, u23, u24, u25, u26, u27, u28, u29, u30, u31, u32, u33, u34, u35, u36, u37, u38, u39, u40, u41, u42, u43, u44, u45, u46, u47, u48, u49, u50, u51, u52, u53, u54, u55, u56, u57, u58, u59, u60, u61, u62, u63, u64, u65, u66, u67, u68, u69, u70, u71, u72, u73, u74, u75, u76, u77, u78, u79, u80, u81, u82, u83, u84, u85, u86, u87, u88, u89, u90, u91], defers := ds }) (fun a _ => PL - (intOf (a.tmps.getD 20 undef)).toNat) ?_ ?_
 ·(repeat apply Exists.intro); refine ⟨⟨Nat.zero_le _, rfl, HI0⟩, rfl⟩
 intro a1 w3 hinv;obtain ⟨u5, hinv⟩ := hinv;obtain ⟨u6, hinv⟩ := hinv;obtain ⟨u7, hinv⟩ := hinv;obtain ⟨u8, hinv⟩ := hinv;obtain ⟨u9, hinv⟩ := hinv;obtain ⟨u10, hinv⟩ := hinv;obtain ⟨u11, hinv⟩ := hinv;obtain ⟨u12, hinv⟩ := hinv;obtain ⟨u20, hinv⟩ := hinv;obtain ⟨u21, hinv⟩ := hinv;obtain ⟨u22, hinv⟩ := hinv;obtain ⟨u23, hinv⟩ := hinv;obtain ⟨u24, hinv⟩ := hinv;obtain ⟨u25, hinv⟩ := hinv;obtain ⟨u26, hinv⟩ := hinv;obtain ⟨u27, hinv⟩ := hinv;obtain ⟨u28, hinv⟩ := hinv;obtain ⟨u29, hinv⟩ := hinv;obtain ⟨u30, hinv⟩ := hinv;obtain ⟨u31, hinv⟩ := hinv;obtain ⟨u32, hinv⟩ := hinv;obtain ⟨u33, hinv⟩ := hinv;obtain ⟨u34, hinv⟩ := hinv;obtain ⟨u35, hinv⟩ := hinv;obtain ⟨u36, hinv⟩ := hinv;obtain ⟨u37, hinv⟩ := hinv;obtain ⟨u38, hinv⟩ := hinv;obtain ⟨u39, hinv⟩ := hinv;obtain ⟨u40, hinv⟩ := hinv;obtain ⟨u41, hinv⟩ := hinv;obtain ⟨u42, hinv⟩ := hinv;obtain ⟨u43, hinv⟩ := hinv;obtain ⟨u44, hinv⟩ := hinv;obtain ⟨u45, hinv⟩ := hinv;obtain ⟨u46, hinv⟩ := hinv;obtain ⟨u47, hinv⟩ := hinv;obtain ⟨u48, hinv⟩ := hinv;obtain ⟨u49, hinv⟩ := hinv;obtain ⟨u50, hinv⟩ := hinv;obtain ⟨u51, hinv⟩ := hinv;obtain ⟨u52, hinv⟩ := hinv;obtain ⟨u53, hinv⟩ := hinv;obtain ⟨u54, hinv⟩ := hinv;obtain ⟨u55, hinv⟩ := hinv;obtain ⟨u56, hinv⟩ := hinv;obtain ⟨u57, hinv⟩ := hinv;obtain ⟨u58, hinv⟩ := hinv;obtain ⟨u59, hinv⟩ := hinv;obtain ⟨u60, hinv⟩ := hinv;obtain ⟨u61, hinv⟩ := hinv;obtain ⟨u62, hinv⟩ := hinv;obtain ⟨u63, hinv⟩ := hinv;obtain ⟨u64, hinv⟩ := hinv;obtain ⟨u65, hinv⟩ := hinv;obtain ⟨u66, hinv⟩ := hinv;obtain ⟨u67, hinv⟩ := hinv
 obtain ⟨u68, hinv⟩ := hinv;obtain ⟨u69, hinv⟩ := hinv;obtain ⟨u70, hinv⟩ := hinv;obtain ⟨u71, hinv⟩ := hinv;obtain ⟨u72, hinv⟩ := hinv;obtain ⟨u73, hinv⟩ := hinv;obtain ⟨u74, hinv⟩ := hinv;obtain ⟨u75, hinv⟩ := hinv;obtain ⟨u76, hinv⟩ := hinv;obtain ⟨u77, hinv⟩ := hinv;obtain ⟨u78, hinv⟩ := hinv;obtain ⟨u79, hinv⟩ := hinv;obtain ⟨u80, hinv⟩ := hinv;obtain ⟨u81, hinv⟩ := hinv;obtain ⟨u82, hinv⟩ := hinv;obtain ⟨u83, hinv⟩ := hinv;obtain ⟨u84, hinv⟩ := hinv;obtain ⟨u85, hinv⟩ := hinv;obtain ⟨u86, hinv⟩ := hinv;obtain ⟨u87, hinv⟩ := hinv;obtain ⟨u88, hinv⟩ := hinv;obtain ⟨u89, hinv⟩ := hinv;obtain ⟨u90, hinv⟩ := hinv;obtain ⟨u91, hinv⟩ := hinv;obtain ⟨i, vs, P, ds, ⟨hi, hu20, HI⟩, ha⟩ := hinv;subst ha hu20;try dsimp only
 clear HI0;by_cases hlt : i < PL
 ·have d1 : decide ((i : Int) < (PL : Int)) = true := by simpa using hlt
  have d1' : decide (i < PL) = true := by simpa using hlt
  have hI := HI.o;have hiz : i < Z.length := by rw [← HPL.o]; exact hlt
  obtain ⟨sg, hsg⟩ : ∃ s, s = Z[i] := ⟨_, rfl⟩
  have hsm : sg ∈ Z := by rw [hsg]; exact List.getElem_mem _
  have HMay := Qh (HZ.o.mays sg hsm);have hsmall := HZ.o.small sg hsm;have hrd := HZ.o.read i hiz;obtain ⟨tl, htl⟩ : ∃ t, t = (if i + 1 = Z.length then tz else []) := ⟨_, rfl⟩
  rw [← htl, ← hsg] at hrd;have HTail := Qh (show Tail tl from by rw [htl]; split; exact HZ.o.tail; exact tail_nil);have HSG := Qh hsg;have HTL := Qh htl;have HRD := Qh hrd;have hkt := hI.t;rw [show decide (i = Z.length ∧ tz ≠ []) = false from by simp; omega] at hkt;have ct := hkt.cell 0;obtain ⟨g, o, cap', hv9, k1, k2, k3, k4, k5, k6⟩ := (Jak hI.r).shape (by omega);simp only [Value.slice.injEq] at hv9;obtain ⟨rfl, -, rfl⟩ := hv9
  have cn : w3.cell? ⟨g, o + i, none⟩ = some (.int .i64 (sg.n : Nat)) := by
   rw [k3 i (by omega)];unfold Jap;rw [List.map_map, List.getElem?_map, List.getElem?_eq_getElem hiz, hsg];rfl
  have hPl : P.length = i := by rw [hI.L.len, List.length_map, List.length_take]; omega
  have HPl := Qh hPl;have HKT := Qh hkt;have hcap : PL ≤ cap := by have := HPL.o; omega
  obtain ⟨av, cv, rfl, -, -⟩ := hI.L.row.val
  have hchain : ∀ m, i = m + 1 → ∃ L' : Nat, (lastS ⟨st, false, (Z.take i).map smOf⟩).es.length = L' ∧ (lastS ⟨st, false, (Z.take i).map smOf⟩).n + L' = sg.n ∧ (lastS ⟨st, false, (Z.take i).map smOf⟩).fin ≤ 900 := fun m hm => by
   have hm2 : m < Z.length := by omega
   have e : lastS ⟨st, false, (Z.take i).map smOf⟩ = smOf Z[m] := by
    subst hm;refine lastS_snoc (S0 := (Z.take m).map smOf) ?_;rw [List.take_succ_eq_append_getElem hm2, List.map_append];rfl
   have hc := HZ.o.chain m (by omega);have hs := HZ.o.small Z[m] (List.getElem_mem _);rw [e];refine ⟨Z[m].L.length, ends_len _, ?_, ?_⟩
   ·subst hm
    rw [hsg, hc];rfl
   ·unfold Sm.fin smOf
    simp only [ends_len];exact hs
  have HChain := Qh hchain;have c3 := hI.L.cell3;clear hI hkt hsg htl hrd hsm k1 k2 k3 k4 k5 k6 hchain hPl;generalize hNP : P.length = NP at *;have HNP := Qh hNP;clear hNP;go_upto_region 4 with fail
  go_cut [41] from 24 to 41 (fun c wx => c = .bool false ∧ Hid (Below w3.heap.size w3 wx))
  case first =>
   have hNPi : NP = i := by rw [HPl.o]
   by_cases hi0 : i = 0
   ·have d5 : decide ((0 : Int) < (NP : Int)) = false := by simp; omega
    have d5' : decide (0 < NP) = false := by simp; omega
    go_wp2_with fail;go_meet
    case rel => exact ⟨rfl, Qh (Below.refl _ _)⟩
   ·obtain ⟨m, rfl⟩ : ∃ m, i = m + 1 := ⟨i - 1, by omega⟩
    subst hNPi;obtain ⟨L', hl1, hl2, hl3⟩ := HChain.o m rfl;obtain ⟨gs, os, cp, lv, hvs, q1, q2, q3, q4, q5, q6⟩ := HI.o.L.lastc (m := m) HNP.o;simp only [Value.slice.injEq] at hvs;obtain ⟨rfl, -, rfl⟩ := hvs;have hrow : w3.ownsRow B 3 1 lv (lastS ⟨st, false, (Z.take (m + 1)).map smOf⟩).es.length (nats (lastS ⟨st, false, (Z.take (m + 1)).map smOf⟩).es) := HI.o.L.ends (lastS ⟨st, false, (Z.take (m + 1)).map smOf⟩, lv) (List.mem_of_getElem? q5);obtain ⟨al, cl, rfl⟩ := Jac hrow;have hbx := HI.o.L.box;rw [hl1] at q4;have hfin : (lastS ⟨st, false, (Z.take (m + 1)).map smOf⟩).n ≤ 900 := by unfold Sm.fin at hl3; omega
    have CT := Qh (Jch (G := ⟨st, false, (Z.take (m + 1)).map smOf⟩) hbx (by omega) q1);have HLN := Qh hl2;clear hrow q5 q6 hl1 hl3 hbx HChain HI hl2;generalize (lastS ⟨st, false, (Z.take (m + 1)).map smOf⟩).n = ln at *;have CE := Qh (fun W => Jgs ln L' cl al (by omega) (by have := HLN.o; omega) W);have C5 := Qh q3;have C6 := Qh q4;have d5 : decide ((0 : Int) < ((m + 1 : Nat) : Int)) = true := decide_eq_true (by omega);have d6 : (((ln : Int) + (L' : Int)) != (sg.n : Int)) = false := by have := HLN.o; simp; omega
    go_wp2_with fail;with_reducible refine CT.o.mono ?_
    rintro e w4 ⟨rfl, hb4⟩;have HB4 := Qh hb4;have c5 := Jab C5.o hb4;have c6 := Jab C6.o hb4;clear hb4 CT q3 q4;go_wp2_with fail;with_reducible refine (CE.o _).mono ?_
    rintro e w5 ⟨rfl, hb5⟩;have HB5 := Qh (Jaa HB4.o hb5);clear hb5 CE c5 c6;go_wp2_with fail;go_meet
    case rel => exact ⟨rfl, HB5⟩
  case rest =>
  obtain ⟨rfl, HB4⟩ := hcut;clear ct cn c3;have HD4 := Qh ((HD.o.wr HI.o.W (fun k hk => by rw [hk]; exact HBK.o)).below HB4.o);have HV4 := Qh ((HV0.o.wr HI.o.W (fun k hk q => by have := HI.o.L.bB; have := H3.o; omega)).below HB4.o);have HL4 := Qh (HI.o.L.below HB4.o);have c0 : ∀ o, (wc.alloc o).cell? ⟨b, 0, none⟩ = some (.pointer (some ⟨d, 0, none⟩)) := fun o => (HL4.o.box.more o).cell 0
  go_upto_region 7 with fail
  have hb5 := (Below.refl wc.heap.size wc).alloc (Nat.le_refl _) (.cells #[.int .i64 (sg.n : Nat), .slice none 0 0] 88);have bk5 := Jae #[.int .i64 (sg.n : Nat), .slice none 0 0] 88 wc;have HW5 := Qh hb5;have hbg : ∃ bg, bg = wc.heap.size := ⟨_, rfl⟩
  obtain ⟨bg, hbg⟩ := hbg;rw [← hbg] at bk5 ⊢;have HBG := Qh hbg;have HK5 := Qh bk5;clear hb5 bk5 hbg c0;generalize wc.alloc (.cells #[.int .i64 (sg.n : Nat), .slice none 0 0] 88) = w5 at *;have CN := Qh (fun W (k : Below w5.heap.size w5 W) => Jbv ⟨sg.n, []⟩ (.slice none 0 0) (by simp only; omega) W ((HV4.o.below HW5.o).below k));have hnl2 : (nm sg.n).length ≤ 11 := Jd4 (by omega);have CD := Qh (fun W (k : Below w5.heap.size w5 W) => Jf2 ((HD4.o.below HW5.o).below k) (nm sg.n) (by omega));rw [HRD.o] at CD;obtain ⟨txt, htxt⟩ : ∃ t, t = dat sg.L ++ tl := ⟨_, rfl⟩
  rw [← htxt] at CD;have HTXT := Qh htxt;have C4 := Qh (show w5.cell? ⟨b, 0, none⟩ = some (.pointer (some ⟨d, 0, none⟩)) from (HL4.o.box.below HW5.o).cell 0);have C5 := Qh (show w5.cell? ⟨bg, 0, none⟩ = some (.int .i64 (sg.n : Nat)) from HK5.o.cell 0);have C6 := Qh (show w5.cell? ⟨bg, 1, none⟩ = some (.slice none 0 0) from HK5.o.cell 1);clear htxt hnl2;generalize hN : S (nm sg.n) = N at *;clear hN;obtain ⟨sn, hsn⟩ : ∃ x, x = sg.n := ⟨_, rfl⟩
  have HSN := Qh hsn;simp only at CN;rw [← hsn] at CN C5 HK5 hsmall ⊢;clear hsn;have c4 := C4.o;have c5 := C5.o;have c6 := C6.o
  go_region_held3 (fun W => W.cell? ⟨b, 0, none⟩ = some (.pointer (some ⟨d, 0, none⟩)) ∧ W.cell? ⟨bg, 0, none⟩ = some (.int .i64 (sn : Nat)) ∧ W.cell? ⟨bg, 1, none⟩ = some (.slice none 0 0)) (go_keep) (first
   | (go_at_call 73; refine (CN.o _ ((Below.refl _ w5).drew)).mono ?_; rintro e w6 ⟨rfl, hb6⟩; have HB6 := Qh (Jaa ((Below.refl _ w5).drew) hb6); clear hb6; have z4 := Jab C4.o HB6.o; have z5 := Jab C5.o HB6.o; have z6 := Jab C6.o HB6.o)
   | (go_at_call 107; refine (CD.o _ HB6.o).mono ?_; rintro e w7 ⟨rfl, hb7⟩; have HB7 := Qh (Jaa HB6.o hb7); clear hb7; have v4 := Jab C4.o HB7.o; have v5 := Jab C5.o HB7.o; have v6 := Jab C6.o HB7.o))
  clear z4 z5 z6 v4 v5 v6 c4 c5 c6 CN CD C4 C5 C6;have CE6 := Qh (fun l W => Jf5 l W);have HK7 := Qh (HK5.o.below HB7.o);go_wp2_with fail;with_reducible refine (CE6.o _ _).mono ?_
  rintro e w8 ⟨rfl, rfl⟩;clear CE6;go_wp2_with fail;have hbox : (w7.alloc (.cells #[.string (S txt)] 9)).cell? ⟨w7.heap.size, 0, none⟩ = some (.string (S txt)) := (Jae #[.string (S txt)] 9 w7).cell 0;have hbgl : bg < w7.heap.size := HK7.o.lt;have hI0 : LiI bg sn w7.heap.size w7 [] (w7.alloc (.cells #[.string (S txt)] 9)) := ⟨⟨none, 0, HK7.o.more _, World.ownsRow_nil _ _ _ _⟩, ((Below.refl w7.heap.size w7).alloc (Nat.le_refl _) _).mono (by omega), by simp⟩
  have hsz0 : (w7.alloc (.cells #[.string (S txt)] 9)).heap.size = w7.heap.size + 1 := by simp
  generalize w7.alloc (.cells #[.string (S txt)] 9) = W0 at *
  have htl : txt.length ≤ 1000000 := by
   rw [HTXT.o, List.length_append];have := dat_most HMay.o;have := HTail.o.2;omega
  have hru : M.runs txt 0 = recs 0 sg.L := by have := runs_rec HTail.o sg.L [] HMay.o; rw [HTXT.o]; simpa using this
  have HRU := Qh hru;clear hru;refine (wpIn_wide (n := 5)).1 ?_
  refine wpIn_rangeFunc_ownF rfl (by omega) (gf := 150) (lb := #[.pointer (some ⟨w7.heap.size, 0, none⟩)]) rfl trivial (Jav Tryz.func150 (by kernel_rfl) rfl)
   (Jfk txt htl (5 - 1) (by omega) w7.heap.size (w7.heap.size + 1) W0 (by omega) (by omega) hbox) kpB_t (kpB_b (by omega)) (Below.refl _ _) (fun _ => rfl)
   (fun (ys : List (RunX txt)) W => LiI bg sn w7.heap.size w7 (Jax ys) W) (fun _ _ _ => False) (fun s => Jqf bg sn w7.heap.size w7 _ (by omega) (Jax s)) (fun _ _ _ _ _ hs _ _ => hs) hI0
   (fun (x : RunX txt) => { tmps := #[.pointer (some ⟨b, 0, none⟩), undef, .pointer (some ⟨tb, 0, none⟩), .pointer (some ⟨eb, 0, none⟩), undef, .int .i64 (sn : Nat), .pointer (some ⟨bg, 0, none⟩), .string (S txt), .int .i64 0, .string (S x.1.1), .int .i64 (x.1.2 : Nat), u11, u12, .pointer (some ⟨b, 0, none⟩), .pointer (some ⟨b, 0, none⟩), .pointer (some ⟨b, 0, none⟩), .pointer (some ⟨b, 0, none⟩), .pointer (some ⟨d, 0, none⟩), .slice (some ⟨g, o, none⟩) PL cap, .int .i64 (PL : Nat), .int .i64 (i : Nat), .bool true, .pointer (some ⟨g, o + i, none⟩), .int .i64 (sn : Nat), u24, u25, u26, u27, u28, u29, u30, u31, u32, u33, u34, u35, u36, u37, u38, u39, u40, .bool false, .int .i64 (sn : Nat), .agg #[.int .i64 (sn : Nat), .slice none 0 0], .tuple #[.string (S txt), .int .i64 0], .pointer (some ⟨b, 0, none⟩), .pointer (some ⟨b, 0, none⟩), .pointer (some ⟨b, 0, none⟩), .pointer (some ⟨b, 0, none⟩), .pointer (some ⟨d, 0, none⟩), .agg #[.int .i64 (sn : Nat), .slice none 0 0], .string N, .tuple #[.string (S txt), .int .i64 0], .string (S txt), .int .i64 0, .int .i64 0, .bool false, u57, .string (S txt), .func (Fn.func 150) #[] #[.pointer (some ⟨w7.heap.size, 0, none⟩)], .string (S x.1.1), .int .i64 (x.1.2 : Nat), u62, u63, u64, u65, u66, u67, u68, u69, u70, u71, u72, u73, u74, u75, u76, u77, u78, u79, u80, u81, u82, u83, u84, u85, u86, u87, u88, u89, u90, u91], defers := [] }) ?assign ?body ?done ?stop
  case assign =>
   intro lp x W K hK;gi_wp2
   exact hK
  case body =>
   rintro lp pre0 ⟨x, hx⟩ W hI hlen
   have hdec : ∃ y, M.dec x.1 = some y ∧ x.1.length ≤ 140737488351232 := by
    rw [HRU.o] at hx;have h2 : x.1 ∈ sg.L.map M.enc := by rw [← recs_fst sg.L 0]; exact List.mem_map_of_mem hx
    obtain ⟨y, hy, e⟩ := List.mem_map.1 h2;have := M.enc_len (HMay.o y hy).1;exact ⟨y, by rw [← e, M.dec_enc (HMay.o y hy).2 (HMay.o y hy).1], by rw [← e]; omega⟩
   obtain ⟨y, hy, hxl⟩ := hdec;obtain ⟨pre, hpre⟩ : ∃ pre, pre = Jax pre0 := ⟨_, rfl⟩
   have HVS := Qh (show Jax (pre0 ++ [⟨x, hx⟩]) = pre ++ [x] from by rw [Jdc, hpre]);rw [← Je1] at hlen;change LiI bg sn w7.heap.size w7 (Jax pre0) W at hI
   rw [← hpre] at hI hlen;dsimp only
   obtain ⟨⟨ae, ce, hg, hrow⟩, hbel, hsz2⟩ := id hI;have hpl : pre.length ≤ 1000000 := by omega
   obtain ⟨K, hK⟩ : ∃ K, K = pre.length := ⟨_, rfl⟩
   rw [← hK] at hg hrow hpl;have HKK := Qh hK;have HI2 := Qh hI;have CD := Qh (Jfv x.1 hxl W);rw [hy] at CD;change Hid (Calls Tryz.prog 113 #[.string (S x.1)] W fun e w' => e = .returned (.tuple #[.agg #[.int .i64 y.trace, .int .i64 y.id, .int .i64 y.parent, .string (S y.svc), .string (S y.host), .int .i64 y.start, .int .i64 y.dur, .string (S y.note)], .int .i64 0]) ∧ Below W.heap.size W w') at CD
   have HG := Qh hg;have HRow := Qh hrow;have HBEL := Qh hbel;clear hI hg hrow hbel hK hpre hlen hy hxl;gi_wp2
   refine ⟨trivial, (CallsIn.inRound lp (callsIn_wide.2 CD.o)).mono ?_⟩;rintro e wa ⟨rfl, hba⟩;have HGa := Qh (HG.o.below hba);have HRa := Qh (Jaf HRow.o hba);have HBa := Qh hba;have cs : ∀ C, (wa.alloc (.cells C 39)).cell? ⟨bg, 1, none⟩ = some (.slice ae K ce) := fun C => (HGa.o.more _).cell 1
   have hsa := hba.size;have hz2 : w7.heap.size + 1 ≤ wa.heap.size := by omega
   obtain ⟨j0, hj, hy0, hy1, hy2⟩ := info_parts Jcw;clear hba CD;gi_wp2_with (gi_at_builtin; go_loud (refine wpListIn_append_own_at _ rfl _ _ 40 rfl (w7.heap.size + 1) 3 j0 (.int .i64 0) 1 8 Tryz.underlying40 hj hy0 hy1 hy2 rfl (by decide) (.slice ae K ce) K _ rfl ((HRa.o.alloc _).alloc _) ⟨wa.heap.size + 1, 0, none⟩ 1 1 [.int .i64 (x.2 : Nat)] rfl rfl (by have := cell_one_new (wa.alloc (.cells #[.int .i64 y.trace, .int .i64 y.id, .int .i64 y.parent, .string (S y.svc), .string (S y.host), .int .i64 y.start, .int .i64 y.dur, .string (S y.note)] 39)) (.int .i64 (x.2 : Nat)) 3; rw [World.size_alloc] at this; exact this) (by simp [Value.oneCell']) (by unfold maxLen; omega) (by omega) (by rw [World.size_alloc, World.size_alloc]; omega) ?_; intro vb wb hob hgb _ h7; obtain ⟨ab, cb, rfl⟩ := Jac hob; have HOB := Qh hob; have HGB := Qh hgb; have hkb := ((HGa.o.more _).more _).grown hgb (fun e => (Jak HRa.o).ne HGa.o (by decide) _ e.symm rfl); have n0 := hkb.cell 1; have f0 := hkb.free 1; have HKB := Qh hkb; clear hob hgb h7 hkb))
   have hwb : Wr (fun q => q = bg ∨ (Value.slice ae K ce).ownBlock = some q) W (wb.setCell ⟨bg, 1, none⟩ (.slice ab (K + 1) cb)) :=
    (((Jad HBa.o).trans ((Jcv _ _).trans (Jcv _ _))).trans (Jby HGB.o (fun q hq => .inl (.inr hq)))).trans (Jai _ _ _ (.inl rfl))
   have hlt7 := (Jak HRow.o).lt
   refine ⟨Je2 hwb (fun q hq => by
     rcases hq with rfl | q
     ·exact Jcy HG.o
     ·exact Je4 HRow.o _ q), ⟨World.cell?_of_block (a := ⟨w7.heap.size, 0, none⟩) (hwb.block _ (by show w7.heap.size < W.heap.size; omega) (fun q => by
     rcases q with q | q
     ·simp only at q; omega
     ·have := (hlt7 _ q).1; simp only at this; omega)), hwb.size⟩, show LiI bg sn w7.heap.size w7 (Jax (pre0 ++ [⟨x, hx⟩])) _ from by
    rw [HVS.o];refine ⟨⟨ab, cb, ?_, ?_⟩, HBEL.o.trans (hwb.below (fun q hq => ?_) (by omega)), by have := hwb.size; omega⟩
    ·rw [List.length_append, List.length_singleton, ← HKK.o]
     exact HKB.o.set 1 _
    ·rw [List.length_append, List.length_singleton, ← HKK.o, List.map_append, nats_app]
     exact Jaw HOB.o ((Jak HOB.o).ne HKB.o (by decide))
    ·rcases hq with q | q
     ·omega
     ·have := (hlt7 _ q).1; omega⟩
  case done =>
   rintro DD ys W hDD hys hI hK;have HDK := Qh hK;have hsz00 := hsz0;change LiI bg sn w7.heap.size w7 (Jax ys) W at hI
   rw [hys, HRU.o] at hI;obtain ⟨⟨ae, ce, hg, hrow⟩, hbel, hsz2⟩ := hI;rw [recs_len] at hg hrow;rw [recs_ends] at hrow;have hEl : (smOf sg).es.length = sg.L.length := ends_len _
   have HE9 := Qh (show W.ownsRow B 3 1 (.slice ae sg.L.length ce) (smOf sg).es.length (nats (smOf sg).es) from by
    rw [hEl]
    exact Jaq hrow (by have := HB0.o; have := HI.o.W.size; have := HB4.o.size; have := HW5.o.size; have := HB7.o.size; omega))
   have HNV := Qh (fun q hq => (hrow.lt q hq).1);have hb37 := Jaa (Jaa HB4.o HW5.o) HB7.o;have hw3bg : w3.heap.size ≤ bg := by rw [HBG.o]; exact HB4.o.size
   have HB3 := Qh (hb37.trans (hbel.mono hw3bg));have HKT2 := Qh (HKT.o.below HB3.o);have HG := Qh hg;have ho := HTB.o;have hs3 := HI.o.W.size;have htbl := HKT.o.lt;have hLl : sg.L.length ≤ 900 := by omega
   have CZ := Qh (Jey (smOf sg) (.slice ae sg.L.length ce) B W HE9.o (by rw [hEl]; omega));rw [size_sm] at CZ;have hn0 : (smOf sg).n = sn := by rw [HSN.o]; rfl
   rw [hn0] at CZ
   have HTN := Qh (show decide ((dat sg.L).length < txt.length) = decide (i + 1 = Z.length ∧ tz ≠ []) from by
    rw [HTXT.o, List.length_append, HTL.o];by_cases q : i + 1 = Z.length
    ·rw [if_pos q]
     cases tz with
     | nil => simp
     | cons x r => simp [q]
    ·rw [if_neg q]
     simp [q])
   have xg0 := HG.o.cell 0;have xg1 := HG.o.cell 1;have xt := HKT2.o.cell 0;clear hg hrow hEl hn0 hbel hys htl hbox hI0 hsz0;generalize hdl : (dat sg.L).length = dl at *;have HDL := Qh hdl;clear hdl;generalize hLn : sg.L.length = Ln at *;have HLn := Qh hLn;clear hLn;obtain ⟨tn, htn⟩ : ∃ x, x = decide (i + 1 = Z.length ∧ tz ≠ []) := ⟨_, rfl⟩
   rw [← htn] at HTN;have HTN2 := Qh htn;clear htn;have d7 := HTN.o;go_wp2_with fail;with_reducible refine CZ.o.mono ?_
   rintro e wz ⟨rfl, hbz⟩;have HBZ := Qh hbz;have HKT3 := Qh (HKT2.o.below hbz);have xt3 := HKT3.o.cell 0;have ft3 := HKT3.o.free 0;clear hbz CZ xg0 xg1 xt;go_upto_region 18 with fail
   obtain ⟨w9, hw9⟩ : ∃ x, x = wz.setCell ⟨tb, 0, none⟩ (.bool tn) := ⟨_, rfl⟩
   rw [← hw9];have hset9 := Jai (A := fun z => z = tb) wz ⟨tb, 0, none⟩ (.bool tn) rfl;have hwr9 : Wr (fun z => z = tb) w3 w9 := by rw [hw9]; exact (Jad (Jaa HB3.o HBZ.o)).trans hset9
   have HWR9 := Qh hwr9;have HKT9 := Qh (show Bk #[.bool tn] 4 w9 tb from by rw [hw9]; exact HKT3.o.set 0 _);have HL9 := Qh (HI.o.L.wr hwr9 (fun k hk q => HI.o.L.far HKT.o (by omega) (by decide) (by decide) k hk q));have hbgtb : bg ≠ tb := by omega
   have HG9 := Qh (show Bk #[.int .i64 (sn : Nat), .slice ae Ln ce] 88 w9 bg from by rw [hw9]; exact (HG.o.below HBZ.o).other hbgtb _ _)
   have HE10 := Qh (show w9.ownsRow B 3 1 (.slice ae Ln ce) (smOf sg).es.length (nats (smOf sg).es) from by
    rw [hw9]; exact Jaw (Jaf HE9.o HBZ.o) ((Jak (Jaf HE9.o HBZ.o)).ne HKT3.o (by decide)))
   have HSZ9 := Qh (show w3.heap.size ≤ bg ∧ bg < w9.heap.size ∧ w7.heap.size < w9.heap.size from by
    refine ⟨hw3bg, HG9.o.lt, ?_⟩;have h1 := HBZ.o.size;rw [hw9];simp only [World.setCell, Array.size_modify]
    omega)
   have HKO9 := Qh (show KeepsOthers W w9 from by rw [hw9]; exact (Je3 HBZ.o).trans (KeepsOthers.setCell _ _ _));clear hw9 hset9 hwr9 xt3 ft3;obtain ⟨i0, hi0, hz0, hz1, hz2⟩ := info_parts Ji5;have HR := Qh HL9.o.row;rw [HNP.o] at HR;have hNP2 : NP ≤ 1000 := by have := HPl.o; omega
   have HBB := Qh (show B ≤ w9.heap.size from by have := HB0.o; have := HWR9.o.size; omega);have F1 := Qh (show w9.cell? ⟨bg, 0, none⟩ = some (.int .i64 (sn : Nat)) from HG9.o.cell 0);have F2 := Qh (show w9.cell? ⟨bg, 1, none⟩ = some (.slice ae Ln ce) from HG9.o.cell 1);have F3 := Qh (show w9.cell? ⟨b, 3, none⟩ = some (.slice av NP cv) from HL9.o.cell3);have HVF := Qh (fun q (hq : (Value.slice av NP cv).ownBlock = some q) => (show LgF b (.slice av NP cv) P q from .inr (.inl hq)));have NE1 := Qh (show ¬ (Value.slice av NP cv).ownBlock = some bg from fun e => by have := (HI.o.L.lt bg (HVF.o bg e)).2; have := HSZ9.o; omega);have NE2 := NE1;have NE3 := Qh (show ¬ (Value.slice av NP cv).ownBlock = some b from fun e => HR.o.ne HL9.o.box (by decide) b e rfl);have FZ := Qh (fun (wx wy : World) (h1 : Below w9.heap.size w9 wx) (h2 : Wr (fun q => (Value.slice av NP cv).ownBlock = some q) wx wy) => ((HL9.o.box.below h1).wr h2 NE3.o).free 3);refine Jaj (S := fun V => V.cell? ⟨bg, 0, none⟩ = some (.int .i64 (sn : Nat)) ∧ V.cell? ⟨bg, 1, none⟩ = some (.slice ae Ln ce) ∧ V.cell? ⟨b, 3, none⟩ = some (.slice av NP cv)) 10 (by kernel_rfl) ?_ (fun hQ => ?_)
   ·exact ⟨Jab F1.o (Below.refl _ _).drew, Jab F2.o (Below.refl _ _).drew, Jab F3.o (Below.refl _ _).drew⟩
   have HX := Qh (Below.refl w9.heap.size w9).drew;obtain ⟨wd, hwd⟩ : ∃ x, x = World.drew w9 := ⟨_, rfl⟩
   rw [← hwd] at HX hQ ⊢;clear hwd;refine tkY 0 ?_;refine tkY 1 ?_;refine tkY 2 ?_;refine tkY 3 ?_;refine tkZ 4 [7, 8, 9, 10] ?_;refine tkZ 5 [6, 7, 8, 9, 10] ?_;refine tqZ 6 fun K hK => ?_
   go_simp;have HY := Qh (Jae #[.int .i64 (sn : Nat), .slice ae Ln ce] 88 wd);replace HX := Qh (HX.o.alloc HX.o.size (.cells #[.int .i64 (sn : Nat), .slice ae Ln ce] 88));generalize hq12 : wd.heap.size = q12 at *;generalize hw12 : wd.alloc (.cells #[.int .i64 (sn : Nat), .slice ae Ln ce] 88) = w12 at *;clear hq12 hw12;refine hK.out _ _ ?_ (fun hQ => ?_)
   ·exact ⟨Jab F1.o HX.o, Jab F2.o HX.o, Jab F3.o HX.o⟩
   clear hK K;refine tqZ 7 fun K hK => ?_
   refine Jdw (by rfl) _ _ 46 (by rfl) i0 (.agg #[.int .i64 0, .slice none 0 0]) 32 Tryz.underlying46 hi0 hz0 hz1 hz2 rfl (by decide) (by rfl) (HR.o.below HX.o) ⟨q12, 0, none⟩ 1 1 [.int .i64 (sn : Nat), .slice ae Ln ce] (by rfl) rfl (fun j u hu => by rw [Addr.add_lit, Nat.zero_add, HY.o.cell]; simpa using hu) (fun u hu => by simp only [List.mem_cons, List.not_mem_nil, or_false] at hu; rcases hu with rfl | rfl <;> rfl) (by unfold maxLen; omega) (by omega) (Nat.le_trans HBB.o HX.o.size) ?_;intro v13 w13 ho13 hw13 hv13;obtain ⟨a13, c13, rfl, -, -⟩ := ho13.val;have HO := Qh ho13;have HW13 := Qh hw13;have HV := Qh hv13;have x1 : w13.cell? ⟨bg, 0, none⟩ = some (.int .i64 (sn : Nat)) := Jam (Jab F1.o HX.o) hw13 NE1.o;have x2 : w13.cell? ⟨bg, 1, none⟩ = some (.slice ae Ln ce) := Jam (Jab F2.o HX.o) hw13 NE2.o;have x3 : w13.cell? ⟨b, 3, none⟩ = some (.slice av NP cv) := Jam (Jab F3.o HX.o) hw13 NE3.o;clear ho13 hw13 hv13 HY;refine hK.out _ _ ?_ (fun hQ => ?_)
   ·exact ⟨x1, x2, x3⟩
   clear hK K;refine tkY 8 ?_;refine tkY 9 ?_;refine tqL 10 fun K hK => ?_
   have f9 : w13.frozen? ⟨b, 3, none⟩ = false := FZ.o w12 w13 HX.o HW13.o;have m9 := x3;go_simp;refine hK.out _ _ ?_;clear hK K;refine wpAny_done (by kernel_rfl) ?_ _;clear hQ x1 x2 x3 m9 f9 F1 F2 F3 HR;have hNP := HNP.o;subst hNP
   have HK := Qh (LgIn.push (s := smOf sg) (HL9.o.below HX.o) (by
     have h1 : (smOf sg).es.length = sg.L.length := ends_len _;refine ⟨?_, fun e he => ends_le HMay.o e he⟩;unfold Sm.fin;rw [h1, HLn.o];have h2 : (smOf sg).n = sn := by rw [HSN.o]; rfl
     omega) (by rw [← HL9.o.len]; have := HPl.o; omega) (by
     have h2 : (smOf sg).n = sn := by rw [HSN.o]; rfl
     rw [h2]
     exact HO.o) HW13.o (Jaf HE10.o HX.o) (fun k hk e => by
     have h1 := (HI.o.L.lt k hk).2;have h2 := HNV.o k e;have := HSZ9.o
     omega))
   have HPF := Qh (fun z hz => Jm2 (b := b) (vs := .slice av P.length cv) (P := P) (s := smOf sg) (ve := .slice ae Ln ce) HV.o z hz);have HSET := Qh (Jai (A := fun z => z = b) w13 ⟨b, 3, none⟩ (.slice a13 (P.length + 1) c13) rfl)
   have HALL := Qh (show Wr (fun k => k = tb ∨ k = b ∨ (Value.slice av P.length cv).ownBlock = some k) w3 (w13.setCell ⟨b, 3, none⟩ (.slice a13 (P.length + 1) c13)) from
    (((HWR9.o.mono (fun k hk => .inl (.inl hk))).trans (Jad HX.o)).trans (HW13.o.mono (fun k hk => .inl (.inr (.inr hk))))).trans (HSET.o.mono (fun k hk => .inl (.inr (.inl hk)))))
   have htb0 : tb ≠ b := by omega
   have HK14 := Qh ((((HKT9.o.below HX.o).wr HW13.o (fun e => HL9.o.row.ne HKT9.o (by decide) tb e rfl))).other (c := b) htb0 3 (.slice a13 (P.length + 1) c13));have hAF : ∀ k, (k = b ∨ (Value.slice av P.length cv).ownBlock = some k) → LgF b (.slice av P.length cv) P k := fun k hk => hk.elim .inl (fun q => .inr (.inl q))
   have heb : b ≠ eb := by omega
   have hfar := HI.o.L.far HI.o.e heb (by decide) (by decide)
   have HM9 := Qh (show MarksAt w.heap.size ({ target := .collected DD, args := #[] } :: ds) w9 from by
    have h1 := HSZ9.o;refine ⟨⟨DD, rfl, by omega, HKO9.o.same _ _ HDK.o rfl, fun e he h => ?_⟩, HI.o.m.keep (Je2 HWR9.o (fun k hk => by rw [hk]; exact Jcy HKT.o))⟩;have := HI.o.m.lt' e he DD h;have := HB4.o.size;have := HW5.o.size;have := HB7.o.size
    omega)
   have HM14 := Qh (HM9.o.keep (((Je3 HX.o).trans (Je2 HW13.o (fun k hk => Jf8 (HL9.o.row.below HX.o) k hk))).trans (KeepsOthers.setCell w13 ⟨b, 3, none⟩ (.slice a13 (P.length + 1) c13))))
   have HNX := Qh (show LdI B b d st Z tz w tb eb (.slice (some ⟨g, o, none⟩) PL cap) (i + 1) (.slice a13 (P.length + 1) c13) (P ++ [(smOf sg, .slice ae Ln ce)]) ({ target := .collected DD, args := #[] } :: ds) (w13.setCell ⟨b, 3, none⟩ (.slice a13 (P.length + 1) c13)) from by
    refine ⟨?_, HI.o.W.step HALL.o (fun k hk => ?_), fun k hk => ?_, ?_, HI.o.e.wr HALL.o (fun hk => ?_), HM14.o, Jal HI.o.r HALL.o (fun q hq hk => ?_)⟩
    ·have hiz2 : i < Z.length := hiz
     have e : (⟨st, false, (Z.take (i + 1)).map smOf⟩ : Lg) = (⟨st, false, (Z.take i).map smOf⟩ : Lg).push (smOf sg) := by
      unfold Lg.push;rw [List.take_succ_eq_append_getElem hiz2, List.map_append, ← HSG.o];rfl
     rw [e];exact HK.o
    ·rcases hk with rfl | hk
     ·exact .inr (by omega)
     ·rcases HI.o.F k (hAF k hk) with q | q
      ·exact .inl q
      ·exact .inr q
    ·rcases HPF.o k hk with q | q | ⟨_, q⟩
     ·exact HI.o.F k q
     ·have h1 := HNV.o k q
      have h2 := HSZ9.o;exact .inr (by omega)
     ·have h1 := HX.o.size
      have h2 := HSZ9.o;exact .inr (by omega)
    ·rw [← HTN2.o]
     exact HK14.o
    ·rcases hk with q | q
     ·omega
     ·exact hfar eb (hAF eb q) rfl
    ·rcases hk with q | q | q
     ·exact (Jak HI.o.r).ne HKT.o (by decide) _ hq q
     ·exact (Jak HI.o.r).ne HI.o.L.box (by decide) _ hq q
     ·exact Jct (Jak HI.o.r) HI.o.L.row (by decide) _ hq q)
   clear HALL HK14 hAF hfar HM9 HM14 HK HPF HSET HO HW13 HV;go_wp2_with fail;refine ⟨?_, ?_⟩
   ·(repeat apply Exists.intro); refine ⟨⟨?_, ?_, HNX⟩, rfl⟩
    ·omega
    ·go_num
   ·simp [intOf]; omega
  case stop =>
   rintro DD cd pre W _ _ hX _;exact hX.elim
 ·have d1 : decide ((i : Int) < (PL : Int)) = false := by simpa using hlt
  have d1' : decide (i < PL) = false := by simpa using hlt
  obtain rfl : i = PL := by omega
  have hI := HI.o;have htt : decide (i = Z.length ∧ tz ≠ []) = decide (tz ≠ []) := by simp [HPL.o]
  have kt := hI.t;rw [htt] at kt;have ke := hI.e;have ho := HTB.o;have hszw := hI.W.size;have ct := kt.cell 0;have ft := kt.free 0;have n1 : ¬ (eb = tb) := by omega
  have n2 : tb ≠ eb := by omega
  have ce : ∀ u, (w3.setCell ⟨tb, 0, none⟩ u).cell? ⟨eb, 0, none⟩ = some (.int .i64 0) := fun u => (ke.other n1 _ _).cell 0
  have fe : ∀ u, (w3.setCell ⟨tb, 0, none⟩ u).frozen? ⟨eb, 0, none⟩ = false := fun u => (ke.other n1 _ _).free 0
  have HKT := Qh kt;have HKE := Qh ke;clear hI kt ke htt;obtain ⟨tn, htn⟩ : ∃ x, x = decide (tz ≠ []) := ⟨_, rfl⟩
  have HTN := Qh htn;rw [← htn] at HKT ct;clear htn;go_wp2_with fail;have hI := HI.o;have hw4 : Wr (fun k => k = tb ∨ k = eb) w3 ((w3.setCell ⟨tb, 0, none⟩ (.bool tn)).setCell ⟨eb, 0, none⟩ (.int .i64 0)) := (Jai _ _ _ (.inl rfl)).trans (Jai _ _ _ (.inr rfl))
  have hL4 := hI.L.wr hw4 (fun k hk q => by
   rcases q with rfl | rfl
   ·exact hI.L.far HKT.o (by omega) (by decide) (by decide) k hk rfl
   ·exact hI.L.far HKE.o (by omega) (by decide) (by decide) k hk rfl)
  have hT4 := (HKT.o.set 0 (.bool tn)).other (c := eb) n2 0 (.int .i64 0);have hE4 := (HKE.o.other (c := tb) n1 0 (.bool tn)).set 0 (.int .i64 0);have hM4 : MarksAt w.heap.size ds ((w3.setCell ⟨tb, 0, none⟩ (.bool tn)).setCell ⟨eb, 0, none⟩ (.int .i64 0)) := hI.m.keep ((KeepsOthers.setCell _ _ _).trans (KeepsOthers.setCell _ _ _));have hW4 : Wr (fun k => k = b) w ((w3.setCell ⟨tb, 0, none⟩ (.bool tn)).setCell ⟨eb, 0, none⟩ (.int .i64 0)) := hI.W.step hw4 (fun x hx => .inr (by rcases hx with rfl | rfl <;> omega));have hF4 := hI.F;clear hI;generalize (w3.setCell ⟨tb, 0, none⟩ (.bool tn)).setCell ⟨eb, 0, none⟩ (.int .i64 0) = w4 at *;refine HQ.o _ _ (Jek (B := w.heap.size) ds _ hW4.size hM4 (fun w5 ht => ?_));have t1 := (ht.bk hT4).cell 0;have t2 := (ht.bk hE4).cell 0;refine ⟨.tuple #[.bool tn, .int .i64 0], ?_, ?_⟩
  ·simp [results, Tryz.f60, go_sem, t1, t2]
  ·refine ⟨by rw [HTN.o], vs, P, ?_, hW4.step (Jqe ht.bel) (fun x hx => .inr hx), hF4⟩
   have hS : (Z.take i).map smOf = Z.map smOf := by rw [List.take_of_length_le (by rw [← HPL.o]; exact Nat.le_refl _)]
   have := hL4.wr ht.wr (fun k hk ⟨o, h1, h2⟩ => by
    obtain ⟨o', h3, h4⟩ := hL4.cells k hk;rw [h1] at h3;cases h3
    rw [h4] at h2
    cases h2)
   rw [hS] at this;exact this
theorem Jm9 (h : DkX X B d D w) (hX : ∀ k, X k → k < w.heap.size) (hB : B ≤ w.heap.size) (hv : Vr w) (h3 : 3 ≤ B) {st : Nat} (hst : st ≤ 1000000000) (hb : Bk #[.pointer (some ⟨d, 0, none⟩), .int .i64 (st : Nat), .bool false, .slice none 0 0] 48 w b) (hbB : B ≤ b) (hbX : X b)
  (Z : List Sg) (tz : List UInt8) (hZ : LdOk D Z tz) :
  Calls Tryz.prog 60 #[.pointer (some ⟨b, 0, none⟩)] w (LdR B b d st Z tz w) :=
 callsIn_wide.1 (Joz 4 (by omega) h hX hB hv h3 hst hb hbB hbX Z tz hZ)
end
end Go.Proofs.YtmammmjmipgmoaaGreatDoor
