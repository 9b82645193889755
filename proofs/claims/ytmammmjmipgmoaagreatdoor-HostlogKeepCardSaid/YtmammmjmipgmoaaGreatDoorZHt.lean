/- Texts of lower layers, as one. -/
import Derived.Test.YtmammmjmipgmoaaGreatDoorZHs
import Derived.Test.YtmammmjmipgmoaaGreatDoorZHj
import Derived.Test.YtmammmjmipgmoaaGreatDoorZHh
import Derived.Test.YtmammmjmipgmoaaGreatDoorZF
import Derived.SizedLaws
/- Layer 6: what the laws share: a log on a new disk, all that is sure, rows of tests that come in. -/
namespace Go.Proofs.YtmammmjmipgmoaaGreatDoor
set_option linter.unusedVariables false
open Go Go.RowKit Go.Maps

section
variable {H : Type} {enc : TypeId × Value → H} {W : World} {fuel : Nat} {cs : List Value} {x : DataW H × List MemPlace} {B : Nat} {sp : Nat → Bool} {hd : Bool} {r : Reach} {b0 : Nat} {v : Value} {d : DataW H} {p : List MemPlace}
def BsA6 (w : World) (ao : Option Addr) (L : List Bool) : Prop := L ≠ [] → ∃ g off, ao = some ⟨g, off, none⟩ ∧ ∀ j, j < L.length → w.cell? ⟨g, off + j, none⟩ = some (.bool (L.getD j false))
theorem BsA6.below {w w' : World} {ao : Option Addr} {L : List Bool} (h : BsA6 w ao L) (hb : Below w.heap.size w w') : BsA6 w' ao L := fun hn => by
  obtain ⟨g, off, e, hc⟩ := h hn
  exact ⟨g, off, e, fun j hj => cell_below6 (hc j hj) hb⟩
def UBs6 (W : World) (v : Value) : Prop := ∃ (L : List Bool) (ao : Option Addr) (cap : Nat), v = .slice ao L.length cap ∧ L.length ≤ 9223372036854775807 ∧ BsA6 W ao L
set_option maxRecDepth 100000 in
theorem bs_cells6 (hf : DataW.trod enc Tryz.prog W 0 sp hd fuel 69 cs = some x) : ∃ (L : List Bool) (ao : Option Addr) (cap : Nat), cs = [.slice ao L.length cap] ∧ L.length ≤ 9223372036854775807 ∧ BsA6 W ao L := by
  have c8 : Tryz.prog.cellsOf 4 = 1 := by kernel_rfl
  rcases Deep.open_slice Tryz.underlying69 hf with ⟨hcs, _⟩ | ⟨a, len, cap, m, n, D, Pz, hcs, _, hl, hm, hmm, _, hx⟩
  · exact ⟨[], none, 0, hcs, by simp, fun h => absurd rfl h⟩
  · rw [c8] at hx
    have hlm : len ≤ m := by rw [hmm]; split <;> omega
    unfold maxLen at hm
    obtain ⟨L, hL, hp⟩ := choose_list5 false len (p := fun i y => W.cells? 0 (a.add (i * 1)) 1 = some ([.bool y])) (fun i hi => by
      obtain ⟨cs', h1, h2⟩ := hx i (by omega)
      obtain ⟨y, e, _⟩ := DataW.trod_bool Tryz.underlying4 h2
      exact ⟨y, by rw [h1, e]⟩)
    refine ⟨L, some a, cap, by rw [hcs, hL], by omega, fun hne => ?_⟩
    have h0 : 0 < len := by rw [← hL]; exact List.length_pos_iff.2 hne
    have e := addr_plain5 (cells_get5 (hp 0 h0) 0 _ rfl)
    simp only [Nat.zero_mul, show ∀ x : Addr, x.add 0 = x from fun x => if_pos rfl] at e
    refine ⟨a.block, a.off, by rw [← e], fun j hj => ?_⟩
    have hc := cells_get5 (hp j (by omega))
    rw [e, Addr.add_lit] at hc
    have := hc 0 _ rfl
    rw [show ∀ x : Addr, x.add 0 = x from fun x => if_pos rfl] at this
    simpa using this
set_option maxRecDepth 100000 in
theorem open_bools6 (hv : Value.okWide Tryz.prog W r b0 69 v) (h : DataW.Trod enc Tryz.prog W 0 (fun _ => true) true 69 v d p) : UBs6 W v := by
  obtain ⟨a0, len, cap, rfl⟩ := WideShapes.okWide_slice Tryz.underlying69 hv
  obtain ⟨fuel, hf⟩ := h
  obtain ⟨L, ao, cap', hcs, h1, h2⟩ := bs_cells6 hf
  simp [Value.cells] at hcs
  obtain ⟨rfl, rfl, rfl⟩ := hcs
  exact ⟨L, a0, cap, rfl, h1, h2⟩
end
/-! Spans that come in, of any length: what the reach says of their strings. -/
section
variable {H : Type} {enc : TypeId × Value → H} {W : World} {fuel : Nat} {B : Nat} {sp : Nat → Bool} {hd : Bool} {r : Reach} {b0 : Nat} {v : Value} {d : DataW H} {p : List MemPlace}
theorem weights_all6 {P : Program} {e : TypeId} : ∀ {l : List (DataW H)} {d : DataW H}, d ∈ l → ∀ n ∈ d.weights P e, n ∈ DataW.weightsAll P e l
  | x :: l, d, hd, n, hn => by
    unfold DataW.weightsAll
    rcases List.mem_cons.1 hd with rfl | hd
    · exact List.mem_append_left _ hn
    · exact List.mem_append_right _ (weights_all6 hd n hn)
set_option maxRecDepth 100000 in
theorem sp_weights6 {y : M.Sp} {x : DataW H × List MemPlace} (hf : DataW.trod enc Tryz.prog W B sp hd fuel 39 (spL y) = some x) (j : Nat) (l : List UInt8) (hj : (j = 3 ∧ l = y.svc) ∨ (j = 4 ∧ l = y.host) ∨ (j = 7 ∧ l = y.note)) :
    l.length ∈ x.1.weights Tryz.prog 39 := by
  have k1 : Tryz.prog.cellsOf 9 = 1 := by kernel_rfl
  obtain ⟨xs, n, _, rfl, hlen, hn, hel⟩ := DataW.trod_struct Tryz.underlying39 hf
  have hnn : xs.length = 8 := hn
  have key : DataW.trod enc Tryz.prog W B sp hd n 9 [.string (S l)] = xs[j]? := by
    rcases hj with ⟨rfl, rfl⟩ | ⟨rfl, rfl⟩ | ⟨rfl, rfl⟩
    · have h3 : DataW.trod enc Tryz.prog W B sp hd n 9 (List.take (Tryz.prog.cellsOf 9) (List.drop 3 (spL y))) = xs[3]? := hel 3 _ rfl
      rw [k1] at h3
      exact h3
    · have h3 : DataW.trod enc Tryz.prog W B sp hd n 9 (List.take (Tryz.prog.cellsOf 9) (List.drop 4 (spL y))) = xs[4]? := hel 4 _ rfl
      rw [k1] at h3
      exact h3
    · have h3 : DataW.trod enc Tryz.prog W B sp hd n 9 (List.take (Tryz.prog.cellsOf 9) (List.drop 7 (spL y))) = xs[7]? := hel 7 _ rfl
      rw [k1] at h3
      exact h3
  have hjl : j < 8 := by omega
  obtain ⟨q, hq⟩ : ∃ q, xs[j]? = some q := ⟨xs[j]'(by omega), List.getElem?_eq_getElem (by omega)⟩
  rw [hq] at key
  obtain ⟨s, e1, e2, _⟩ := DataW.trod_string Tryz.underlying9 key
  have e3 : s = S l := by simpa using e1.symm
  have hparts : (xs.map (·.1))[j]? = some (.lit (.string l)) := by
    rw [List.getElem?_map, hq, e2, e3]
    rfl
  simp only [DataW.weights, Tryz.underlying39]
  refine DataW.weights_mem_each (j := j) (t := 9) (d := .lit (.string l)) ?_ hparts _ (by simp [DataW.weights])
  rcases hj with ⟨rfl, _⟩ | ⟨rfl, _⟩ | ⟨rfl, _⟩ <;> rfl
def USf6 (W : World) (v : Value) : Prop := ∃ (L : List M.Sp) (ao : Option Addr) (cap : Nat), v = .slice ao L.length cap ∧ L.length ≤ 9223372036854775807 ∧ (∀ x ∈ L, x.fits) ∧ SpsAt W ao L
theorem ints_fits6 {y : M.Sp} (h : y.ints) (h1 : y.svc.length ≤ reachBytes) (h2 : y.host.length ≤ reachBytes) (h3 : y.note.length ≤ reachBytes) : y.fits :=
  ⟨h.t1, h.t2, h.i1, h.i2, h.p1, h.p2, h.s1, h.s2, h.d1, h.d2, h1, h2, h3⟩
set_option maxRecDepth 100000 in
theorem open_spansf6 (hv : Value.okWide Tryz.prog W r b0 52 v) (h : DataW.Trod enc Tryz.prog W 0 (fun _ => true) true 52 v d p) (hw : ∀ n ∈ d.weights Tryz.prog 52, n ≤ reachBytes) : USf6 W v := by
  obtain ⟨a0, len0, cap0, rfl⟩ := WideShapes.okWide_slice Tryz.underlying52 hv
  obtain ⟨fuel, hf⟩ := h
  have c8 : Tryz.prog.cellsOf 39 = 8 := by kernel_rfl
  rcases Deep.open_slice Tryz.underlying52 hf with ⟨hcs, _⟩ | ⟨a, len, cap, m, n, D, Pl, hcs, _, hl, hm, hmm, hx0, hx⟩
  · simp [Value.cells] at hcs
    obtain ⟨rfl, rfl, rfl⟩ := hcs
    exact ⟨[], none, 0, rfl, by simp, by simp, fun h => absurd rfl h⟩
  · simp [Value.cells] at hcs
    obtain ⟨rfl, rfl, rfl⟩ := hcs
    rw [c8] at hx
    have hlm : len0 ≤ m := by rw [hmm]; split <;> omega
    unfold maxLen at hm
    have hwi : ∀ i, i < len0 → ∀ n ∈ (D i).weights Tryz.prog 39, n ≤ reachBytes := fun i hi n hn => by
      refine hw n ?_
      have hd := congrArg Prod.fst hx0
      simp only at hd
      rw [hd]
      simp only [DataW.weights, Tryz.underlying52]
      exact List.mem_cons_of_mem _ (List.mem_append_left _ (weights_all6 (List.mem_map.2 ⟨i, List.mem_range.2 hi, rfl⟩) n hn))
    obtain ⟨L, hL, hp⟩ := choose_list5 M.sp0 len0 (p := fun i y => W.cells? 0 (a.add (i * 8)) 8 = some (spL y) ∧ y.fits) (fun i hi => by
      obtain ⟨cs', h1, h2⟩ := hx i (by omega)
      obtain ⟨y, rfl, hok⟩ := sp_cells6 h2
      exact ⟨y, h1, ints_fits6 hok (hwi i hi _ (sp_weights6 h2 3 _ (.inl ⟨rfl, rfl⟩))) (hwi i hi _ (sp_weights6 h2 4 _ (.inr (.inl ⟨rfl, rfl⟩)))) (hwi i hi _ (sp_weights6 h2 7 _ (.inr (.inr ⟨rfl, rfl⟩))))⟩)
    refine ⟨L, some a, cap0, by rw [hL], by omega, fun y hym => ?_, fun hne => ?_⟩
    · obtain ⟨i, hi, rfl⟩ := List.mem_iff_getElem.1 hym
      have := (hp i (by omega)).2
      simpa [List.getD, List.getElem?_eq_getElem hi] using this
    · have h0 : 0 < len0 := by rw [← hL]; exact List.length_pos_iff.2 hne
      have e := addr_plain5 (cells_get5 (hp 0 h0).1 0 _ rfl)
      simp only [Nat.zero_mul, show ∀ x : Addr, x.add 0 = x from fun x => if_pos rfl] at e
      refine ⟨a.block, a.off, by rw [← e], fun j hj => ?_⟩
      have hc := cells_get5 (hp j (by omega)).1
      rw [e, Addr.add_lit] at hc
      exact ⟨(hc 0 _ rfl), (hc 1 _ rfl), (hc 2 _ rfl), (hc 3 _ rfl), (hc 4 _ rfl), (hc 5 _ rfl), (hc 6 _ rfl), (hc 7 _ rfl)⟩
end
section
variable {X : Nat → Prop} {B b d : Nat} {F : Nat} {Z : List Hl.Sg} {G : Hl.Lg} {D : Dk.St} {w w' : World}
open Hl
theorem has0_nil : Has0 [] := ⟨⟨List.Pairwise.nil, (fun f hf => by cases hf), (fun f hf => by cases hf)⟩, (fun f hf => by cases hf)⟩
theorem lv_new (n : Nat) : Lv 0 [] ⟨0, false, []⟩ (Dk.new n) := ⟨.inl ⟨rfl, rfl, has0_nil⟩, fun _ => rfl, rfl, rfl, rfl, rfl, rfl⟩
def Opd6 (n : Nat) (w : World) (e : Ending) (w' : World) : Prop := ∃ d b, e = .returned (.tuple #[.pointer (some ⟨d, 0, none⟩), .pointer (some ⟨b, 0, none⟩)]) ∧ HgX (fun _ => False) w.heap.size b d (Dk.new n) ⟨0, false, []⟩ w' ∧ Below w.heap.size w w' ∧ w.heap.size ≤ d ∧ w.heap.size ≤ b
set_option maxRecDepth 100000 in
theorem opened6 (n : Nat) (h1 : 1 ≤ n) (h2 : n ≤ 1048576) (hv : Vr w) : Calls Tryz.prog 28 #[.int .i64 (n : Nat)] w (Opd6 n w) := by
  have CN := Lib.hid (show Calls Tryz.prog 11 #[.int .i64 (n : Nat)] w (NewXd5 n w) from newXd5 n w h1 h2)
  have HV := Lib.hid hv
  clear hv
  go_enter Tryz.func28, Tryz.ntmps28
  go_wp2_with fail
  with_reducible refine CN.out.mono ?_
  rintro e w1 ⟨d, rfl, hd, hb, hdl⟩
  have h3 := HV.out.sz
  have CO := Lib.hid (open6_any (X := fun _ => False) hd (fun k hk => hk.elim) hb.size (HV.out.below hb) h3 (by show (0 : Nat) ≤ _; omega) [] [] (ld_new n) (fun q => absurd rfl q))
  rw [open_new] at CO
  have HB := Lib.hid hb
  have HD := Lib.hid hdl
  have H3 := Lib.hid h3
  clear hd hb h3 CN hdl
  go_wp2_with fail
  with_reducible refine CO.out.mono ?_
  rintro e w2 ⟨hw, (⟨h0, _⟩ | ⟨-, b, rfl, hbl, hg⟩)⟩
  · exact absurd rfl h0
  have HH := Lib.hid (show HgX (fun _ => False) w.heap.size b d (Dk.new n) ⟨0, false, []⟩ w2 ∧ Below w.heap.size w w2 ∧ w.heap.size ≤ b from ⟨hg, HB.out.trans (hw.below (fun k hk => hk.1) HB.out.size), Nat.le_trans HB.out.size hbl⟩)
  clear hw hg hbl CO
  go_wp2_with fail
  go_ret2
  exact ⟨d, b, rfl, HH.out.1, HH.out.2.1, HD.out, HH.out.2.2⟩
def AllR6 (K : List M.Sp) (w : World) (e : Ending) (w' : World) : Prop :=
  ∃ ao cap, e = .returned (.tuple #[.slice ao K.length cap, .bool true]) ∧ w'.ownsRow w.heap.size 39 8 (.slice ao K.length cap) K.length (sps K) ∧ Below w.heap.size w w'
theorem Hl.Lv.readAll (h : HgX X B b d D G w) (hl : Lv F Z G D) : Calls Tryz.prog 17 #[.pointer (some ⟨b, 0, none⟩), .int .i64 (F : Nat), .int .i64 100000] w (ReadR ((flat Z).take (sureN Z D.L)) (F + sureN Z D.L) 0 w) := by
  have h1 := hl.small
  have h2 := sureN_le Z D.L
  have key := readAll6_any h Z hl.gs hl.rd (F : Nat) 100000 ⟨by omega, by omega⟩ ⟨by decide, by decide⟩ (by rw [hl.sure]; omega)
  rw [hl.all_s, hl.all_n, hl.all_e] at key
  exact key
set_option maxRecDepth 100000 in
set_option maxHeartbeats 1000000 in
theorem all6_any (h : HgX X B b d D G w) (hl : Lv F Z G D) : Calls Tryz.prog 32 #[.pointer (some ⟨b, 0, none⟩)] w (AllR6 ((flat Z).take (sureN Z D.L)) w) := by
  have CF := Lib.hid (show ∀ W, Below w.heap.size w W → Calls Tryz.prog 23 #[.pointer (some ⟨b, 0, none⟩)] W fun e w' => e = .returned (.int .i64 (F : Nat)) ∧ Below W.heap.size W w' from fun W k => by
    have := first6_any (h.below k); rw [hl.first] at this; exact this)
  have CS := Lib.hid (show ∀ W, Below w.heap.size w W → Calls Tryz.prog 24 #[.pointer (some ⟨b, 0, none⟩)] W fun e w' => e = .returned (.int .i64 ((F + sureN Z D.L : Nat) : Int)) ∧ Below W.heap.size W w' from fun W k => by
    have := sure6_any (h.below k) (srt_of hl.gs); rw [hl.sure] at this; exact this)
  have CR := Lib.hid (fun W (k : Below w.heap.size w W) => hl.readAll (h.below k))
  have hn : ((flat Z).take (sureN Z D.L)).length = sureN Z D.L := by rw [List.length_take, cnt_flat]; have := sureN_le Z D.L; omega
  have hsm := hl.small
  have hsl := sureN_le Z D.L
  generalize (flat Z).take (sureN Z D.L) = K at *
  obtain ⟨n, hN⟩ : ∃ n, n = F + sureN Z D.L := ⟨_, rfl⟩
  rw [← hN] at CS CR
  have hwr : IntKind.i64.wrap ((n : Int) - (F : Int)) = ((K.length : Nat) : Int) := by rw [IntWalk.i64_in _ (by omega)]; omega
  clear h hl hn hN hsm hsl
  go_enter Tryz.func32, Tryz.ntmps32
  go_wp2_with fail
  with_reducible refine (CF.out _ (Below.refl _ _)).mono ?_
  rintro e w1 ⟨rfl, hb⟩
  have HB := Lib.hid hb
  clear hb
  go_wp2_with fail
  with_reducible refine (CR.out _ HB.out).mono ?_
  rintro e w2 ⟨ao, cap, rfl, hr, hb⟩
  have HR := Lib.hid (row_base5 hr HB.out.size)
  replace HB := Lib.hid (below_step HB.out hb)
  clear hb hr CR
  go_wp2_with fail
  with_reducible refine (CS.out _ HB.out).mono ?_
  rintro e w3 ⟨rfl, hb⟩
  replace HR := Lib.hid (row_below5 HR.out hb)
  replace HB := Lib.hid (below_step HB.out hb)
  clear hb CS
  go_wp2_with fail
  with_reducible refine (CF.out _ HB.out).mono ?_
  rintro e w4 ⟨rfl, hb⟩
  replace HR := Lib.hid (row_below5 HR.out hb)
  replace HB := Lib.hid (below_step HB.out hb)
  clear hb CF
  go_wp2_with fail
  go_ret2
  exact ⟨ao, cap, rfl, HR.out, HB.out⟩
end

end Go.Proofs.YtmammmjmipgmoaaGreatDoor

/- Layer 6: a log beside rows of spans that the law has; a log on a disk without a Fail, with room. -/
namespace Go.Proofs.YtmammmjmipgmoaaGreatDoor
set_option linter.unusedVariables false
open Go Go.RowKit Go.Maps

namespace Hl
theorem Ocm.done {Y : Nat → List Sg → List Dk.Fl → Prop} {full : Prop} {F : Nat} {Z : List Sg} {D : Dk.St} {r : Int × Dk.St × Lg} (h : Ocm Y full F Z D r) (hs : D.set = none) (hf : ¬ full) :
    ∃ F' Z' L', r.1 = 0 ∧ r.2.1 = { D with set := none, L := L' } ∧ Lv F' Z' r.2.2 r.2.1 ∧ Gr F Z D.L F' Z' L' ∧ Y F' Z' L' := by
  rcases h with ⟨F', Z', s, L', q1, q2, q3, q4, q5, q6⟩ | ⟨q, _⟩ | ⟨q, _⟩
  · obtain rfl := q3 hs
    exact ⟨F', Z', L', q1, q2, q4, q5, q6⟩
  · exact absurd q hf
  · exact absurd hs q
/-- A log of records K, of a disk that has no Fail and room. -/
structure BkP (K : List M.Sp) (s : Nat) (Z : List Sg) (G : Lg) (D : Dk.St) : Prop where
  lv : Lv 0 Z G D
  set : D.set = none
  room : D.room = 1048576
  fl : flat Z = K
  sz : Dk.size D.L ≤ s
  st0 : D.starts = 0
section
variable {K : List M.Sp} {s : Nat} {Z : List Sg} {G : Lg} {D : Dk.St}
theorem bkP_new : BkP [] 0 [] ⟨0, false, []⟩ (Dk.new 1048576) := ⟨lv_new _, rfl, rfl, rfl, Nat.le_refl _, rfl⟩
theorem BkP.cnt (h : BkP K s Z G D) : cnt Z = K.length := by rw [← h.fl]; rfl
theorem BkP.en (h : BkP K s Z G D) : endN G = K.length := by rw [h.lv.endN, h.cnt, Nat.zero_add]
theorem BkP.app (h : BkP K s Z G D) {x : M.Sp} (hx : M.mayB x = true) (hf : x.fits) (hk : K.length ≤ 400) (hs : s ≤ 900000) :
    ∃ Z', (append6 x G D).1 = 0 ∧ BkP (K ++ [x]) (s + 98) Z' (append6 x G D).2.2 (append6 x G D).2.1 := by
  obtain ⟨F', Z', L', q1, q2, q3, q4, rfl, q6⟩ := (append_lv h.lv hx hf (by rw [h.cnt]; omega)).done h.set (by have := h.sz; have := h.room; omega)
  refine ⟨Z', q1, q3, by rw [q2], by rw [q2]; exact h.room, by rw [q6, h.fl], ?_, by rw [q2]; exact h.st0⟩
  have := q4.size
  have := h.sz
  rw [q2]
  show Dk.size L' ≤ _
  omega
theorem append_no {F : Nat} {x : M.Sp} (h : Lv F Z G D) (hx : M.mayB x = false) : append6 x G D = (2, D, G) := by
  unfold append6
  rw [if_neg (by rw [h.state]; simp), if_pos hx]
theorem BkP.rot (h : BkP K s Z G D) (hk : K.length ≤ 400) (hs : s ≤ 900000) :
    ∃ Z', (rotate6 G D).1 = 0 ∧ BkP K (s + 98) Z' (rotate6 G D).2.2 (rotate6 G D).2.1 := by
  obtain ⟨F', Z', L', q1, q2, q3, q4, rfl, q6⟩ := (rotate_lv h.lv (by rw [h.cnt]; omega)).done h.set (by have := h.sz; have := h.room; omega)
  refine ⟨Z', q1, q3, by rw [q2], by rw [q2]; exact h.room, by rw [q6, h.fl], ?_, by rw [q2]; exact h.st0⟩
  have := q4.size
  have := h.sz
  rw [q2]
  show Dk.size L' ≤ _
  omega
theorem BkP.syn (h : BkP K s Z G D) :
    ∃ Z', (sync G D).1 = 0 ∧ BkP K (s + 98) Z' (sync G D).2.2 (sync G D).2.1 ∧ SafeZ Z' (sync G D).2.1.L ∧ Z' = Z := by
  obtain ⟨F', Z', L', q1, q2, q3, q4, rfl, rfl, q6⟩ := (sync_lv h.lv).done h.set id
  refine ⟨Z', q1, ⟨q3, by rw [q2], by rw [q2]; exact h.room, h.fl, ?_, by rw [q2]; exact h.st0⟩, by rw [q2]; exact q6, rfl⟩
  have := q4.size
  have := h.sz
  rw [q2]
  show Dk.size L' ≤ _
  omega
theorem BkP.more (h : BkP K s Z G D) : BkP K (s + 98) Z G D := ⟨h.lv, h.set, h.room, h.fl, by have := h.sz; omega, h.st0⟩
theorem BkP.sn (h : BkP K s Z G D) (hs : SafeZ Z D.L) : sureN Z D.L = K.length := by rw [sureN_safe h.lv.hz hs, h.cnt]
end
end Hl

section
open Hl
variable {w0 w w' : World} {b d : Nat} {D : Dk.St} {G : Lg} {R : List (Value × List M.Sp)}
/-- A log on its disk, beside rows of spans; behind a point. -/
def Kept6 (w0 : World) (b d : Nat) (R : List (Value × List M.Sp)) (D : Dk.St) (G : Lg) (W : World) : Prop :=
  ∃ X, HgX X w0.heap.size b d D G W ∧ (∀ k, X k → k < W.heap.size) ∧ Below w0.heap.size w0 W ∧ (∀ r ∈ R, W.ownsRow w0.heap.size 39 8 r.1 r.2.length (sps r.2) ∧ ∀ q, r.1.ownBlock = some q → X q) ∧ R.Pairwise (fun r s => ∀ q, r.1.ownBlock = some q → s.1.ownBlock ≠ some q)
theorem Kept6.below (h : Kept6 w0 b d R D G w) (hb : Below w.heap.size w w') : Kept6 w0 b d R D G w' := by
  obtain ⟨X, h1, h2, h3, h4, h5⟩ := h
  exact ⟨X, h1.below hb, fun k hk => Nat.lt_of_lt_of_le (h2 k hk) hb.size, below_step h3 hb, fun r hr => ⟨row_below5 (h4 r hr).1 hb, (h4 r hr).2⟩, h5⟩
theorem Kept6.bel (h : Kept6 w0 b d R D G w) : Below w0.heap.size w0 w := by obtain ⟨X, h1, h2, h3, h4, h5⟩ := h; exact h3
theorem Kept6.vr (h : Kept6 w0 b d R D G w) : Vr w := by obtain ⟨X, h1, h2, h3, h4, h5⟩ := h; exact h1.vr
theorem Kept6.own {v : Value} {K : List M.Sp} (h : Kept6 w0 b d R D G w) (hm : (v, K) ∈ R) : w.ownsRow w0.heap.size 39 8 v K.length (sps K) := by obtain ⟨X, h1, h2, h3, h4, h5⟩ := h; exact (h4 _ hm).1
theorem Kept6.hg (h : Kept6 w0 b d R D G w) : ∃ X, HgX X w0.heap.size b d D G w := by obtain ⟨X, h1, _⟩ := h; exact ⟨X, h1⟩
/-- A call on the log. -/
theorem Kept6.call {f : FuncId} {args : Array Value} {r : Int × Dk.St × Lg} (h : Kept6 w0 b d R D G w) (C : ∀ X, HgX X w0.heap.size b d D G w → (∀ k, X k → k < w.heap.size) → w0.heap.size ≤ w.heap.size → Calls Tryz.prog f args w (HgO X w0.heap.size b d r w)) :
    Calls Tryz.prog f args w fun e w' => e = .returned (.int .i64 r.1) ∧ Kept6 w0 b d R r.2.1 r.2.2 w' := by
  obtain ⟨X, h1, h2, h3, h4, h5⟩ := h
  refine (C X h1 h2 h3.size).mono fun e w' ⟨o1, o2, o3⟩ => ⟨o1, X, o2, fun k hk => Nat.lt_of_lt_of_le (h2 k hk) o3.size, ?_, fun r hr => ⟨row_wr (h4 r hr).1 o3 (fun q hq z => z.2 ((h4 r hr).2 q hq)), (h4 r hr).2⟩, h5⟩
  exact h3.trans (o3.below (fun k hk => hk.1) h3.size)
theorem Kept6.row (h : Kept6 w0 b d R D G w) : Kept6 w0 b d ((.slice none 0 0, []) :: R) D G w := by
  obtain ⟨X, h1, h2, h3, h4, h5⟩ := h
  refine ⟨X, h1, h2, h3, fun r hr => ?_, List.pairwise_cons.2 ⟨fun s hs q hq => (by cases hq), h5⟩⟩
  rcases List.mem_cons.1 hr with rfl | hr
  · exact ⟨World.ownsRow_nil _ _ _ _, fun q hq => by cases hq⟩
  · exact h4 r hr
/-- A row that a call has made. -/
theorem Kept6.add {v : Value} {K : List M.Sp} (h : Kept6 w0 b d R D G w) (hb : Below w.heap.size w w') (ho : w'.ownsRow w.heap.size 39 8 v K.length (sps K)) : Kept6 w0 b d ((v, K) :: R) D G w' := by
  obtain ⟨X, h1, h2, h3, h4, h5⟩ := h
  refine ⟨fun k => X k ∨ (w.heap.size ≤ k ∧ k < w'.heap.size), h1.newrow hb, fun k hk => ?_, below_step h3 hb, fun r hr => ?_, List.pairwise_cons.2 ⟨fun s hs q hq hq2 => ?_, h5⟩⟩
  · rcases hk with q | q
    · exact Nat.lt_of_lt_of_le (h2 k q) hb.size
    · exact q.2
  · rcases List.mem_cons.1 hr with rfl | hr
    · exact ⟨row_base5 ho h3.size, fun q hq => .inr (ho.lt q hq)⟩
    · exact ⟨row_below5 (h4 r hr).1 hb, fun q hq => .inl ((h4 r hr).2 q hq)⟩
  · have h6 := (h4 s hs).1.lt q hq2
    have h7 := (ho.lt q hq).1
    omega
theorem Kept6.dk (h : Kept6 w0 b d R D G w) : ∃ X, DkX X w0.heap.size d D w := by obtain ⟨X, ⟨vs, P, h1, h2, _⟩, _⟩ := h; exact ⟨_, h2⟩
theorem Kept6.grow {v v' : Value} {K K' : List M.Sp} (h : Kept6 w0 b d ((v, K) :: R) D G w) (ho : w'.ownsRow w0.heap.size 39 8 v' K'.length (sps K')) (hg : w.grownBy w' v.ownBlock) (hv : v'.ownBlock = v.ownBlock ∨ ∃ q, v'.ownBlock = some q ∧ w.heap.size ≤ q) :
    Kept6 w0 b d ((v', K') :: R) D G w' := by
  obtain ⟨X, h1, h2, h3, h4, h5⟩ := h
  have hw : Wr (fun q => v.ownBlock = some q) w w' := wr_grown hg (fun q hq => .inl hq)
  have hv0 := h4 (v, K) (List.mem_cons_self ..)
  have h3' : 3 ≤ w0.heap.size := by obtain ⟨_, _, _, _, _, _, q⟩ := h1; exact q
  have hp := List.pairwise_cons.1 h5
  refine ⟨fun k => X k ∨ (w.heap.size ≤ k ∧ k < w'.heap.size), ?_, fun k hk => ?_, ?_, fun r hr => ?_, List.pairwise_cons.2 ⟨fun s hs q hq hq2 => ?_, hp.2⟩⟩
  · exact (h1.more (X' := fun k => X k ∨ (w.heap.size ≤ k ∧ k < w'.heap.size)) (fun k hk => by rcases hk with q | q; exact .inl q; exact .inr q.1)).wr hw (fun k hk => ⟨.inl (hv0.2 k hk), by have := (hv0.1.lt k hk).1; omega⟩)
  · rcases hk with q | q
    · exact Nat.lt_of_lt_of_le (h2 k q) hw.size
    · exact q.2
  · exact h3.trans (hw.below (fun k hk => (hv0.1.lt k hk).1) h3.size)
  · rcases List.mem_cons.1 hr with rfl | hr
    · refine ⟨ho, fun q hq => ?_⟩
      rcases hv with e | ⟨q', e, hq'⟩
      · exact .inl (hv0.2 q (e ▸ hq))
      · have := (ho.lt q hq).2
        rw [e] at hq
        obtain rfl := Option.some.inj hq
        exact .inr ⟨hq', this⟩
    · exact ⟨row_wr (h4 r (List.mem_cons_of_mem _ hr)).1 hw (fun q hq hq2 => hp.1 r hr q hq2 hq), fun q hq => .inl ((h4 r (List.mem_cons_of_mem _ hr)).2 q hq)⟩
  · have hs2 := (h4 s (List.mem_cons_of_mem _ hs)).1.lt q hq2
    rcases hv with e | ⟨q', e, hq'⟩
    · exact hp.1 s hs q (e ▸ hq) hq2
    · rw [e] at hq
      obtain rfl := Option.some.inj hq
      omega
end

theorem wpList_append_rows6_at {ops : Array Oper} {rest : List Oper} {o : Oper} {a : Act} {Q : Exit → Act → World → Prop} (w : World) (hgd : o.guard = none) (s x : Operand) (t : TypeId)
    (ho : o.op = .call { callee := .builtin .append, args := #[s, x], argTypes := #[t, t] })
    (base : Nat) (e : TypeId) (i : TypeInfo) (z : Value) (size bytes : Nat) (ht : Tryz.prog.underlying t = some (.slice e)) (hi : Tryz.prog.info? e = some i) (hz : i.zero = some z)
    (hsize : i.size = size) (hby : i.bytes = bytes) (hzs : z.cells.size = size) (hsz : 0 < size)
    (v : Value) (n : Nat) (xs : List Value) (hs : a.eval s = v) (hown : w.ownsRow base e size v n xs)
    (base' : Nat) (u : Value) (m : Nat) (ys : List Value) (hx : a.eval x = u) (hu : w.ownsRow base' e size u m ys) (h1 : ∀ u ∈ ys, u.oneCell' = true)
    (h63 : n + m ≤ maxLen) (hbytes : (n + m) * bytes ≤ 140737488355328) (hbase : base ≤ w.heap.size)
    (h : ∀ v' w', w'.ownsRow base e size v' (n + m) (xs ++ ys) → w.grownBy w' v.ownBlock → (v'.ownBlock = v.ownBlock ∨ ∃ q, v'.ownBlock = some q ∧ w.heap.size ≤ q) → wpList Tryz.prog ops Q rest (a.put o.dst v') w') : wpList Tryz.prog ops Q (o :: rest) a w := by
  have hul := hu.1
  rcases hu.2 with ⟨rfl, rfl⟩ | ⟨g, cap, cur, rfl, _, hg, _⟩
  · have hy : ys = [] := List.eq_nil_of_length_eq_zero (by rw [hul]; simp)
    subst hy
    refine wpList_append_own_none hgd s x t ho base e i size ht hi v n xs hs hown hx (h v w ?_ ⟨rfl, rfl, rfl, Nat.le_refl _, fun _ _ _ => rfl⟩ (.inl rfl))
    simpa using hown
  · refine wpList_append_own_at w hgd s x t ho base e i z size bytes ht hi hz hsize hby hzs hsz v n xs hs hown ⟨g, 0, none⟩ m cap ys hx hul (fun j u' hj => ?_) h1 h63 hbytes hbase (fun v' w' h2 h3 _ h5 => h v' w' h2 h3 (h5.elim .inl fun q => .inr ⟨_, q, Nat.le_refl _⟩))
    exact hu.cells (g := g) rfl j u' hj
section
open Hl
variable {X : Nat → Prop} {B b d : Nat} {Z : List Hl.Sg} {G : Hl.Lg} {D : Dk.St} {w w' : World}
/-- A page of what is sure. -/
theorem Hl.Lv.page (h : HgX X B b d D G w) (hl : Lv 0 Z G D) {K : List M.Sp} (hf : flat Z = K) (hs : sureN Z D.L = K.length) (a m : Nat) (ha : a ≤ K.length) (hm : m ≤ 1000000) :
    Calls Tryz.prog 17 #[.pointer (some ⟨b, 0, none⟩), .int .i64 (a : Nat), .int .i64 (m : Nat)] w (ReadR ((K.take (a + min m (K.length - a))).drop a) (a + min m (K.length - a)) 0 w) := by
  have hsm := hl.small
  have hsu : sureL D G = K.length := by rw [hl.sure, hs, Nat.zero_add]
  have hcl : cnt Z = K.length := by rw [← hf]; rfl
  have e1 : readE D G (a : Nat) (m : Nat) = 0 := by
    unfold readE
    rw [if_neg (by rw [hl.state]; simp), if_neg (by omega), if_neg (by rw [hl.first, hsu]; omega)]
  have e2 : upTo6 D G (a : Nat) (m : Nat) = a + min m (K.length - a) := by
    unfold upTo6
    rw [hsu, Int.toNat_natCast, Int.toNat_natCast]
  have key := readAll6_any h Z hl.gs hl.rd (a : Nat) (m : Nat) ⟨by omega, by omega⟩ ⟨by omega, by omega⟩ (by omega)
  have e3 : readS Z D G (a : Nat) (m : Nat) = (K.take (a + min m (K.length - a))).drop a := by
    unfold readS
    rw [if_pos e1, e2, readAll_eq _ _ Z 0 hl.hz.cn, Int.toNat_natCast, hf]
    rfl
  have e4 : readNb D G (a : Nat) (m : Nat) = a + min m (K.length - a) := by
    unfold readNb
    rw [if_pos e1, e2]
  rw [e3, e4, e1] at key
  exact key
end

end Go.Proofs.YtmammmjmipgmoaaGreatDoor

/- Layer 6: a log whose disk falls, is started, and which is opened anew. -/
namespace Go.Proofs.YtmammmjmipgmoaaGreatDoor
set_option linter.unusedVariables false
open Go Go.RowKit Go.Maps

namespace Hl
section
variable {F F' : Nat} {Z Z' : List Sg} {tl : List UInt8} {L L' : List Dk.Fl} {D : Dk.St} {G : Lg} {K : List M.Sp} {s : Nat}
theorem Gr.su (g : Gr F Z L F Z' L') : sureN Z L ≤ sureN Z' L' := by
  have h := g.pre.length_le
  rw [Nat.sub_self, List.drop_zero, List.length_take, List.length_take, cnt_flat, cnt_flat] at h
  have h1 := sureN_le Z L
  omega
theorem BkP.app2 (h : BkP K s Z G D) {x : M.Sp} (hx : M.mayB x = true) (hf : x.fits) (hk : K.length ≤ 400) (hs : s ≤ 900000) :
    ∃ Z', (append6 x G D).1 = 0 ∧ BkP (K ++ [x]) (s + 98) Z' (append6 x G D).2.2 (append6 x G D).2.1 ∧ sureN Z D.L ≤ sureN Z' (append6 x G D).2.1.L := by
  obtain ⟨F', Z', L', q1, q2, q3, q4, rfl, q6⟩ := (append_lv h.lv hx hf (by rw [h.cnt]; omega)).done h.set (by have := h.sz; have := h.room; omega)
  refine ⟨Z', q1, ⟨q3, by rw [q2], by rw [q2]; exact h.room, by rw [q6, h.fl], ?_, by rw [q2]; exact h.st0⟩, by rw [q2]; exact q4.su⟩
  have := q4.size
  have := h.sz
  rw [q2]
  show Dk.size L' ≤ _
  omega
theorem filterMap_lt {α β : Type} {f : α → Option β} : ∀ {l : List α}, (∃ x ∈ l, f x = none) → (l.filterMap f).length < l.length
  | a :: l, ⟨x, hx, e⟩ => by
    have hle := List.length_filterMap_le f l
    rcases List.mem_cons.1 hx with rfl | hx
    · rw [List.filterMap_cons_none e, List.length_cons]
      omega
    · have := filterMap_lt (f := f) ⟨x, hx, e⟩
      rw [List.filterMap_cons]
      cases f a with
      | none => simp only [List.length_cons]; omega
      | some b => simp only [List.length_cons]; omega
/-- A disk that has as many files as segments has no draft. -/
theorem nod_of (h : HasS F Z tl L) (hl : L.length = Z.length) : Dk.has nD L = false := by
  cases hh : Dk.has nD L with
  | false => rfl
  | true =>
    exfalso
    obtain ⟨f, hf, hn⟩ := Dk.has_iff.1 hh
    have hnum : sortI6 (numsOf [108] 0 999999999 (Dk.names L)) = Z.map fun s => (s.n : Int) := by
      rcases h with ⟨rfl, _, q⟩ | ⟨A, z, rfl, q⟩
      · exact q.nums
      · exact q.nums
    have h1 := congrArg List.length hnum
    unfold sortI6 at h1
    rw [List.length_mergeSort, List.length_map] at h1
    have h2 : (numsOf [108] 0 999999999 (Dk.names L)).length < (Dk.names L).length := by
      unfold numsOf
      exact filterMap_lt ⟨nD, List.mem_map.2 ⟨f, hf, hn⟩, fnum_nD⟩
    unfold Dk.names at h2
    rw [List.length_map] at h2
    unfold Dk.names at h1
    omega
/-- A disk fell, and runs again: what its log is then. -/
structure Fell (F : Nat) (Z : List Sg) (tl : List UInt8) (D : Dk.St) : Prop where
  hz : HasS F Z tl D.L
  f0 : Z = [] → F = 0
  set : D.set = none
  len : D.L.length = Z.length
  safe : SafeZ Z D.L
def up6 (D : Dk.St) : Dk.St := { D with up := true, starts := D.starts + 1 }
theorem start_up (h : D.up = false) : Dk.start D = (0, up6 D) := by unfold Dk.start; rw [if_neg (by rw [h]; simp)]; rfl
theorem fell_of (h : HasS F Z [] D.L) (f0 : Z = [] → F = 0) (hl : D.L.length = Z.length) (ks : List Int) : ∃ Z' tl', Fell F Z' tl' (Dk.fall ks D) ∧ flat Z' <+: flat Z ∧ (flat Z).take (sureN Z D.L) <+: flat Z' ∧ sureN Z' (Dk.fall ks D).L = cnt Z' := by
  obtain ⟨Z', tl', h1, h2, h3, h4, h5, h6⟩ := h.fell ks
  refine ⟨Z', tl', ⟨h1, fun q => f0 (h6 q), rfl, ?_, h2⟩, h4, h5, sureN_safe h1 h2⟩
  show (Dk.cut ks D.L).length = _
  rw [Dk.cut_len, hl, h3]
theorem Fell.open (h : Fell F Z tl D) (hr : 2 * Dk.size D.L ≤ D.room) :
    ∃ L', openR Z tl (up6 D) = (0, { up6 D with set := none, L := L' }) ∧ Lv F Z ⟨D.starts + 1, false, Z.map smOf⟩ { up6 D with set := none, L := L' } ∧ SafeZ Z L' ∧ Dk.size L' ≤ Dk.size D.L := by
  rcases open_lv (D := up6 D) h.hz h.f0 rfl h.set (by show D.L.length = Z.length + (if Dk.has nD D.L = true then 1 else 0); rw [nod_of h.hz h.len, if_neg (by simp)]; exact h.len) with ⟨L', e1, e2, e3, e4, e5⟩ | ⟨D', e1, e2⟩
  · exact ⟨L', e1, e2, e3 h.safe, e4⟩
  · have q1 : (up6 D).room = D.room := rfl
    have q2 : Dk.size (up6 D).L = Dk.size D.L := rfl
    omega
theorem size_fall (h : Dk.OkL D.L) (ks : List Int) : Dk.size (Dk.fall ks D).L ≤ Dk.size D.L := Dk.size_cut ks h.safe
end
end Hl
section
open Hl
variable {w0 w w' : World} {b d : Nat} {D : Dk.St} {G : Lg} {R : List (Value × List M.Sp)}
/-- A call on the disk. -/
theorem Kept6.disk {f : FuncId} {args : Array Value} {r : Int × Dk.St} (h : Kept6 w0 b d R D G w) (C : ∀ X, DkX X w0.heap.size d D w → (∀ k, X k → k < w.heap.size) → w0.heap.size ≤ w.heap.size → Calls Tryz.prog f args w (OpX X w0.heap.size d r w)) :
    Calls Tryz.prog f args w fun e w' => e = .returned (.int .i64 r.1) ∧ Kept6 w0 b d R r.2 G w' := by
  obtain ⟨X, ⟨vs, P, q1, q2, q3, q4, q5⟩, h2, h3, h4, h5⟩ := h
  refine (C _ q2 (fun k hk => hk.elim (h2 k) (fun q => (q1.lt k q).2)) h3.size).mono fun e w' ho => ?_
  obtain ⟨a1, a2, a3⟩ := q1.after ho q4 q5
  refine ⟨ho.1, X, ⟨vs, P, a1, ho.2.1, q3, a2, q5⟩, fun k hk => Nat.lt_of_lt_of_le (h2 k hk) a3.size, ?_, fun r hr => ⟨row_wr (h4 r hr).1 a3 (fun q hq z => z.2 ((h4 r hr).2 q hq)), (h4 r hr).2⟩, h5⟩
  exact h3.trans (a3.below (fun k hk => hk.1) h3.size)
/-- The log is opened anew. -/
theorem Kept6.open (h : Kept6 w0 b d R D G w) (hst : D.starts ≤ 1000000000) {F : Nat} {Z : List Sg} {tz : List UInt8} (hZ : HasS F Z tz D.L) (hu : D.up = true) :
    Calls Tryz.prog 18 #[.pointer (some ⟨d, 0, none⟩)] w fun e w' => ((openR Z tz D).1 ≠ 0 ∧ e = .returned (.tuple #[.pointer none, .int .i64 (openR Z tz D).1]) ∧ ∃ X, DkX X w0.heap.size d (openR Z tz D).2 w' ∧ Below w0.heap.size w0 w' ∧ Vr w') ∨ ((openR Z tz D).1 = 0 ∧ ∃ b', e = .returned (.tuple #[.pointer (some ⟨b', 0, none⟩), .int .i64 0]) ∧ Kept6 w0 b' d R (openR Z tz D).2 ⟨D.starts, false, Z.map smOf⟩ w') := by
  obtain ⟨X, ⟨vs, P, q1, q2, q3, q4, q5⟩, h2, h3, h4, h5⟩ := h
  refine (open6_any (q2.less (fun k hk => .inl hk)) h2 h3.size q4 q5 hst Z tz (hZ.load hu) (hZ.torn hu)).mono fun e w' ⟨hw, ho⟩ => ?_
  have hb : Below w0.heap.size w0 w' := h3.trans (hw.below (fun k hk => hk.1) h3.size)
  rcases ho with ⟨e1, e2, e3, e4⟩ | ⟨e1, b', e2, e3, e4⟩
  · exact .inl ⟨e1, e2, X, e3, hb, e4⟩
  · exact .inr ⟨e1, b', e2, X, e4, fun k hk => Nat.lt_of_lt_of_le (h2 k hk) hw.size, hb, fun r hr => ⟨row_wr (h4 r hr).1 hw (fun q hq z => z.2 ((h4 r hr).2 q hq)), (h4 r hr).2⟩, h5⟩
theorem spsAt_take6 {w : World} {ao : Option Addr} {K : List M.Sp} (h : SpsAt w ao K) (n : Nat) : SpsAt w ao (K.take n) := fun hne => by
  obtain ⟨g, off, e, hc⟩ := h (fun q => hne (by rw [q]; simp))
  refine ⟨g, off, e, fun j hj => ?_⟩
  rw [List.length_take] at hj
  have := hc j (by omega)
  rw [show (K.take n).getD j M.sp0 = K.getD j M.sp0 from by simp [List.getD, show j < n by omega]]
  exact this
theorem nsA_lt6 {w : World} {ao : Option Addr} {ks : List Int} (h : NsA5 w ao ks) : ∀ a, ks ≠ [] → ao = some a → a.block < w.heap.size := fun a hne e => by
  obtain ⟨g, off, e2, hc⟩ := h hne
  rw [e2] at e
  injection e with e
  subst e
  exact World.block_lt_of_cell? w _ (hc 0 (List.length_pos_iff.2 hne))
end

end Go.Proofs.YtmammmjmipgmoaaGreatDoor

/- Layer 6: what each act leaves of a log, also where its disk falls, or has fallen. -/
namespace Go.Proofs.YtmammmjmipgmoaaGreatDoor
set_option linter.unusedVariables false
open Go Go.RowKit Go.Maps

section
variable {X Y : Nat → Prop} {B b d : Nat} {G : Hl.Lg} {D : Dk.St} {w w' : World}
open Hl
set_option maxRecDepth 100000 in
theorem append6_down (h : HgX X B b d D G w) (x : M.Sp) (hs : Hl.state D G ≠ 0) :
    Calls Tryz.prog 19 #[.pointer (some ⟨b, 0, none⟩), spA6 x] w (HgO X B b d (Hl.state D G, D, G) w) := by
  have CS := Lib.hid (fun W (k : Below w.heap.size w W) => state6_any (h.below k))
  have HS := Lib.hid (fun W (k : Below w.heap.size w W) => hg_same (v := Hl.state D G) h k)
  clear h
  generalize Hl.state D G = z at *
  have dz : (z != 0) = true := by simpa using hs
  unfold spA6 at *
  go_enter Tryz.func19, Tryz.ntmps19
  go_wp2_with fail
  with_reducible refine (CS.out _ ((Below.refl _ _).alloc (Nat.le_refl _) _)).mono ?_
  rintro e w1 ⟨rfl, hb⟩
  have HB := Lib.hid (below_step ((Below.refl _ _).alloc (Nat.le_refl _) _) hb)
  clear hb CS
  go_wp2_with fail
  go_ret
  exact HS.out _ HB.out
set_option maxRecDepth 100000 in
theorem rotate6_down (h : HgX X B b d D G w) (hs : Hl.state D G ≠ 0) :
    Calls Tryz.prog 21 #[.pointer (some ⟨b, 0, none⟩)] w (HgO X B b d (Hl.state D G, D, G) w) := by
  have CS := Lib.hid (state6_any h)
  have HS := Lib.hid (fun W (k : Below w.heap.size w W) => hg_same (v := Hl.state D G) h k)
  clear h
  generalize Hl.state D G = z at *
  have dz : (z != 0) = true := by simpa using hs
  go_enter Tryz.func21, Tryz.ntmps21
  go_wp2_with fail
  with_reducible refine CS.out.mono ?_
  rintro e w1 ⟨rfl, hb⟩
  have HB := Lib.hid hb
  clear hb CS
  go_wp2_with fail
  go_ret
  exact HS.out _ HB.out
end
namespace Hl
section
variable {F F' : Nat} {Z Z' : List Sg} {tl : List UInt8} {L L' : List Dk.Fl} {D : Dk.St} {G : Lg} {K : List M.Sp} {i : Nat} {r : Int × Dk.St × Lg} {Y : Nat → List Sg → List Dk.Fl → Prop} {full : Prop}
/-- What an act leaves: a log that lives, or a disk that fell. -/
def Nxt (F : Nat) (Z : List Sg) (D : Dk.St) (i : Nat) (D' : Dk.St) (G' : Lg) : Prop :=
  D'.room = D.room ∧ D'.starts = D.starts ∧ Dk.size D'.L ≤ Dk.size D.L + 98 ∧
  ∃ F' Z', F ≤ F' ∧ F' + cnt Z' ≤ i ∧ (∀ K, KnwE K F Z D.L → Knw K F' Z' D'.L) ∧ (Lv F' Z' G' D' ∨ ∃ tl, Fell F' Z' tl D' ∧ D'.up = false)
theorem KnwE.knw (h : KnwE K F Z L) : Knw K F Z L := ⟨h.1, by rw [h.2]; exact List.prefix_refl _⟩
theorem nxt_same (h : Lv F Z G D) (hi : F + cnt Z ≤ i) : Nxt F Z D (i + 1) D G := ⟨rfl, rfl, by omega, F, Z, Nat.le_refl _, by omega, fun K hK => hK.knw, .inl h⟩
theorem nxt_fell {D1 : Dk.St} {F1 : Nat} {Z1 : List Sg} (ks : List Int) (e1 : D1.starts = D.starts) (e2 : D1.room = D.room) (hz : HasS F1 Z1 [] D1.L) (f0 : Z1 = [] → F1 = 0) (hl : D1.L.length = Z1.length) (hg : Gr F Z D.L F1 Z1 D1.L) (hi : F + cnt Z ≤ i) (G' : Lg) : Nxt F Z D (i + 1) (Dk.fall ks D1) G' := by
  obtain ⟨Z2, tl, q1, q2, q3, q4⟩ := fell_of hz f0 hl ks
  have hok : Dk.OkL D1.L := by
    rcases hz with ⟨_, _, q⟩ | ⟨A, z, _, q⟩
    · exact q.ok
    · exact q.ok
  have h1 := size_fall hok ks
  have h2 := hg.size
  have h3 := hg.num
  have h4 := q2.length_le
  rw [cnt_flat, cnt_flat] at h4
  exact ⟨e2, e1, by omega, F1, Z2, hg.lo, by omega, fun K hK => (hg.knw hK).to q3 q4, .inr ⟨tl, q1, rfl⟩⟩
theorem Ocm.nxt (h : Ocm Y full F Z D r) (hi : F + cnt Z ≤ i) : Nxt F Z D (i + 1) r.2.1 r.2.2 := by
  rcases h with ⟨F', Z', s, L', q1, q2, q3, q4, q5, q6⟩ | ⟨_, s, L', q1, q2, q3, q4, q5⟩ | ⟨_, q1, ks, D1, F1, Z1, q2, q3, q4, q5, q6, q7, q8⟩
  · have h2 := q5.num
    have h3 := q5.size
    refine ⟨by rw [q2], by rw [q2], by rw [q2]; exact h3, F', Z', q5.lo, by omega, fun K hK => ?_, .inl q4⟩
    rw [q2]
    exact q5.knw hK
  · have h3 := q5.size
    refine ⟨by rw [q2], by rw [q2], by rw [q2]; exact h3, F, Z, Nat.le_refl _, by omega, fun K hK => ?_, .inl q4⟩
    rw [q2]
    exact q5.knw hK
  · rw [q2]
    exact nxt_fell ks q3 q4 q5 q6 q7 q8 hi _
theorem retain_nxt (h : Lv F Z G D) (n : Int) (hi : F + cnt Z ≤ i) : Nxt F Z D (i + 1) (retain6 n G D).2.1 (retain6 n G D).2.2 := by
  unfold retain6
  rw [if_neg (by rw [h.state]; simp)]
  by_cases hn : n < 1
  · rw [if_pos hn]
    exact nxt_same h hi
  rw [if_neg hn, h.gs]
  rcases retain_lv n.toNat (by omega) Z F G D h with ⟨F', Z', s, L', q1, q2, q3, q4, q5, q6, q7⟩ | ⟨_, q1, ks, D1, F1, Z1, q2, q3, q4, q5, q6, q7, q8⟩
  · have h2 := q5.num
    have h3 := q5.size
    refine ⟨by rw [q2], by rw [q2], by rw [q2]; show Dk.size L' ≤ _; omega, F', Z', q5.lo, by omega, fun K hK => ?_, .inl q4⟩
    rw [q2]
    exact q5.gr.knw hK
  · rw [q2]
    exact nxt_fell ks q3 q4 q5 q6 q7 q8.gr hi _
theorem fail_nxt (h : Lv F Z G D) (n : Int) (ks : List Int) (hi : F + cnt Z ≤ i) : Nxt F Z D (i + 1) (Dk.fail n ks D).2 G := by
  unfold Dk.fail
  rw [if_neg (by rw [h.up]; simp)]
  by_cases hn : n < 0
  · rw [if_pos hn]
    exact nxt_same h hi
  · rw [if_neg hn]
    exact ⟨rfl, rfl, by show Dk.size D.L ≤ _; omega, F, Z, Nat.le_refl _, by omega, fun K hK => hK.knw, .inl ⟨h.hz, h.f0, h.gs, h.up, h.st, h.ov, h.len⟩⟩
theorem crash_lv (h : Lv F Z G D) (ks : List Int) : Dk.crash ks D = (0, Dk.fall ks D) := by unfold Dk.crash; rw [if_neg (by rw [h.up]; simp)]
theorem crash_nxt (h : Lv F Z G D) (ks : List Int) (hi : F + cnt Z ≤ i) : Nxt F Z D (i + 1) (Dk.crash ks D).2 G := by
  rw [crash_lv h]
  exact nxt_fell ks rfl rfl h.hz h.f0 h.len Gr.refl hi G
theorem down_state (h : D.up = false) : state D G = 51 := by unfold Hl.state; rw [if_pos (.inr (.inl h))]
end
end Hl
section
open Hl
variable {w0 w w' : World} {b d : Nat} {D : Dk.St} {G : Lg} {R : List (Value × List M.Sp)} {F : Nat} {Z : List Sg} {i : Nat}
def NxO (w0 : World) (b d : Nat) (R : List (Value × List M.Sp)) (F : Nat) (Z : List Sg) (D : Dk.St) (i : Nat) (e : Ending) (w' : World) : Prop := ∃ r D' G', e = .returned (.int .i64 r) ∧ Kept6 w0 b d R D' G' w' ∧ Nxt F Z D i D' G'
def DnO (w0 : World) (b d : Nat) (R : List (Value × List M.Sp)) (D : Dk.St) (G : Lg) (e : Ending) (w' : World) : Prop := ∃ r, e = .returned (.int .i64 r) ∧ Kept6 w0 b d R D G w'
theorem app_nx (h : Kept6 w0 b d R D G w) (hl : Lv F Z G D) (x : M.Sp) (hf : x.fits) (hi : F + cnt Z ≤ i) (h8 : i ≤ 800) : Calls Tryz.prog 19 #[.pointer (some ⟨b, 0, none⟩), spA6 x] w (NxO w0 b d R F Z D (i + 1)) := by
  refine (h.call (fun X h1 h2 h3 => append6_any h1 h2 h3 x hf (by rw [hl.endN]; omega) hl.fewS)).mono fun e w' ⟨e1, e2⟩ => ⟨_, _, _, e1, e2, ?_⟩
  cases hm : M.mayB x with
  | true => exact (append_lv hl hm hf (by omega)).nxt hi
  | false => rw [append_no hl hm]; exact nxt_same hl hi
theorem rot_nx (h : Kept6 w0 b d R D G w) (hl : Lv F Z G D) (hi : F + cnt Z ≤ i) (h8 : i ≤ 800) : Calls Tryz.prog 21 #[.pointer (some ⟨b, 0, none⟩)] w (NxO w0 b d R F Z D (i + 1)) :=
  (h.call (fun X h1 h2 h3 => rotate6_any h1 h2 h3 (by rw [hl.endN]; omega) hl.fewS)).mono fun e w' ⟨e1, e2⟩ => ⟨_, _, _, e1, e2, (rotate_lv hl (by omega)).nxt hi⟩
theorem syn_nx (h : Kept6 w0 b d R D G w) (hl : Lv F Z G D) (hi : F + cnt Z ≤ i) : Calls Tryz.prog 20 #[.pointer (some ⟨b, 0, none⟩)] w (NxO w0 b d R F Z D (i + 1)) :=
  (h.call (fun X h1 h2 h3 => sync6_any h1 h2 h3)).mono fun e w' ⟨e1, e2⟩ => ⟨_, _, _, e1, e2, (sync_lv hl).nxt hi⟩
theorem ret_nx (h : Kept6 w0 b d R D G w) (hl : Lv F Z G D) (n : Int) (hn : n ≤ 9223372036854775807) (hi : F + cnt Z ≤ i) : Calls Tryz.prog 22 #[.pointer (some ⟨b, 0, none⟩), .int .i64 n] w (NxO w0 b d R F Z D (i + 1)) :=
  (h.call (fun X h1 h2 h3 => retain6_any h1 h2 h3 n hn)).mono fun e w' ⟨e1, e2⟩ => ⟨_, _, _, e1, e2, retain_nxt hl n hi⟩
theorem fail_nx (h : Kept6 w0 b d R D G w) (hl : Lv F Z G D) (n : Int) (ks : List Int) (ao : Option Addr) (cap : Nat) (hn : n ≤ 9223372036854775807) (hK : Dk.KsOk ks) (hk : NsA5 w ao ks) (hi : F + cnt Z ≤ i) : Calls Tryz.prog 29 #[.pointer (some ⟨d, 0, none⟩), .int .i64 n, .slice ao ks.length cap] w (NxO w0 b d R F Z D (i + 1)) :=
  (h.disk (fun X hd hX hB => failX hd hX hB n ks ao cap hn hK hk)).mono fun e w' ⟨e1, e2⟩ => ⟨_, _, _, e1, e2, fail_nxt hl n ks hi⟩
theorem crash_nx (h : Kept6 w0 b d R D G w) (hl : Lv F Z G D) (ks : List Int) (ao : Option Addr) (cap : Nat) (hK : Dk.KsOk ks) (hk : NsA5 w0 ao ks) (hi : F + cnt Z ≤ i) : Calls Tryz.prog 27 #[.pointer (some ⟨d, 0, none⟩), .slice ao ks.length cap] w (NxO w0 b d R F Z D (i + 1)) :=
  (h.disk (fun X hd hX hB => crashX hd hX hB ks ao cap hK (hk.below h.bel) (fun a hne e => .inr (nsA_lt6 hk a hne e)))).mono fun e w' ⟨e1, e2⟩ => ⟨_, _, _, e1, e2, crash_nxt hl ks hi⟩
theorem app_dn (h : Kept6 w0 b d R D G w) (hu : D.up = false) (x : M.Sp) : Calls Tryz.prog 19 #[.pointer (some ⟨b, 0, none⟩), spA6 x] w (DnO w0 b d R D G) :=
  (h.call (fun X h1 h2 h3 => append6_down h1 x (by rw [down_state hu]; decide))).mono fun e w' ⟨e1, e2⟩ => ⟨_, e1, e2⟩
theorem rot_dn (h : Kept6 w0 b d R D G w) (hu : D.up = false) : Calls Tryz.prog 21 #[.pointer (some ⟨b, 0, none⟩)] w (DnO w0 b d R D G) :=
  (h.call (fun X h1 h2 h3 => rotate6_down h1 (by rw [down_state hu]; decide))).mono fun e w' ⟨e1, e2⟩ => ⟨_, e1, e2⟩
theorem syn_dn (h : Kept6 w0 b d R D G w) (hu : D.up = false) : Calls Tryz.prog 20 #[.pointer (some ⟨b, 0, none⟩)] w (DnO w0 b d R D G) := by
  have := h.call (fun X h1 h2 h3 => sync6_any h1 h2 h3)
  unfold Hl.sync at this
  rw [down_state hu, if_pos (by decide)] at this
  exact this.mono fun e w' ⟨e1, e2⟩ => ⟨_, e1, e2⟩
theorem ret_dn (h : Kept6 w0 b d R D G w) (hu : D.up = false) (n : Int) (hn : n ≤ 9223372036854775807) : Calls Tryz.prog 22 #[.pointer (some ⟨b, 0, none⟩), .int .i64 n] w (DnO w0 b d R D G) := by
  have := h.call (fun X h1 h2 h3 => retain6_any h1 h2 h3 n hn)
  unfold retain6 at this
  rw [down_state hu, if_pos (by decide)] at this
  exact this.mono fun e w' ⟨e1, e2⟩ => ⟨_, e1, e2⟩
theorem fail_dn (h : Kept6 w0 b d R D G w) (hu : D.up = false) (n : Int) (ks : List Int) (ao : Option Addr) (cap : Nat) (hn : n ≤ 9223372036854775807) (hK : Dk.KsOk ks) (hk : NsA5 w ao ks) : Calls Tryz.prog 29 #[.pointer (some ⟨d, 0, none⟩), .int .i64 n, .slice ao ks.length cap] w (DnO w0 b d R D G) := by
  have := h.disk (fun X hd hX hB => failX hd hX hB n ks ao cap hn hK hk)
  unfold Dk.fail at this
  rw [if_pos hu] at this
  exact this.mono fun e w' ⟨e1, e2⟩ => ⟨_, e1, e2⟩
/-- A log in the law's hands: it lives, or its disk fell. -/
def St6 (room i : Nat) (D : Dk.St) (G : Lg) : Prop := D.room = room ∧ D.starts = 0 ∧ Dk.size D.L ≤ 98 * i ∧ ∃ F Z, F + cnt Z ≤ i ∧ (Lv F Z G D ∨ ∃ tl, Fell F Z tl D ∧ D.up = false)
theorem St6.of {room : Nat} {D' : Dk.St} {G' : Lg} (h : Nxt F Z D (i + 1) D' G') (e1 : D.room = room) (e2 : D.starts = 0) (e3 : Dk.size D.L ≤ 98 * i) : St6 room (i + 1) D' G' := by
  obtain ⟨q1, q2, q3, F', Z', q4, q5, q6, q7⟩ := h
  exact ⟨q1.trans e1, q2.trans e2, by omega, F', Z', q5, q7⟩
def StO (w0 : World) (b d : Nat) (R : List (Value × List M.Sp)) (room i : Nat) (e : Ending) (w' : World) : Prop := ∃ r D' G', e = .returned (.int .i64 r) ∧ Kept6 w0 b d R D' G' w' ∧ St6 room i D' G'
theorem StO.nx {room : Nat} {e : Ending} (h : NxO w0 b d R F Z D (i + 1) e w') (e1 : D.room = room) (e2 : D.starts = 0) (e3 : Dk.size D.L ≤ 98 * i) : StO w0 b d R room (i + 1) e w' := by
  obtain ⟨r, D', G', q1, q2, q3⟩ := h
  exact ⟨r, D', G', q1, q2, St6.of q3 e1 e2 e3⟩
theorem StO.dn {room : Nat} {e : Ending} {tl : List UInt8} (h : DnO w0 b d R D G e w') (e1 : D.room = room) (e2 : D.starts = 0) (e3 : Dk.size D.L ≤ 98 * i) (hf : Fell F Z tl D) (hu : D.up = false) (hi : F + cnt Z ≤ i) : StO w0 b d R room (i + 1) e w' := by
  obtain ⟨r, q1, q2⟩ := h
  exact ⟨r, D, G, q1, q2, e1, e2, by omega, F, Z, by omega, .inr ⟨tl, hf, hu⟩⟩
variable {room : Nat}
theorem app_st (h : Kept6 w0 b d R D G w) (hs : St6 room i D G) (x : M.Sp) (hf : x.fits) (h8 : i ≤ 800) : Calls Tryz.prog 19 #[.pointer (some ⟨b, 0, none⟩), spA6 x] w (StO w0 b d R room (i + 1)) := by
  obtain ⟨e1, e2, e3, F, Z, hi, hl | ⟨tl, hl, hu⟩⟩ := hs
  · exact (app_nx h hl x hf hi h8).mono fun e w' q => StO.nx q e1 e2 e3
  · exact (app_dn h hu x).mono fun e w' q => StO.dn q e1 e2 e3 hl hu hi
theorem rot_st (h : Kept6 w0 b d R D G w) (hs : St6 room i D G) (h8 : i ≤ 800) : Calls Tryz.prog 21 #[.pointer (some ⟨b, 0, none⟩)] w (StO w0 b d R room (i + 1)) := by
  obtain ⟨e1, e2, e3, F, Z, hi, hl | ⟨tl, hl, hu⟩⟩ := hs
  · exact (rot_nx h hl hi h8).mono fun e w' q => StO.nx q e1 e2 e3
  · exact (rot_dn h hu).mono fun e w' q => StO.dn q e1 e2 e3 hl hu hi
theorem syn_st (h : Kept6 w0 b d R D G w) (hs : St6 room i D G) : Calls Tryz.prog 20 #[.pointer (some ⟨b, 0, none⟩)] w (StO w0 b d R room (i + 1)) := by
  obtain ⟨e1, e2, e3, F, Z, hi, hl | ⟨tl, hl, hu⟩⟩ := hs
  · exact (syn_nx h hl hi).mono fun e w' q => StO.nx q e1 e2 e3
  · exact (syn_dn h hu).mono fun e w' q => StO.dn q e1 e2 e3 hl hu hi
theorem ret_st (h : Kept6 w0 b d R D G w) (hs : St6 room i D G) (n : Int) (hn : n ≤ 9223372036854775807) : Calls Tryz.prog 22 #[.pointer (some ⟨b, 0, none⟩), .int .i64 n] w (StO w0 b d R room (i + 1)) := by
  obtain ⟨e1, e2, e3, F, Z, hi, hl | ⟨tl, hl, hu⟩⟩ := hs
  · exact (ret_nx h hl n hn hi).mono fun e w' q => StO.nx q e1 e2 e3
  · exact (ret_dn h hu n hn).mono fun e w' q => StO.dn q e1 e2 e3 hl hu hi
theorem fail_st (h : Kept6 w0 b d R D G w) (hs : St6 room i D G) (n : Int) (ks : List Int) (ao : Option Addr) (cap : Nat) (hn : n ≤ 9223372036854775807) (hK : Dk.KsOk ks) (hk : NsA5 w ao ks) : Calls Tryz.prog 29 #[.pointer (some ⟨d, 0, none⟩), .int .i64 n, .slice ao ks.length cap] w (StO w0 b d R room (i + 1)) := by
  obtain ⟨e1, e2, e3, F, Z, hi, hl | ⟨tl, hl, hu⟩⟩ := hs
  · exact (fail_nx h hl n ks ao cap hn hK hk hi).mono fun e w' q => StO.nx q e1 e2 e3
  · exact (fail_dn h hu n ks ao cap hn hK hk).mono fun e w' q => StO.dn q e1 e2 e3 hl hu hi
end

end Go.Proofs.YtmammmjmipgmoaaGreatDoor
