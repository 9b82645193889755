/- Texts of lower layers, as one. -/
import Derived.Test.YtekmnpmeienhhaaDiskM
import Derived.Test.YtekmnpmeienhhaaDiskH
/- Plain mathematics of package files: files that are cleared, a file that is laid by a draft. -/
namespace Go.Proofs.Ytekmnpmeienhhaa
set_option linter.unusedVariables false
open Go Go.RowKit

namespace Dk
/-- One behind the other, up to the first error. -/
def next_ (a : Int × St) (f : St → Int × St) : Int × St := if a.1 = 0 then f a.2 else a
def clrs (p : List UInt8 → Bool) : List (List UInt8) → St → Int × St
  | [], D => (0, D)
  | nm :: r, D => if p nm then next_ (remove nm D) (clrs p r) else clrs p r D
def clear (dr : List UInt8) (D : St) : Int × St := if has dr D.L then remove dr D else (0, D)
theorem next_ok {a : Int × St} {f : St → Int × St} (h : a.1 = 0) : next_ a f = f a.2 := if_pos h
theorem next_no {a : Int × St} {f : St → Int × St} (h : a.1 ≠ 0) : next_ a f = a := if_neg h
theorem next_zero (D : St) (f : St → Int × St) : next_ (0, D) f = f D := rfl
def run : List (St → Int × St) → St → Int × St
  | [], D => (0, D)
  | f :: r, D => next_ (f D) (run r)
theorem run_snoc : ∀ (l : List (St → Int × St)) (f : St → Int × St) (D : St), run (l ++ [f]) D = next_ (run l D) f
  | [], f, D => by
    show next_ (f D) (run []) = f D
    by_cases h : (f D).1 = 0
    · rw [next_ok h]; exact Prod.ext h.symm rfl
    · rw [next_no h]
  | g :: r, f, D => by
    show next_ (g D) (run (r ++ [f])) = next_ (next_ (g D) (run r)) f
    by_cases h : (g D).1 = 0
    · rw [next_ok h, next_ok h, run_snoc r f]
    · rw [next_no h, next_no h, next_no h]
theorem run_fail : ∀ (l m : List (St → Int × St)) (D : St), (run l D).1 ≠ 0 → run (l ++ m) D = run l D
  | [], m, D, h => absurd rfl h
  | g :: r, m, D, h => by
    show next_ (g D) (run (r ++ m)) = next_ (g D) (run r)
    by_cases hg : (g D).1 = 0
    · have h' : (run r (g D).2).1 ≠ 0 := by
        have : run (g :: r) D = run r (g D).2 := next_ok hg
        rw [this] at h; exact h
      rw [next_ok hg, next_ok hg, run_fail r m _ h']
    · rw [next_no hg, next_no hg]
def lay (dr nm s : List UInt8) (D : St) : Int × St := run [append dr s, sync dr, rename dr nm] D
def renew (dr nm s : List UInt8) (D : St) : Int × St := next_ (clear dr D) (lay dr nm s)
theorem clrs_none (dr : List UInt8) : ∀ (l : List (List UInt8)) (D : St), dr ∉ l → clrs (fun n => n == dr) l D = (0, D)
  | [], D, _ => rfl
  | nm :: r, D, h => by
    simp only [List.mem_cons, not_or] at h
    unfold clrs
    rw [if_neg (by simpa using fun e => h.1 e.symm)]
    exact clrs_none dr r D h.2
theorem clrs_one (dr : List UInt8) : ∀ (l : List (List UInt8)) (D : St), l.Nodup → dr ∈ l → clrs (fun n => n == dr) l D = remove dr D
  | [], D, _, h => by cases h
  | nm :: r, D, hn, h => by
    obtain ⟨h1, h2⟩ := List.nodup_cons.1 hn
    unfold clrs
    by_cases e : nm = dr
    · subst e
      rw [if_pos (by simp)]
      by_cases hr : (remove nm D).1 = 0
      · rw [next_ok hr, clrs_none nm r _ h1]
        exact Prod.ext hr.symm rfl
      · exact next_no hr
    · rw [if_neg (by simpa using e)]
      rcases List.mem_cons.1 h with h | h
      · exact absurd h.symm e
      · exact clrs_one dr r D h2 h
theorem has_names {nm : List UInt8} {L : List Fl} : has nm L = true ↔ nm ∈ names L := by
  rw [has_iff]
  unfold names
  rw [List.mem_map]
theorem names_nodup {L : List Fl} (h : OkL L) : (names L).Nodup := by
  unfold names
  exact List.nodup_iff_pairwise_ne.2 (List.pairwise_map.2 h.ne)
theorem clrs_clear {D : St} (h : OkL D.L) (dr : List UInt8) : clrs (fun n => n == dr) (names D.L) D = clear dr D := by
  unfold clear
  cases hh : has dr D.L with
  | true => rw [if_pos rfl]; exact clrs_one dr _ D (names_nodup h) (has_names.1 hh)
  | false =>
    rw [if_neg (by simp)]
    exact clrs_none dr _ D (fun q => by rw [has_names.2 q] at hh; cases hh)
theorem read_empty {D : St} (h : OkL D.L) : read [] D = (if D.up then 4 else 51, []) := by
  have hn : has [] D.L = false := by
    cases hh : has [] D.L with
    | false => rfl
    | true =>
      obtain ⟨f, hf, e⟩ := has_iff.1 hh
      have := h.named f hf
      rw [e] at this
      cases this
  unfold read
  cases D.up <;> simp [hn]
end Dk

end Go.Proofs.Ytekmnpmeienhhaa

/- Package files: State, Row, Clear, Lay, Renew, by contracts. -/
namespace Go.Proofs.Ytekmnpmeienhhaa
set_option linter.unusedVariables false
open Go Go.RowKit Go.Maps

/-- A closure: its function, what it has. -/
def fnV (f : Nat × Array Value) : Value := .func (Fn.func f.1) #[] f.2
/-- A function whose text is there is entered. -/
def Enters (f : Nat) : Prop := ∀ (args : Array Value) (w : World), (callFunc f args).run Try.prog w = .ok (.enter f args) w
theorem enters_of {f : Nat} {fn : Func} {c : Code} (hf : Try.prog.funcs[f]? = some fn) (hname : (fn.name == "runtime.NumGoroutine") = false) (hb : fn.body = some c) : Enters f := by
  intro args w
  have h1 : fn.name ≠ "runtime.NumGoroutine" := by simpa using hname
  simp [callFunc, hf, h1, hb]
set_option maxRecDepth 100000 in
theorem filesRow_any (fs : List (Nat × Array Value)) (g cap : Nat) (R : Nat → World → Prop) (Q : Int → World → Prop) (w : World) (h0 : R 0 w)
    (hc : ∀ i w, R i w → ∀ j (hj : j < fs.length), w.cell? ⟨g, j, none⟩ = some (fnV fs[j]))
    (hs : ∀ i (hi : i < fs.length) w, R i w → Calls Try.prog fs[i].1 fs[i].2 w fun e w' => ∃ v : Int, e = .returned (.int .i64 v) ∧ (v = 0 → R (i + 1) w') ∧ (v ≠ 0 → Q v w')) (hl : fs.length ≤ 1000) (hin : ∀ i (hi : i < fs.length), Enters fs[i].1) :
    Calls Try.prog 102 #[.slice (some ⟨g, 0, none⟩) fs.length cap] w fun e w' => ∃ v : Int, e = .returned (.int .i64 v) ∧ (v = 0 → R fs.length w') ∧ (v ≠ 0 → Q v w') := by
  have HC := Lib.hid hc
  have HS := Lib.hid hs
  have H0 := Lib.hid h0
  clear hc hs h0
  go_enter Try.func102, Try.ntmps102
  go_wp2_with fail
  go_loopw [8] (fun v wr => ∃ i : Nat, i ≤ fs.length ∧ v = .int .i64 i ∧ Hid (R i wr)) (fun v _ => fs.length - (intOf v).toNat)
  case atStart => exact ⟨0, Nat.zero_le _, rfl, H0⟩
  case round =>
    clear H0
    obtain ⟨w3, rfl⟩ : ∃ x, x = wr := ⟨_, rfl⟩
    obtain ⟨i, hi, rfl, HR⟩ := hrel
    by_cases hlt : i < fs.length
    · have d1 : decide (i < fs.length) = true := by simpa using hlt
      have CC := Lib.hid (HS.out i hlt w3 HR.out)
      have c0 : w3.cell? ⟨g, i, none⟩ = some (.func (Fn.func fs[i].1) #[] fs[i].2) := HC.out i w3 HR.out i hlt
      have hen := hin i hlt
      generalize fs[i].1 = f at *
      generalize fs[i].2 = C at *
      have hen2 := hen C
      clear hen
      go_wp2_with fail
      with_reducible refine CC.out.mono ?_
      rintro e w4 ⟨v, rfl, h1, h2⟩
      have H1 := Lib.hid h1
      have H2 := Lib.hid h2
      clear h1 h2 CC c0
      by_cases hv : v = 0
      · subst hv
        go_wp2_with fail
        go_roundw
        case rel => exact ⟨i + 1, by omega, by go_num, Lib.hid (H1.out trivial)⟩
        case measure => simp [intOf]; omega
      · have dv : (v != 0) = true := by simpa using hv
        go_wp2_with fail
        go_ret
        exact ⟨v, rfl, fun q => absurd q hv, H2.out⟩
    · have d1 : decide (i < fs.length) = false := by simpa using hlt
      obtain rfl : i = fs.length := by omega
      go_wp2_with fail
      go_ret
      exact ⟨0, rfl, fun _ => HR.out, fun q => absurd rfl q⟩
section
variable {X : Nat → Prop} {B d : Nat} {D : Dk.St} {w w' : World}
set_option maxRecDepth 100000 in
theorem filesState_any (h : DkX X B d D w) : Calls Try.prog 86 #[.pointer (some ⟨d, 0, none⟩)] w fun e w' => e = .returned (.int .i64 (if D.up then 0 else 51)) ∧ Below w.heap.size w w' := by
  have CR := Lib.hid (show Calls Try.prog 26 #[.pointer (some ⟨d, 0, none⟩), .string { data := #[] }] w fun e w' => e = .returned (.tuple #[.string (S (Dk.read [] D).2), .int .i64 (Dk.read [] D).1]) ∧ Below w.heap.size w w' from readX h [] (by simp))
  rw [Dk.read_empty h.ok.l] at CR
  clear h
  cases hu : D.up with
  | true =>
    rw [hu] at CR
    simp only [if_true] at CR
    go_enter Try.func86, Try.ntmps86
    go_wp2_with fail
    with_reducible refine CR.out.mono ?_
    rintro e w1 ⟨rfl, hb⟩
    have HB := Lib.hid hb
    clear hb
    go_wp2_with fail
    go_ret
    exact ⟨rfl, HB.out⟩
  | false =>
    rw [hu] at CR
    simp only [Bool.false_eq_true, if_false] at CR
    go_enter Try.func86, Try.ntmps86
    go_wp2_with fail
    with_reducible refine CR.out.mono ?_
    rintro e w1 ⟨rfl, hb⟩
    have HB := Lib.hid hb
    clear hb
    go_wp2_with fail
    go_ret
    exact ⟨rfl, HB.out⟩
/-- Acts one behind the other on a disk. -/
theorem filesRow_disk {X : Nat → Prop} {B d : Nat} (fs : List (Nat × Array Value)) (g cap : Nat) (acts : List (Dk.St → Int × Dk.St)) (hl : acts.length = fs.length) (h63 : fs.length ≤ 1000) {D : Dk.St} {w : World} (h : DkX X B d D w) (hX : ∀ k, X k → k < w.heap.size) (hB : B ≤ w.heap.size)
    (hg : X g ∨ g < B) (hg0 : g < w.heap.size) (hc : ∀ j (hj : j < fs.length), w.cell? ⟨g, j, none⟩ = some (fnV fs[j]))
    (hin : ∀ i (hi : i < fs.length), Enters fs[i].1) (hs : ∀ i (hi : i < fs.length) (hi' : i < acts.length) D' w', DkX X B d D' w' → Wr (fun k => B ≤ k ∧ ¬ X k) w w' → Calls Try.prog fs[i].1 fs[i].2 w' (OpX X B d (acts[i] D') w')) :
    Calls Try.prog 102 #[.slice (some ⟨g, 0, none⟩) fs.length cap] w (OpX X B d (Dk.run acts D) w) := by
  have key := filesRow_any fs g cap (fun i w' => DkX X B d (Dk.run (acts.take i) D).2 w' ∧ (Dk.run (acts.take i) D).1 = 0 ∧ Wr (fun k => B ≤ k ∧ ¬ X k) w w') (fun v w' => OpX X B d (Dk.run acts D) w (.returned (.int .i64 v)) w') w ⟨by rw [List.take_zero]; exact h, by rw [List.take_zero]; rfl, Wr.refl _ _⟩
    (fun i w' ⟨_, _, hw⟩ j hj => by
      have hb : w'.heap[g]? = w.heap[g]? := hw.block g hg0 (fun q => hg.elim q.2 (fun x => by omega))
      have := hc j hj
      unfold World.cell? at *
      simp only [hb]
      exact this)
    (fun i hi w' ⟨h1, h2, hw⟩ => by
      have hi' : i < acts.length := by omega
      refine (hs i hi hi' _ w' h1 hw).mono ?_
      rintro e w2 ⟨rfl, q2, q3⟩
      have er : Dk.run (acts.take (i + 1)) D = acts[i] (Dk.run (acts.take i) D).2 := by rw [List.take_succ_eq_append_getElem hi', Dk.run_snoc, Dk.next_ok h2]
      refine ⟨_, rfl, fun hv => ⟨by rw [er]; exact q2, by rw [er]; exact hv, hw.trans q3⟩, fun hv => ?_⟩
      have ef : Dk.run acts D = acts[i] (Dk.run (acts.take i) D).2 := by
        have := Dk.run_fail (acts.take (i + 1)) (acts.drop (i + 1)) D (by rw [er]; exact hv)
        rw [List.take_append_drop] at this
        rw [this, er]
      exact ⟨by rw [ef], by rw [ef]; exact q2, hw.trans q3⟩) h63 hin
  refine key.mono ?_
  rintro e w2 ⟨v, rfl, q1, q2⟩
  by_cases hv : v = 0
  · subst hv
    obtain ⟨a, b, c⟩ := q1 rfl
    rw [← hl, List.take_length] at a b
    exact ⟨by rw [b], a, c⟩
  · exact q2 hv
/-- A closure that tells of names. -/
def GoneAt (p : List UInt8 → Bool) (f : Nat) (C : Array Value) (w : World) (l : List (List UInt8)) : Prop := ∀ nm ∈ l, Calls Try.prog f (#[.string (S nm)] ++ C) w fun e w' => e = .returned (.bool (p nm)) ∧ Below w.heap.size w w'
set_option maxRecDepth 100000 in
set_option maxHeartbeats 1000000 in
theorem filesClear_any (p : List UInt8 → Bool) (f : Nat) (C : Array Value) (hin : Enters f) (h : DkX X B d D w) (hX : ∀ k, X k → k < w.heap.size) (hB : B ≤ w.heap.size)
    (hg : ∀ w', Wr (fun k => B ≤ k ∧ ¬ X k) w w' → GoneAt p f C w' (Dk.names D.L)) :
    Calls Try.prog 95 #[.pointer (some ⟨d, 0, none⟩), .func (Fn.func f) #[] C] w (OpX X B d (Dk.clrs p (Dk.names D.L) D) w) := by
  have CN := Lib.hid (namesX h)
  have HO := Lib.hid (h.ok.l)
  have HF := Lib.hid h.ok.few
  have H := Lib.hid h
  have HX := Lib.hid hX
  have HB := Lib.hid hB
  have HG := Lib.hid hg
  have hlen : (Dk.names D.L).length ≤ 1024 := by unfold Dk.names; rw [List.length_map]; exact h.ok.few
  have HN := Lib.hid (show ∀ nm ∈ Dk.names D.L, nm.length ≤ 140737488351232 from fun nm hn => by
    unfold Dk.names at hn
    obtain ⟨g, hg1, rfl⟩ := List.mem_map.1 hn
    have := h.ok.l.named g hg1
    unfold Dk.named at this
    simp only [Bool.and_eq_true, decide_eq_true_eq] at this
    omega)
  clear h hX hB hg
  generalize Dk.names D.L = L at *
  go_enter Try.func95, Try.ntmps95
  go_wp2_with fail
  with_reducible refine CN.out.mono ?_
  rintro e w1 ⟨ao, cap, rfl, hr, hb⟩
  have HR := Lib.hid (tsA_row5 hr)
  have HRL := Lib.hid (hr.lt)
  have HB1 := Lib.hid hb
  have H0 := Lib.hid (H.out.newrow hb)
  clear CN H hr hb
  go_wp2_with fail
  go_loopw [11] (fun v wr => ∃ i : Nat, i ≤ L.length ∧ v = .int .i64 i ∧ Hid (∃ Di, DkX (fun q => X q ∨ (w.heap.size ≤ q ∧ q < w1.heap.size)) B d Di wr ∧ Dk.clrs p (L.drop i) Di = Dk.clrs p L D ∧ Wr (fun k => B ≤ k ∧ ¬ (X k ∨ (w.heap.size ≤ k ∧ k < w1.heap.size))) w1 wr)) (fun v _ => L.length - (intOf v).toNat)
  case atStart => exact ⟨0, Nat.zero_le _, rfl, Lib.hid ⟨D, H0.out, by rw [List.drop_zero], Wr.refl _ _⟩⟩
  case round =>
    clear H0
    obtain ⟨w3, rfl⟩ : ∃ x, x = wr := ⟨_, rfl⟩
    obtain ⟨i, hi, rfl, HH⟩ := hrel
    obtain ⟨Di, hD, hc, hw⟩ := HH.out
    have HD := Lib.hid hD
    have HC := Lib.hid hc
    have HW := Lib.hid hw
    have HFIN := Lib.hid (fun (r : Int × Dk.St) (w9 : World) (hd9 : DkX (fun q => X q ∨ (w.heap.size ≤ q ∧ q < w1.heap.size)) B d r.2 w9) (hw9 : Wr (fun k => B ≤ k ∧ ¬ (X k ∨ (w.heap.size ≤ k ∧ k < w1.heap.size))) w1 w9) => (show OpX X B d r w (.returned (.int .i64 r.1)) w9 from
      ⟨rfl, hd9.more (fun k hk => .inl (.inl hk)), (wr_below HB1.out).step hw9 (fun x hx => .inl ⟨hx.1, fun q => hx.2 (.inl q)⟩)⟩))
    clear HH hD hc hw
    by_cases hlt : i < L.length
    · have d1 : decide (i < L.length) = true := by simpa using hlt
      have hne : L ≠ [] := fun e => by rw [e] at hlt; simp at hlt
      obtain ⟨g, off, rfl, hcell⟩ := HR.out hne
      have c0 : w3.cell? ⟨g, off + i, none⟩ = some (.string (S (L.getD i []))) := by
        rw [← hcell i hlt]
        have hgl := HRL.out g rfl
        exact World.cell?_of_block (a := ⟨g, off + i, none⟩) (HW.out.block g hgl.2 (fun q => q.2 (.inr hgl)))
      have hdrop : L.drop i = L.getD i [] :: L.drop (i + 1) := by rw [List.drop_eq_getElem_cons hlt]; simp [List.getD, hlt]
      rw [hdrop] at HC
      have hmem : L.getD i [] ∈ L := by
        have : L.getD i [] = L[i] := by simp [List.getD, hlt]
        rw [this]; exact List.getElem_mem hlt
      have hnl := HN.out _ hmem
      have CG := Lib.hid (HG.out w3 ((wr_below HB1.out).step HW.out (fun x hx => .inl ⟨hx.1, fun q => hx.2 (.inl q)⟩)) _ hmem)
      have hen := hin (#[.string (S (L.getD i []))] ++ C)
      have HSZ := Lib.hid (HW.out.size)
      have HXX := Lib.hid (show ∀ k, (X k ∨ (w.heap.size ≤ k ∧ k < w1.heap.size)) → k < w3.heap.size from fun k hk => by
        have h1 := HSZ.out
        have h2 := HB1.out.size
        rcases hk with q | q
        · have := HX.out k q; omega
        · omega)
      have HBB := Lib.hid (Nat.le_trans HB.out (Nat.le_trans HB1.out.size HSZ.out))
      clear hcell hdrop hmem hne
      generalize L.getD i [] = nm at *
      have HCC := Lib.hid (show Dk.clrs p (nm :: L.drop (i + 1)) Di = if p nm then Dk.next_ (Dk.remove nm Di) (Dk.clrs p (L.drop (i + 1))) else Dk.clrs p (L.drop (i + 1)) Di from rfl)
      generalize p nm = pn at *
      go_wp2_with fail
      with_reducible refine CG.out.mono ?_
      rintro e w4 ⟨rfl, hb4⟩
      replace HD := Lib.hid (HD.out.below hb4)
      replace HW := Lib.hid (HW.out.trans (wr_below hb4))
      replace HXX := Lib.hid (fun k hk => Nat.lt_of_lt_of_le (HXX.out k hk) hb4.size)
      replace HBB := Lib.hid (Nat.le_trans HBB.out hb4.size)
      clear hb4 CG hen HSZ HG c0
      cases pn with
      | false =>
        have HC2 := Lib.hid (show Dk.clrs p (L.drop (i + 1)) Di = Dk.clrs p L D from by
          have h1 := HCC.out
          rw [if_neg (by simp)] at h1
          rw [← h1]; exact HC.out)
        clear HCC HC HFIN HR HRL
        go_wp2_with fail
        go_roundw
        case rel => exact ⟨i + 1, by omega, by go_num, Lib.hid ⟨Di, HD.out, HC2.out, HW.out⟩⟩
        case measure => simp [intOf]; omega
      | true =>
        have HC2 := Lib.hid (show Dk.next_ (Dk.remove nm Di) (Dk.clrs p (L.drop (i + 1))) = Dk.clrs p L D from by
          have h1 := HCC.out
          rw [if_pos rfl] at h1
          rw [← h1]; exact HC.out)
        have CR := Lib.hid (removeX HD.out HXX.out HBB.out nm hnl)
        clear HCC HC HD
        go_wp2_with fail
        with_reducible refine CR.out.mono ?_
        rintro e w5 ⟨rfl, hd5, hw5⟩
        replace HW := Lib.hid (HW.out.trans hw5)
        have HD := Lib.hid hd5
        clear hd5 hw5 CR
        by_cases hv : (Dk.remove nm Di).1 = 0
        · have HC3 := Lib.hid (show Dk.clrs p (L.drop (i + 1)) (Dk.remove nm Di).2 = Dk.clrs p L D from by rw [← HC2.out, Dk.next_ok hv])
          generalize (Dk.remove nm Di).2 = D2 at *
          generalize (Dk.remove nm Di).1 = v at *
          subst hv
          clear HC2 HFIN HR HRL
          go_wp2_with fail
          go_roundw
          case rel => exact ⟨i + 1, by omega, by go_num, Lib.hid ⟨D2, HD.out, HC3.out, HW.out⟩⟩
          case measure => simp [intOf]; omega
        · have HR9 := Lib.hid (show OpX X B d (Dk.clrs p L D) w (.returned (.int .i64 (Dk.remove nm Di).1)) w5 from by
            rw [← HC2.out, Dk.next_no hv]
            exact HFIN.out _ _ HD.out HW.out)
          clear HC2 HFIN HR HRL HD
          generalize (Dk.remove nm Di).1 = v at *
          have dv : (v != 0) = true := by simpa using hv
          go_wp2_with fail
          go_ret
          exact HR9.out
    · have d1 : decide (i < L.length) = false := by simpa using hlt
      have HR9 := Lib.hid (show OpX X B d (Dk.clrs p L D) w (.returned (.int .i64 0)) w3 from by
        have h1 := HC.out
        rw [List.drop_of_length_le (by omega)] at h1
        rw [← h1]
        exact HFIN.out (0, Di) _ HD.out HW.out)
      clear HC HFIN HD HW HG HR HRL
      go_wp2_with fail
      go_ret
      exact HR9.out
theorem lay1_any {R : Ending → World → Prop} (dr t : List UInt8) {b0 b1 b2 : Nat} (h0 : Bk #[.pointer (some ⟨d, 0, none⟩)] 24 w b0) (h1 : Bk #[.string (S dr)] 9 w b1) (h2 : Bk #[.string (S t)] 9 w b2)
    (h : Calls Try.prog 32 #[.pointer (some ⟨d, 0, none⟩), .string (S dr), .string (S t)] w R) (hR : ∀ e w', R e w' → ∃ v : Int, e = .returned (.int .i64 v)) :
    Calls Try.prog 103 #[.pointer (some ⟨b0, 0, none⟩), .pointer (some ⟨b1, 0, none⟩), .pointer (some ⟨b2, 0, none⟩)] w R := by
  have c0 : w.cell? ⟨b0, 0, none⟩ = some (.pointer (some ⟨d, 0, none⟩)) := h0.cell 0
  have c1 : w.cell? ⟨b1, 0, none⟩ = some (.string (S dr)) := h1.cell 0
  have c2 : w.cell? ⟨b2, 0, none⟩ = some (.string (S t)) := h2.cell 0
  have H := Lib.hid h
  have HR := Lib.hid hR
  clear h hR h0 h1 h2
  go_enter Try.func103, Try.ntmps103
  go_wp2_with fail
  with_reducible refine H.out.mono ?_
  rintro e w1 hr
  obtain ⟨v, rfl⟩ := HR.out _ _ hr
  have HF := Lib.hid hr
  clear hr
  go_wp2_with fail
  exact HF.out
theorem lay2_any {R : Ending → World → Prop} (dr : List UInt8) {b0 b1 : Nat} (h0 : Bk #[.pointer (some ⟨d, 0, none⟩)] 24 w b0) (h1 : Bk #[.string (S dr)] 9 w b1)
    (h : Calls Try.prog 41 #[.pointer (some ⟨d, 0, none⟩), .string (S dr)] w R) (hR : ∀ e w', R e w' → ∃ v : Int, e = .returned (.int .i64 v)) :
    Calls Try.prog 104 #[.pointer (some ⟨b0, 0, none⟩), .pointer (some ⟨b1, 0, none⟩)] w R := by
  have c0 : w.cell? ⟨b0, 0, none⟩ = some (.pointer (some ⟨d, 0, none⟩)) := h0.cell 0
  have c1 : w.cell? ⟨b1, 0, none⟩ = some (.string (S dr)) := h1.cell 0
  have H := Lib.hid h
  have HR := Lib.hid hR
  clear h hR h0 h1
  go_enter Try.func104, Try.ntmps104
  go_wp2_with fail
  with_reducible refine H.out.mono ?_
  rintro e w1 hr
  obtain ⟨v, rfl⟩ := HR.out _ _ hr
  have HF := Lib.hid hr
  clear hr
  go_wp2_with fail
  exact HF.out
theorem lay3_any {R : Ending → World → Prop} (dr t : List UInt8) {b0 b1 b2 : Nat} (h0 : Bk #[.pointer (some ⟨d, 0, none⟩)] 24 w b0) (h1 : Bk #[.string (S dr)] 9 w b1) (h2 : Bk #[.string (S t)] 9 w b2)
    (h : Calls Try.prog 42 #[.pointer (some ⟨d, 0, none⟩), .string (S dr), .string (S t)] w R) (hR : ∀ e w', R e w' → ∃ v : Int, e = .returned (.int .i64 v)) :
    Calls Try.prog 105 #[.pointer (some ⟨b0, 0, none⟩), .pointer (some ⟨b1, 0, none⟩), .pointer (some ⟨b2, 0, none⟩)] w R := by
  have c0 : w.cell? ⟨b0, 0, none⟩ = some (.pointer (some ⟨d, 0, none⟩)) := h0.cell 0
  have c1 : w.cell? ⟨b1, 0, none⟩ = some (.string (S dr)) := h1.cell 0
  have c2 : w.cell? ⟨b2, 0, none⟩ = some (.string (S t)) := h2.cell 0
  have H := Lib.hid h
  have HR := Lib.hid hR
  clear h hR h0 h1 h2
  go_enter Try.func105, Try.ntmps105
  go_wp2_with fail
  with_reducible refine H.out.mono ?_
  rintro e w1 hr
  obtain ⟨v, rfl⟩ := HR.out _ _ hr
  have HF := Lib.hid hr
  clear hr
  go_wp2_with fail
  exact HF.out
/-- What Lay has: its boxes, its row of three. -/
def layW (d : Nat) (dr nm t : List UInt8) (w : World) : World := ((((w.alloc (.cells #[.pointer (some ⟨d, 0, none⟩)] 24)).alloc (.cells #[.string (S dr)] 9)).alloc (.cells #[.string (S nm)] 9)).alloc (.cells #[.string (S t)] 9)).alloc (.cells #[fnV (103, #[.pointer (some ⟨w.heap.size, 0, none⟩), .pointer (some ⟨w.heap.size + 1, 0, none⟩), .pointer (some ⟨w.heap.size + 3, 0, none⟩)]), fnV (104, #[.pointer (some ⟨w.heap.size, 0, none⟩), .pointer (some ⟨w.heap.size + 1, 0, none⟩)]), fnV (105, #[.pointer (some ⟨w.heap.size, 0, none⟩), .pointer (some ⟨w.heap.size + 1, 0, none⟩), .pointer (some ⟨w.heap.size + 2, 0, none⟩)])] 55)
theorem layW_below (d : Nat) (dr nm t : List UInt8) (w : World) : Below w.heap.size w (layW d dr nm t w) := by
  unfold layW
  have h1 := (Below.refl w.heap.size w).alloc (Nat.le_refl _) (.cells #[.pointer (some ⟨d, 0, none⟩)] 24)
  have h2 := h1.alloc h1.size (.cells #[.string (S dr)] 9)
  have h3 := h2.alloc h2.size (.cells #[.string (S nm)] 9)
  have h4 := h3.alloc h3.size (.cells #[.string (S t)] 9)
  exact h4.alloc h4.size _
theorem layW_size (d : Nat) (dr nm t : List UInt8) (w : World) : (layW d dr nm t w).heap.size = w.heap.size + 5 := by
  unfold layW
  simp only [sz5]
theorem layW_boxes (d : Nat) (dr nm t : List UInt8) (w : World) : Bk #[.pointer (some ⟨d, 0, none⟩)] 24 (layW d dr nm t w) w.heap.size ∧ Bk #[.string (S dr)] 9 (layW d dr nm t w) (w.heap.size + 1) ∧ Bk #[.string (S nm)] 9 (layW d dr nm t w) (w.heap.size + 2) ∧ Bk #[.string (S t)] 9 (layW d dr nm t w) (w.heap.size + 3) := by
  unfold layW
  refine ⟨((((bk_new _ _ _).more _).more _).more _).more _, ?_, ?_, ?_⟩
  · have := ((((bk_new #[.string (S dr)] 9 (w.alloc (.cells #[.pointer (some ⟨d, 0, none⟩)] 24))).more (.cells #[.string (S nm)] 9)).more (.cells #[.string (S t)] 9)).more (.cells #[fnV (103, #[.pointer (some ⟨w.heap.size, 0, none⟩), .pointer (some ⟨w.heap.size + 1, 0, none⟩), .pointer (some ⟨w.heap.size + 3, 0, none⟩)]), fnV (104, #[.pointer (some ⟨w.heap.size, 0, none⟩), .pointer (some ⟨w.heap.size + 1, 0, none⟩)]), fnV (105, #[.pointer (some ⟨w.heap.size, 0, none⟩), .pointer (some ⟨w.heap.size + 1, 0, none⟩), .pointer (some ⟨w.heap.size + 2, 0, none⟩)])] 55))
    rw [sz5] at this
    exact this
  · have := (((bk_new #[.string (S nm)] 9 ((w.alloc (.cells #[.pointer (some ⟨d, 0, none⟩)] 24)).alloc (.cells #[.string (S dr)] 9))).more (.cells #[.string (S t)] 9)).more (.cells #[fnV (103, #[.pointer (some ⟨w.heap.size, 0, none⟩), .pointer (some ⟨w.heap.size + 1, 0, none⟩), .pointer (some ⟨w.heap.size + 3, 0, none⟩)]), fnV (104, #[.pointer (some ⟨w.heap.size, 0, none⟩), .pointer (some ⟨w.heap.size + 1, 0, none⟩)]), fnV (105, #[.pointer (some ⟨w.heap.size, 0, none⟩), .pointer (some ⟨w.heap.size + 1, 0, none⟩), .pointer (some ⟨w.heap.size + 2, 0, none⟩)])] 55))
    simp only [sz5] at this
    exact this
  · have := ((bk_new #[.string (S t)] 9 (((w.alloc (.cells #[.pointer (some ⟨d, 0, none⟩)] 24)).alloc (.cells #[.string (S dr)] 9)).alloc (.cells #[.string (S nm)] 9))).more (.cells #[fnV (103, #[.pointer (some ⟨w.heap.size, 0, none⟩), .pointer (some ⟨w.heap.size + 1, 0, none⟩), .pointer (some ⟨w.heap.size + 3, 0, none⟩)]), fnV (104, #[.pointer (some ⟨w.heap.size, 0, none⟩), .pointer (some ⟨w.heap.size + 1, 0, none⟩)]), fnV (105, #[.pointer (some ⟨w.heap.size, 0, none⟩), .pointer (some ⟨w.heap.size + 1, 0, none⟩), .pointer (some ⟨w.heap.size + 2, 0, none⟩)])] 55))
    simp only [sz5] at this
    exact this
theorem layW_row (d : Nat) (dr nm t : List UInt8) (w : World) : Bk #[fnV (103, #[.pointer (some ⟨w.heap.size, 0, none⟩), .pointer (some ⟨w.heap.size + 1, 0, none⟩), .pointer (some ⟨w.heap.size + 3, 0, none⟩)]), fnV (104, #[.pointer (some ⟨w.heap.size, 0, none⟩), .pointer (some ⟨w.heap.size + 1, 0, none⟩)]), fnV (105, #[.pointer (some ⟨w.heap.size, 0, none⟩), .pointer (some ⟨w.heap.size + 1, 0, none⟩), .pointer (some ⟨w.heap.size + 2, 0, none⟩)])] 55 (layW d dr nm t w) (w.heap.size + 4) := by
  unfold layW
  have := bk_new #[fnV (103, #[.pointer (some ⟨w.heap.size, 0, none⟩), .pointer (some ⟨w.heap.size + 1, 0, none⟩), .pointer (some ⟨w.heap.size + 3, 0, none⟩)]), fnV (104, #[.pointer (some ⟨w.heap.size, 0, none⟩), .pointer (some ⟨w.heap.size + 1, 0, none⟩)]), fnV (105, #[.pointer (some ⟨w.heap.size, 0, none⟩), .pointer (some ⟨w.heap.size + 1, 0, none⟩), .pointer (some ⟨w.heap.size + 2, 0, none⟩)])] 55 ((((w.alloc (.cells #[.pointer (some ⟨d, 0, none⟩)] 24)).alloc (.cells #[.string (S dr)] 9)).alloc (.cells #[.string (S nm)] 9)).alloc (.cells #[.string (S t)] 9))
  simp only [sz5] at this
  exact this
set_option maxHeartbeats 1000000 in
theorem filesLay_row (h : DkX X B d D w) (hX : ∀ k, X k → k < w.heap.size) (hB : B ≤ w.heap.size) (dr nm t : List UInt8) (l1 : dr.length ≤ 140737488351232) (l2 : nm.length ≤ 140737488351232) (l3 : t.length ≤ 140737488351232) :
    Calls Try.prog 102 #[.slice (some ⟨w.heap.size + 4, 0, none⟩) 3 3] (layW d dr nm t w) (OpX X B d (Dk.lay dr nm t D) w) := by
  have hb := layW_below d dr nm t w
  have hsz := layW_size d dr nm t w
  obtain ⟨b0, b1, b2, b3⟩ := layW_boxes d dr nm t w
  have br := layW_row d dr nm t w
  have hn := h.newrow hb
  generalize layW d dr nm t w = w5 at *
  have hX5 : ∀ k, (X k ∨ (w.heap.size ≤ k ∧ k < w5.heap.size)) → k < w5.heap.size := fun k hk => by
    rcases hk with q | q
    · have := hX k q; omega
    · omega
  have key := filesRow_disk (X := fun q => X q ∨ (w.heap.size ≤ q ∧ q < w5.heap.size)) [(103, #[.pointer (some ⟨w.heap.size, 0, none⟩), .pointer (some ⟨w.heap.size + 1, 0, none⟩), .pointer (some ⟨w.heap.size + 3, 0, none⟩)]), (104, #[.pointer (some ⟨w.heap.size, 0, none⟩), .pointer (some ⟨w.heap.size + 1, 0, none⟩)]), (105, #[.pointer (some ⟨w.heap.size, 0, none⟩), .pointer (some ⟨w.heap.size + 1, 0, none⟩), .pointer (some ⟨w.heap.size + 2, 0, none⟩)])] (w.heap.size + 4) 3 [Dk.append dr t, Dk.sync dr, Dk.rename dr nm] rfl (by simp) hn hX5 (by omega) (.inl (.inr (by omega))) (by omega)
    (fun j hj => by
      match j, hj with
      | 0, _ => exact br.cell 0
      | 1, _ => exact br.cell 1
      | 2, _ => exact br.cell 2)
    (fun i hi => by
      match i, hi with
      | 0, _ => exact enters_of (fn := Try.f103) (by kernel_rfl) (by kernel_rfl) rfl
      | 1, _ => exact enters_of (fn := Try.f104) (by kernel_rfl) (by kernel_rfl) rfl
      | 2, _ => exact enters_of (fn := Try.f105) (by kernel_rfl) (by kernel_rfl) rfl)
    (fun i hi hi' D' w' hd hw => by
      have hX' : ∀ k, (X k ∨ (w.heap.size ≤ k ∧ k < w5.heap.size)) → k < w'.heap.size := fun k hk => Nat.lt_of_lt_of_le (hX5 k hk) hw.size
      have hB' : B ≤ w'.heap.size := by have := hw.size; omega
      have kp : ∀ {C : Array Value} {T : TypeId} {b : Nat}, Bk C T w5 b → w.heap.size ≤ b → Bk C T w' b := fun {C T b} hk hb => hk.wr hw (fun q => q.2 (.inr ⟨hb, hk.lt⟩))
      match i, hi, hi' with
      | 0, _, _ => exact lay1_any dr t (kp b0 (by omega)) (kp b1 (by omega)) (kp b3 (by omega)) (appendX hd hX' hB' dr t l1 l3) (fun e w9 hr => ⟨_, hr.1⟩)
      | 1, _, _ => exact lay2_any dr (kp b0 (by omega)) (kp b1 (by omega)) (syncX hd hX' hB' dr l1) (fun e w9 hr => ⟨_, hr.1⟩)
      | 2, _, _ => exact lay3_any dr nm (kp b0 (by omega)) (kp b1 (by omega)) (kp b2 (by omega)) (renameX hd hX' hB' dr nm l1 l2) (fun e w9 hr => ⟨_, hr.1⟩))
  refine key.mono fun e w9 hr => ?_
  obtain ⟨q1, q2, q3⟩ := hr
  exact ⟨q1, q2.less (fun k hk => .inl hk), (wr_below hb).step q3 (fun x hx => .inl ⟨hx.1, fun q => hx.2 (.inl q)⟩)⟩
set_option maxRecDepth 100000 in
theorem filesLay_any (h : DkX X B d D w) (hX : ∀ k, X k → k < w.heap.size) (hB : B ≤ w.heap.size) (dr nm t : List UInt8) (l1 : dr.length ≤ 140737488351232) (l2 : nm.length ≤ 140737488351232) (l3 : t.length ≤ 140737488351232) :
    Calls Try.prog 97 #[.pointer (some ⟨d, 0, none⟩), .string (S dr), .string (S nm), .string (S t)] w (OpX X B d (Dk.lay dr nm t D) w) := by
  have CR := Lib.hid (filesLay_row h hX hB dr nm t l1 l2 l3)
  unfold layW fnV at CR
  clear h hX hB l1 l2 l3
  go_enter Try.func97, Try.ntmps97
  go_wp2_with fail
  with_reducible refine CR.out.mono ?_
  rintro e w1 hr
  have HF := Lib.hid hr
  obtain ⟨rfl, -⟩ := hr
  go_wp2_with fail
  go_ret
  exact HF.out
theorem renew1_any (dr : List UInt8) {b : Nat} (h : Bk #[.string (S dr)] 9 w b) (nm : List UInt8) :
    Calls Try.prog 96 #[.string (S nm), .pointer (some ⟨b, 0, none⟩)] w fun e w' => e = .returned (.bool (nm == dr)) ∧ Below w.heap.size w w' := by
  have c0 : w.cell? ⟨b, 0, none⟩ = some (.string (S dr)) := h.cell 0
  clear h
  go_enter Try.func96, Try.ntmps96
  go_wp2_with fail
  go_ret
  exact ⟨rfl, Below.refl _ _⟩
set_option maxRecDepth 100000 in
set_option maxHeartbeats 1000000 in
theorem filesRenew_any (h : DkX X B d D w) (hX : ∀ k, X k → k < w.heap.size) (hB : B ≤ w.heap.size) (dr nm t : List UInt8) (l1 : dr.length ≤ 140737488351232) (l2 : nm.length ≤ 140737488351232) (l3 : t.length ≤ 140737488351232) :
    Calls Try.prog 87 #[.pointer (some ⟨d, 0, none⟩), .string (S dr), .string (S nm), .string (S t)] w (OpX X B d (Dk.renew dr nm t D) w) := by
  have hb := (Below.refl w.heap.size w).alloc (Nat.le_refl _) (.cells #[.string (S dr)] 9)
  have hbox := bk_new #[.string (S dr)] 9 w
  have hn := h.newrow hb
  have hX1 : ∀ k, (X k ∨ (w.heap.size ≤ k ∧ k < (w.alloc (.cells #[.string (S dr)] 9)).heap.size)) → k < (w.alloc (.cells #[.string (S dr)] 9)).heap.size := fun k hk => by
    rcases hk with q | q
    · exact Nat.lt_of_lt_of_le (hX k q) hb.size
    · omega
  have CC := Lib.hid (show Calls Try.prog 95 #[.pointer (some ⟨d, 0, none⟩), .func (Fn.func 96) #[] #[.pointer (some ⟨w.heap.size, 0, none⟩)]] (w.alloc (.cells #[.string (S dr)] 9)) (OpX (fun q => X q ∨ (w.heap.size ≤ q ∧ q < (w.alloc (.cells #[.string (S dr)] 9)).heap.size)) B d (Dk.clear dr D) (w.alloc (.cells #[.string (S dr)] 9))) from by
    rw [← Dk.clrs_clear h.ok.l]
    exact filesClear_any (fun n => n == dr) 96 _ (enters_of (fn := Try.f96) (by kernel_rfl) (by kernel_rfl) rfl) hn hX1 (Nat.le_trans hB hb.size) (fun w' hw nm _ => renew1_any dr (hbox.wr hw (fun q => q.2 (.inr ⟨Nat.le_refl _, hbox.lt⟩))) nm))
  have HB := Lib.hid hb
  have HBX := Lib.hid hbox
  have HX1 := Lib.hid hX1
  have HBB := Lib.hid (Nat.le_trans hB hb.size)
  have HRN := Lib.hid (show Dk.renew dr nm t D = Dk.next_ (Dk.clear dr D) (Dk.lay dr nm t) from rfl)
  clear h hX hB hb hbox hn hX1
  go_enter Try.func87, Try.ntmps87
  go_wp2_with fail
  with_reducible refine CC.out.mono ?_
  rintro e w1 ⟨rfl, hd, hw⟩
  have HD := Lib.hid hd
  have HW := Lib.hid hw
  have c0 : w1.cell? ⟨w.heap.size, 0, none⟩ = some (.string (S dr)) := (HBX.out.wr HW.out (fun q => q.2 (.inr ⟨Nat.le_refl _, HBX.out.lt⟩))).cell 0
  clear hd hw CC
  by_cases hv : (Dk.clear dr D).1 = 0
  · have CL := Lib.hid (filesLay_any HD.out (fun k hk => Nat.lt_of_lt_of_le (HX1.out k hk) HW.out.size) (Nat.le_trans HBB.out HW.out.size) dr nm t l1 l2 l3)
    have HR2 := Lib.hid (show Dk.renew dr nm t D = Dk.lay dr nm t (Dk.clear dr D).2 from by rw [HRN.out, Dk.next_ok hv])
    clear HRN HD
    generalize (Dk.clear dr D).2 = D2 at *
    generalize (Dk.clear dr D).1 = v at *
    subst hv
    go_wp2_with fail
    with_reducible refine CL.out.mono ?_
    rintro e w2 ⟨rfl, hd, hw⟩
    have HF := Lib.hid (show OpX X B d (Dk.renew dr nm t D) w (.returned (.int .i64 (Dk.lay dr nm t D2).1)) w2 from by
      rw [HR2.out]
      exact ⟨rfl, hd.less (fun k hk => .inl hk), (wr_below HB.out).step (HW.out.trans hw) (fun x hx => .inl ⟨hx.1, fun q => hx.2 (.inl q)⟩)⟩)
    clear hd hw CL HR2
    go_wp2_with fail
    go_ret
    exact HF.out
  · have HF := Lib.hid (show OpX X B d (Dk.renew dr nm t D) w (.returned (.int .i64 (Dk.clear dr D).1)) w1 from by
      rw [HRN.out, Dk.next_no hv]
      exact ⟨rfl, HD.out.less (fun k hk => .inl hk), (wr_below HB.out).step HW.out (fun x hx => .inl ⟨hx.1, fun q => hx.2 (.inl q)⟩)⟩)
    clear HRN HD
    generalize (Dk.clear dr D).1 = v at *
    have dv : (v != 0) = true := by simpa using hv
    go_wp2_with fail
    go_ret
    exact HF.out
end

end Go.Proofs.Ytekmnpmeienhhaa
