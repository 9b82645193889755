/- Layer 16: a state that is written is read; one that is read is what is written. -/
import Derived.Test.YtfcmjgcjmldpcaaEditsBj
import Derived.Test.YtfcmjgcjmldpcaaEditsBh
namespace Go.Proofs.Ytfcmjgcjmldpcaa
set_option linter.unusedVariables false
set_option linter.unusedSimpArgs false
open Go Go.RowKit

structure Ed.WrT (y : Ed.Tb) : Prop where
  l : ∀ n ∈ y.l, Ed.nat63 n
  ll : y.l.length ≤ 9223372036854775807
  f : y.f.length ≤ 9223372036854775807
structure Ed.WrS (s : Ed.St) : Prop where
  log : Ed.nat63 s.log
  next : Ed.nat63 s.next
  n : s.T.length ≤ 9223372036854775807
  each : ∀ y ∈ s.T, Ed.WrT y
theorem tb_pb {l A C : List UInt8} {y : Ed.Tb} (e : l = A ++ Ed.pb y ++ C) (h : Ed.WrT y) : Rd.tb l A.length = some (y, (A ++ Ed.pb y).length) := by
  have g1 := getTs_pt (l := l) (A := A) (t := y.f) (C := Ed.pl y.l ++ C) (by rw [e]; simp only [Ed.pb, List.append_assoc]) h.f
  have g2 := lst_pl (l := l) (A := A ++ Ed.pt y.f) (ns := y.l) (C := C) (by rw [e]; simp only [Ed.pb, List.append_assoc]) h.l h.ll
  unfold Rd.tb
  simp only [g1, g2, Ed.pb, List.append_assoc]
theorem tbN_pbs {l C : List UInt8} : ∀ (es : List Ed.Tb) {A : List UInt8}, l = A ++ Ed.pbs es ++ C → (∀ y ∈ es, Ed.WrT y) → Rd.tbN l es.length A.length = some (es, (A ++ Ed.pbs es).length)
  | [], A, e, _ => by simp [Rd.tbN, Ed.pbs]
  | y :: t, A, e, h => by
    have e0 : Ed.pbs (y :: t) = Ed.pb y ++ Ed.pbs t := by simp [Ed.pbs]
    have g := tb_pb (l := l) (A := A) (y := y) (C := Ed.pbs t ++ C) (by rw [e, e0]; simp only [List.append_assoc]) (h y (by simp))
    have ih := tbN_pbs (l := l) (C := C) t (A := A ++ Ed.pb y) (by rw [e, e0]; simp only [List.append_assoc]) (fun x hx => h x (by simp [hx]))
    rw [List.length_cons]
    unfold Rd.tbN
    rw [g]
    simp only
    rw [ih]
    simp only
    rw [e0, List.append_assoc]
theorem Ed.encS_eq (s : Ed.St) : Ed.encS s = Ed.pn s.log ++ (Ed.pn s.next ++ (Ed.pn s.T.length ++ Ed.pbs s.T)) := by
  simp [Ed.encS, Ed.pns]
theorem st0_enc {s : Ed.St} (h : Ed.WrS s) (C : List UInt8) : Rd.st0 (Ed.encS s ++ C) = some (s, (Ed.encS s).length) := by
  have e0 := Ed.encS_eq s
  have hn := h.n
  have g1 := gets_pn (l := Ed.encS s ++ C) (A := []) (n := s.log) (C := Ed.pn s.next ++ (Ed.pn s.T.length ++ Ed.pbs s.T) ++ C) (by rw [e0]; simp only [List.append_assoc, List.nil_append]) h.log
  have g2 := gets_pn (l := Ed.encS s ++ C) (A := [] ++ Ed.pn s.log) (n := s.next) (C := Ed.pn s.T.length ++ Ed.pbs s.T ++ C) (by rw [e0]; simp only [List.append_assoc, List.nil_append]) h.next
  have g3 := gets_pn (l := Ed.encS s ++ C) (A := [] ++ Ed.pn s.log ++ Ed.pn s.next) (n := s.T.length) (C := Ed.pbs s.T ++ C) (by rw [e0]; simp only [List.append_assoc, List.nil_append]) ⟨by omega, by omega⟩
  have g4 := tbN_pbs (l := Ed.encS s ++ C) (C := C) s.T (A := [] ++ Ed.pn s.log ++ Ed.pn s.next ++ Ed.pn s.T.length) (by rw [e0]; simp only [List.append_assoc, List.nil_append]) h.each
  rw [show (([] : List UInt8).length : Int) = ((0 : Nat) : Int) from rfl] at g1
  unfold Rd.st0
  simp only [g1, g2, g3, Int.toNat_natCast, g4, Option.map_some]
  rw [Int.toNat_of_nonneg h.log.1, Int.toNat_of_nonneg h.next.1, e0]
  simp only [List.append_assoc, List.nil_append]
theorem st_enc {s : Ed.St} (h : Ed.WrS s) : Rd.st (Ed.encS s) = some s := by
  have g := st0_enc h []
  rw [List.append_nil] at g
  unfold Rd.st
  rw [g]
  simp
theorem st_more {s : Ed.St} (h : Ed.WrS s) (c : UInt8) : Rd.st (Ed.encS s ++ [c]) = none := by
  unfold Rd.st
  rw [st0_enc h [c]]
  simp
theorem Ed.Ok.wr {s : Ed.St} (h : Ed.Ok s) : Ed.WrS s := by
  have h1 := h.log1
  have h2 := h.logN
  have h3 := h.nextM
  have h4 := h.n16
  refine ⟨⟨by omega, by omega⟩, ⟨by omega, by omega⟩, by omega, fun y hy => ?_⟩
  obtain ⟨i, hi, rfl⟩ := List.mem_iff_getElem.1 hy
  have k := h.each i hi
  unfold Ed.okAt at k
  simp only [List.getD_eq_getElem?_getD, List.getElem?_eq_getElem hi, Option.getD_some] at k
  refine ⟨fun n hn => ?_, by have := k.2.2.2; omega, by have := k.2.1; omega⟩
  have := Ed.up_take k.2.2.1 n hn
  exact ⟨by omega, by omega⟩
theorem tb_inv {l : List UInt8} {a q : Nat} {y : Ed.Tb} (h : Rd.tb l a = some (y, q)) : l.take q = l.take a ++ Ed.pb y := by
  unfold Rd.tb at h
  cases h1 : M.getTs l a with
  | none => simp only [h1] at h; cases h
  | some x1 =>
    obtain ⟨f, p1⟩ := x1
    simp only [h1] at h
    cases h2 : Rd.lst l p1 with
    | none => simp only [h2] at h; cases h
    | some x2 =>
      obtain ⟨xs, p2⟩ := x2
      simp only [h2, Option.some.injEq, Prod.mk.injEq] at h
      obtain ⟨rfl, rfl⟩ := h
      rw [lst_inv h2, getTs_inv h1]
      simp only [Ed.pb, List.append_assoc]
theorem tbN_inv {l : List UInt8} : ∀ {n p q : Nat} {xs : List Ed.Tb}, Rd.tbN l n p = some (xs, q) → l.take q = l.take p ++ Ed.pbs xs ∧ xs.length = n
  | 0, p, q, xs, h => by simp only [Rd.tbN, Option.some.injEq, Prod.mk.injEq] at h; obtain ⟨rfl, rfl⟩ := h; simp [Ed.pbs]
  | n + 1, p, q, xs, h => by
    simp only [Rd.tbN] at h
    cases hg : Rd.tb l p with
    | none => rw [hg] at h; cases h
    | some x =>
      obtain ⟨v, p'⟩ := x
      rw [hg] at h
      simp only at h
      cases hl2 : Rd.tbN l n p' with
      | none => rw [hl2] at h; cases h
      | some y =>
        obtain ⟨ys, q'⟩ := y
        have ih := tbN_inv hl2
        rw [hl2] at h
        simp only [Option.some.injEq, Prod.mk.injEq] at h
        obtain ⟨rfl, rfl⟩ := h
        exact ⟨by rw [ih.1, tb_inv hg]; simp [Ed.pbs], by simp [ih.2]⟩
theorem st_inv {l : List UInt8} {s : Ed.St} (h : Rd.st l = some s) : Ed.encS s = l := by
  unfold Rd.st Rd.st0 at h
  cases h1 : M.gets l (0 : Nat) with
  | none => simp only [h1] at h; cases h
  | some x1 =>
    obtain ⟨v1, p1⟩ := x1
    simp only [h1] at h
    cases h2 : M.gets l p1 with
    | none => simp only [h2] at h; cases h
    | some x2 =>
      obtain ⟨v2, p2⟩ := x2
      simp only [h2] at h
      cases h3 : M.gets l p2 with
      | none => simp only [h3] at h; cases h
      | some x3 =>
        obtain ⟨n, p3⟩ := x3
        simp only [h3] at h
        cases h4 : Rd.tbN l n p3 with
        | none => simp only [h4, Option.map_none] at h; cases h
        | some x4 =>
          obtain ⟨T, q⟩ := x4
          simp only [h4, Option.map_some] at h
          split at h
          · rename_i hq
            simp only [Option.some.injEq] at h
            subst h
            subst hq
            have hi := tbN_inv h4
            have h5 := hi.1
            rw [List.take_length, gets_inv h3, gets_inv h2, gets_inv h1] at h5
            rw [Ed.encS_eq]
            simp only [hi.2]
            conv => rhs; rw [h5]
            simp only [List.take_zero, List.nil_append, List.append_assoc]
          · cases h

end Go.Proofs.Ytfcmjgcjmldpcaa
