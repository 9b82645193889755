/- Layer 16: what is written is read, and what is read is what is written. -/
import Derived.Test.YtfcmjgcjmldpcaaEditsBg
import Derived.Test.YtfcmjgcjmldpcaaIntsM2
namespace Go.Proofs.Ytfcmjgcjmldpcaa
set_option linter.unusedVariables false
set_option linter.unusedSimpArgs false
open Go Go.RowKit

def Ed.nat63 (n : Int) : Prop := 0 ≤ n ∧ n ≤ 9223372036854775807
theorem Ed.pn_nat (n : Nat) : Ed.pn (n : Int) = M.putN n := by
  unfold Ed.pn
  rw [show (max (n : Int) 0).toNat = n from by omega]
theorem gets_pn {l A C : List UInt8} {n : Int} (e : l = A ++ Ed.pn n ++ C) (h : Ed.nat63 n) : M.gets l A.length = some (n.toNat, (A ++ Ed.pn n).length) := by
  obtain ⟨m, rfl⟩ := Int.eq_ofNat_of_zero_le h.1
  rw [Ed.pn_nat] at *
  have h2 := h.2
  subst e
  rw [M.gets_put A C m (by omega), List.length_append]
  rfl
theorem getTs_pt {l A C t : List UInt8} (e : l = A ++ Ed.pt t ++ C) (h : t.length ≤ 9223372036854775807) : M.getTs l A.length = some (t, (A ++ Ed.pt t).length) := by
  subst e
  unfold Ed.pt
  rw [M.getTs_put A C t h]
  simp [Nat.add_assoc]
theorem lstN_pns {l C : List UInt8} : ∀ (ns : List Int) {A : List UInt8}, l = A ++ Ed.pns ns ++ C → (∀ n ∈ ns, Ed.nat63 n) → Rd.lstN l ns.length A.length = some (ns, (A ++ Ed.pns ns).length)
  | [], A, e, _ => by simp [Rd.lstN, Ed.pns]
  | n :: t, A, e, h => by
    have e0 : Ed.pns (n :: t) = Ed.pn n ++ Ed.pns t := by simp [Ed.pns]
    have hn := h n (by simp)
    have g := gets_pn (l := l) (A := A) (n := n) (C := Ed.pns t ++ C) (by rw [e, e0]; simp only [List.append_assoc]) hn
    have ih := lstN_pns (l := l) (C := C) t (A := A ++ Ed.pn n) (by rw [e, e0]; simp only [List.append_assoc]) (fun x hx => h x (by simp [hx]))
    rw [List.length_cons]
    unfold Rd.lstN
    rw [g]
    simp only
    rw [ih]
    simp only
    rw [e0, List.append_assoc, Int.toNat_of_nonneg hn.1]
theorem lst_pl {l A C : List UInt8} {ns : List Int} (e : l = A ++ Ed.pl ns ++ C) (h : ∀ n ∈ ns, Ed.nat63 n) (hl : ns.length ≤ 9223372036854775807) : Rd.lst l A.length = some (ns, (A ++ Ed.pl ns).length) := by
  unfold Rd.lst
  rw [gets_pn (l := l) (A := A) (n := ns.length) (C := Ed.pns ns ++ C) (by rw [e]; simp only [Ed.pl, List.append_assoc]) ⟨by omega, by omega⟩]
  simp only [Int.toNat_natCast]
  rw [lstN_pns (l := l) ns (A := A ++ Ed.pn ns.length) (C := C) (by rw [e]; simp only [Ed.pl, List.append_assoc]) h]
  simp only [Ed.pl, List.append_assoc]
structure Ed.Wr (y : Ed.Ed) : Prop where
  kind : Ed.nat63 y.kind
  at_ : Ed.nat63 y.at_
  file : Ed.nat63 y.file
  fs : ∀ n ∈ y.fs, Ed.nat63 n
  fl : y.fs.length ≤ 9223372036854775807
  kl : y.key.length ≤ 9223372036854775807
theorem Ed.pe_eq (y : Ed.Ed) : Ed.pe y = Ed.pn y.kind ++ (Ed.pn y.at_ ++ (Ed.pn y.file ++ (Ed.pl y.fs ++ Ed.pt y.key))) := by
  simp [Ed.pe, Ed.pns]
theorem ed_pe {l A C : List UInt8} {y : Ed.Ed} (e : l = A ++ Ed.pe y ++ C) (h : Ed.Wr y) : Rd.ed l A.length = some (y, (A ++ Ed.pe y).length) := by
  have e0 := Ed.pe_eq y
  rw [e0] at e
  have g1 := gets_pn (l := l) (A := A) (n := y.kind) (C := Ed.pn y.at_ ++ (Ed.pn y.file ++ (Ed.pl y.fs ++ Ed.pt y.key)) ++ C) (by rw [e]; simp only [List.append_assoc]) h.kind
  have g2 := gets_pn (l := l) (A := A ++ Ed.pn y.kind) (n := y.at_) (C := Ed.pn y.file ++ (Ed.pl y.fs ++ Ed.pt y.key) ++ C) (by rw [e]; simp only [List.append_assoc]) h.at_
  have g3 := gets_pn (l := l) (A := A ++ Ed.pn y.kind ++ Ed.pn y.at_) (n := y.file) (C := Ed.pl y.fs ++ Ed.pt y.key ++ C) (by rw [e]; simp only [List.append_assoc]) h.file
  have g4 := lst_pl (l := l) (A := A ++ Ed.pn y.kind ++ Ed.pn y.at_ ++ Ed.pn y.file) (ns := y.fs) (C := Ed.pt y.key ++ C) (by rw [e]; simp only [List.append_assoc]) h.fs h.fl
  have g5 := getTs_pt (l := l) (A := A ++ Ed.pn y.kind ++ Ed.pn y.at_ ++ Ed.pn y.file ++ Ed.pl y.fs) (t := y.key) (C := C) (by rw [e]; simp only [List.append_assoc]) h.kl
  unfold Rd.ed
  simp only [g1, g2, g3, g4, g5]
  rw [Int.toNat_of_nonneg h.kind.1, Int.toNat_of_nonneg h.at_.1, Int.toNat_of_nonneg h.file.1, e0]
  simp only [List.append_assoc]
theorem edN_pes {l C : List UInt8} : ∀ (es : List Ed.Ed) {A : List UInt8}, l = A ++ Ed.pes es ++ C → (∀ y ∈ es, Ed.Wr y) → Rd.edN l es.length A.length = some (es, (A ++ Ed.pes es).length)
  | [], A, e, _ => by simp [Rd.edN, Ed.pes]
  | y :: t, A, e, h => by
    have e0 : Ed.pes (y :: t) = Ed.pe y ++ Ed.pes t := by simp [Ed.pes]
    have g := ed_pe (l := l) (A := A) (y := y) (C := Ed.pes t ++ C) (by rw [e, e0]; simp only [List.append_assoc]) (h y (by simp))
    have ih := edN_pes (l := l) (C := C) t (A := A ++ Ed.pe y) (by rw [e, e0]; simp only [List.append_assoc]) (fun x hx => h x (by simp [hx]))
    rw [List.length_cons]
    unfold Rd.edN
    rw [g]
    simp only
    rw [ih]
    simp only
    rw [e0, List.append_assoc]
theorem dec_enc {es : List Ed.Ed} (h : ∀ y ∈ es, Ed.Wr y) (hl : es.length ≤ 9223372036854775807) : Rd.dec (Ed.enc es) = some es := by
  have g := gets_pn (l := Ed.enc es) (A := []) (n := es.length) (C := Ed.pes es) rfl ⟨by omega, by omega⟩
  have g2 := edN_pes (l := Ed.enc es) (C := []) es (A := Ed.pn es.length) (by simp [Ed.enc]) h
  unfold Rd.dec Rd.eds
  rw [show (([] : List UInt8).length : Int) = ((0 : Nat) : Int) from rfl] at g
  rw [g]
  simp only [List.nil_append, Int.toNat_natCast]
  rw [g2]
  simp [Ed.enc]

/- What is read is what is written. -/
theorem gets_inv {l : List UInt8} {p n q : Nat} (h : M.gets l p = some (n, q)) : l.take q = l.take p ++ Ed.pn n := by
  have hb := M.gets_bounds h
  rw [Ed.pn_nat, hb.2.2.2.2.2]
  have e : q = p + (q - p) := by omega
  conv => lhs; rw [e]
  rw [List.take_add]
  simp
theorem getTs_inv {l t : List UInt8} {p q : Nat} (h : M.getTs l p = some (t, q)) : l.take q = l.take p ++ Ed.pt t := by
  unfold M.getTs at h
  cases hg : M.gets l p with
  | none => rw [hg] at h; cases h
  | some x =>
    obtain ⟨n, r⟩ := x
    have hi := gets_inv hg
    have hb := M.gets_bounds hg
    rw [hg] at h
    simp only at h
    split at h
    · simp only [Option.some.injEq, Prod.mk.injEq] at h
      obtain ⟨rfl, rfl⟩ := h
      rw [List.take_add, hi]
      have e : r + n - r = n := by omega
      have el : ((l.drop r).take n).length = n := by simp; omega
      rw [e]
      unfold Ed.pt
      rw [el, Ed.pn_nat, List.append_assoc]
    · cases h
theorem lstN_inv {l : List UInt8} : ∀ {n p q : Nat} {xs : List Int}, Rd.lstN l n p = some (xs, q) → l.take q = l.take p ++ Ed.pns xs
  | 0, p, q, xs, h => by simp only [Rd.lstN, Option.some.injEq, Prod.mk.injEq] at h; obtain ⟨rfl, rfl⟩ := h; simp [Ed.pns]
  | n + 1, p, q, xs, h => by
    simp only [Rd.lstN] at h
    cases hg : M.gets l p with
    | none => rw [hg] at h; cases h
    | some x =>
      obtain ⟨v, p'⟩ := x
      rw [hg] at h
      simp only at h
      cases hl : Rd.lstN l n p' with
      | none => rw [hl] at h; cases h
      | some y =>
        obtain ⟨ys, q'⟩ := y
        have ih := lstN_inv hl
        rw [hl] at h
        simp only [Option.some.injEq, Prod.mk.injEq] at h
        obtain ⟨rfl, rfl⟩ := h
        rw [ih, gets_inv hg]
        simp [Ed.pns]
theorem lst_inv {l : List UInt8} {a q : Nat} {xs : List Int} (h : Rd.lst l a = some (xs, q)) : l.take q = l.take a ++ Ed.pl xs := by
  unfold Rd.lst at h
  cases hg : M.gets l a with
  | none => rw [hg] at h; cases h
  | some x =>
    obtain ⟨n, p⟩ := x
    rw [hg] at h
    simp only at h
    rw [lstN_inv h, gets_inv hg, ← (lstN_bounds h).2.2.1]
    simp [Ed.pl]
theorem lstN_nat {l : List UInt8} : ∀ {n p q : Nat} {xs : List Int}, Rd.lstN l n p = some (xs, q) → ∀ x ∈ xs, Ed.nat63 x
  | 0, p, q, xs, h => by simp only [Rd.lstN, Option.some.injEq, Prod.mk.injEq] at h; obtain ⟨rfl, rfl⟩ := h; simp
  | n + 1, p, q, xs, h => by
    simp only [Rd.lstN] at h
    cases hg : M.gets l p with
    | none => rw [hg] at h; cases h
    | some x =>
      obtain ⟨v, p'⟩ := x
      have hb := (M.gets_bounds hg).2.2.2.1
      rw [hg] at h
      simp only at h
      cases hl : Rd.lstN l n p' with
      | none => rw [hl] at h; cases h
      | some y =>
        obtain ⟨ys, q'⟩ := y
        have ih := lstN_nat hl
        rw [hl] at h
        simp only [Option.some.injEq, Prod.mk.injEq] at h
        obtain ⟨rfl, rfl⟩ := h
        intro x hx
        rcases List.mem_cons.1 hx with rfl | hx
        · exact ⟨by omega, by omega⟩
        · exact ih x hx
theorem lst_nat {l : List UInt8} {a q : Nat} {xs : List Int} (h : Rd.lst l a = some (xs, q)) : ∀ x ∈ xs, Ed.nat63 x := by
  unfold Rd.lst at h
  cases hg : M.gets l a with
  | none => rw [hg] at h; cases h
  | some x =>
    obtain ⟨n, p⟩ := x
    rw [hg] at h
    exact lstN_nat h
theorem ed_inv {l : List UInt8} (hl : l.length ≤ 9223372036854775807) {a q : Nat} {y : Ed.Ed} (h : Rd.ed l a = some (y, q)) : l.take q = l.take a ++ Ed.pe y ∧ Ed.Wr y ∧ y.fs.length ≤ l.length ∧ y.key.length ≤ l.length := by
  unfold Rd.ed at h
  cases h1 : M.gets l a with
  | none => simp only [h1] at h; cases h
  | some x1 =>
    obtain ⟨v1, p1⟩ := x1
    simp only [h1] at h
    cases h2 : M.gets l p1 with
    | none => simp only [h2] at h; cases h
    | some x2 =>
      obtain ⟨v2, p2⟩ := x2
      simp only [h2] at h
      cases h3 : M.gets l p2 with
      | none => simp only [h3] at h; cases h
      | some x3 =>
        obtain ⟨v3, p3⟩ := x3
        simp only [h3] at h
        cases h4 : Rd.lst l p3 with
        | none => simp only [h4] at h; cases h
        | some x4 =>
          obtain ⟨xs, p4⟩ := x4
          simp only [h4] at h
          cases h5 : M.getTs l p4 with
          | none => simp only [h5] at h; cases h
          | some x5 =>
            obtain ⟨t, p5⟩ := x5
            simp only [h5, Option.some.injEq, Prod.mk.injEq] at h
            obtain ⟨rfl, rfl⟩ := h
            have b1 := (M.gets_bounds h1).2.2.2.1
            have b2 := (M.gets_bounds h2).2.2.2.1
            have b3 := (M.gets_bounds h3).2.2.2.1
            have b4 := lst_bounds h4
            have b5 := getTs_bounds h5
            refine ⟨?_, ⟨⟨by simp, by simp; omega⟩, ⟨by simp, by simp; omega⟩, ⟨by simp, by simp; omega⟩, lst_nat h4, by have := b4.2.2; simp only; omega, by have := b5.2.2; simp only; omega⟩, b4.2.2, b5.2.2⟩
            rw [getTs_inv h5, lst_inv h4, gets_inv h3, gets_inv h2, gets_inv h1, Ed.pe_eq]
            simp only [List.append_assoc]
theorem edN_inv {l : List UInt8} (hl : l.length ≤ 9223372036854775807) : ∀ {n p q : Nat} {xs : List Ed.Ed}, Rd.edN l n p = some (xs, q) → l.take q = l.take p ++ Ed.pes xs ∧ xs.length = n ∧ ∀ y ∈ xs, Ed.Wr y ∧ y.fs.length ≤ l.length ∧ y.key.length ≤ l.length
  | 0, p, q, xs, h => by simp only [Rd.edN, Option.some.injEq, Prod.mk.injEq] at h; obtain ⟨rfl, rfl⟩ := h; simp [Ed.pes]
  | n + 1, p, q, xs, h => by
    simp only [Rd.edN] at h
    cases hg : Rd.ed l p with
    | none => rw [hg] at h; cases h
    | some x =>
      obtain ⟨v, p'⟩ := x
      rw [hg] at h
      simp only at h
      cases hl2 : Rd.edN l n p' with
      | none => rw [hl2] at h; cases h
      | some y =>
        obtain ⟨ys, q'⟩ := y
        have ih := edN_inv hl hl2
        have hv := ed_inv hl hg
        rw [hl2] at h
        simp only [Option.some.injEq, Prod.mk.injEq] at h
        obtain ⟨rfl, rfl⟩ := h
        refine ⟨by rw [ih.1, hv.1]; simp [Ed.pes], by simp [ih.2.1], fun y hy => ?_⟩
        rcases List.mem_cons.1 hy with rfl | hy
        · exact hv.2
        · exact ih.2.2 y hy
theorem dec_inv {l : List UInt8} (hl : l.length ≤ 9223372036854775807) {es : List Ed.Ed} (h : Rd.dec l = some es) : Ed.enc es = l ∧ ∀ y ∈ es, Ed.Wr y ∧ y.fs.length ≤ l.length ∧ y.key.length ≤ l.length := by
  unfold Rd.dec Rd.eds at h
  cases hg : M.gets l (0 : Nat) with
  | none => rw [hg] at h; cases h
  | some x =>
    obtain ⟨n, p⟩ := x
    rw [hg] at h
    simp only at h
    cases he : Rd.edN l n p with
    | none => rw [he] at h; cases h
    | some y =>
      obtain ⟨xs, q⟩ := y
      rw [he] at h
      simp only at h
      split at h
      · rename_i hq
        simp only [Option.some.injEq] at h
        subst h
        subst hq
        have hi := edN_inv hl he
        refine ⟨?_, hi.2.2⟩
        have h1 := hi.1
        rw [gets_inv hg, List.take_length] at h1
        rw [h1, ← hi.2.1]
        simp [Ed.enc]
      · cases h

end Go.Proofs.Ytfcmjgcjmldpcaa
