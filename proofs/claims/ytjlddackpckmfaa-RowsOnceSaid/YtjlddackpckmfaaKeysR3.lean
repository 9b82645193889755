/- Layer 8: the document's Parse, Row, by contracts; the laws' walks: KeysParse. -/
import Derived.Test.YtjlddackpckmfaaKeysR2
import Derived.Test.YtjlddackpckmfaaKeysL
namespace Go.Proofs.Ytjlddackpckmfaa
set_option linter.unusedVariables false
open Go Go.RowKit Go.Sort
attribute [local go_sem ↓] run_index_S
attribute [local go_sem] S_append S_extract

theorem numsP_len {kind : Nat} {r a b : List UInt8} {st : Nat} (h : ¬ r.length = 16) : M.numsP kind r a b st = none := by
  unfold M.numsP
  cases M.ofBigs r 0 with
  | none => rfl
  | some t => cases M.ofBigs r 8 with
    | none => rfl
    | some i => simp [h]
theorem ofBigs_nil : M.ofBigs [] 0 = none := M.ofBigs_short [] (by simp)
theorem idxP_eq {rest a b r1 r2 : List UInt8} (h1 : M.cut0 rest = (a, r1)) (h2 : M.cut0 r1 = (b, r2)) : M.idxP rest = if M.nameB a && M.nameB b then
    match M.ofBigs r2 0 with
    | some st => if st ≤ 1073741824 then M.numsP 120 (r2.drop 8) a b st else none
    | none => none
  else none := by
  rw [M.idxP, h1]
  simp only [h2]
  rfl

theorem refParse_any (l : List UInt8) (hl : l.length ≤ 140737488351232) (w : World) :
    Calls Try.prog 38 #[.string (S l)] w fun e w' => e = .returned (ptR (M.parse l)) ∧ Below w.heap.size w w' := by
  cases l with
  | nil => exact rp_s [] hl rfl w
  | cons c rest =>
    have hlen : (c :: rest).length = rest.length + 1 := rfl
    have hd1 : (c :: rest).drop 1 = rest := rfl
    have hp : 1 ≤ (c :: rest).length := by omega
    by_cases hA : (c :: rest).length = 17 ∧ c = 115
    · obtain ⟨h17, rfl⟩ := hA
      have h0 : (115 :: rest : List UInt8).getD 0 0 = 115 := rfl
      have e1 : M.ofBigs (115 :: rest) 1 = M.ofBigs rest 0 := by have := ofBigs_drop (115 :: rest) 1 0; rwa [hd1] at this
      have e2 : M.ofBigs (115 :: rest) 9 = M.ofBigs rest 8 := by have := ofBigs_drop (115 :: rest) 1 8; rwa [hd1] at this
      have hpar : M.parse (115 :: rest) = M.numsP 115 rest [] [] 0 := by rw [M.parse, if_pos rfl]
      rw [hpar]
      have h16 : rest.length = 16 := by omega
      cases ho1 : M.ofBigs rest 0 with
      | none => rw [numsP_none (.inl ho1), ptR_none]; exact rp_a1 _ hl h17 h0 (e1.trans ho1) w
      | some t =>
        cases ho2 : M.ofBigs rest 8 with
        | none => rw [numsP_none (.inr ho2), ptR_none]; exact rp_a2 _ hl h17 h0 t (e1.trans ho1) (e2.trans ho2) w
        | some i =>
          rw [numsP_if ho1 ho2]
          cases hi1 : M.idB t with
          | false => rw [if_neg (by simp), ptR_none]; exact rp_a4 _ hl h17 h0 t i (e1.trans ho1) (e2.trans ho2) hi1 w
          | true =>
            cases hi2 : M.idB i with
            | false => rw [if_neg (by simp), ptR_none]; exact rp_a5 _ hl h17 h0 t i (e1.trans ho1) (e2.trans ho2) hi1 hi2 w
            | true => rw [if_pos ⟨h16, rfl, rfl⟩]; exact rp_aok _ hl h17 h0 t i (e1.trans ho1) (e2.trans ho2) hi1 hi2 w
    · have hV : ¬ (c :: rest).length = 17 ∨ ((c :: rest).length = 17 ∧ ¬ (c :: rest).getD 0 0 = 115) := by
        by_cases h : (c :: rest).length = 17
        · exact .inr ⟨h, fun e => hA ⟨h, e⟩⟩
        · exact .inl h
      by_cases hx : c = 120
      · subst hx
        have hx : (120 :: rest : List UInt8).getD 0 0 = 120 := rfl
        have hpar : M.parse (120 :: rest) = M.idxP rest := by rw [M.parse, if_neg (by decide), if_pos rfl]
        rw [hpar]
        have z1 := zf_spec (120 :: rest) 1 hp
        rcases z1 with ⟨hz, hno⟩ | ⟨i, hz1, hi1, hil, hc1⟩
        · rw [hd1] at hno
          have hn : M.idxP rest = none := by
            rw [idxP_eq (M.cut0_none rest hno) (M.cut0_none [] (by simp))]
            simp [M.nameB]
          rw [hn, ptR_none]
          rcases hV with h | ⟨h, h'⟩
          · exact rp_zL _ hl h hp hx hz w
          · exact rp_zM _ hl h h' hp hx hz w
        · rw [hd1] at hc1
          have z2 := zf_spec (120 :: rest) (i + 1) (by omega)
          rcases z2 with ⟨hz2, hno⟩ | ⟨k, hz2, hik, hkl, hc2⟩
          · have hn : M.idxP rest = none := by
              rw [idxP_eq hc1 (M.cut0_none _ hno), ofBigs_nil]
              split <;> rfl
            rw [hn, ptR_none]
            rcases hV with h | ⟨h, h'⟩
            · exact rp_yL _ hl h hp hx i hil hz1 hz2 w
            · exact rp_yM _ hl h h' hp hx i hil hz1 hz2 w
          · rw [idxP_eq hc1 hc2]
            by_cases hlk : (120 :: rest).length = k + 25
            · generalize hL : (120 :: rest : List UInt8) = L at *
              have f0 : M.ofBigs (L.drop (k + 1)) 0 = M.ofBigs L ((k : Int) + 1) := (ofBigs_drop L (k + 1) 0).symm
              have f1 : M.ofBigs ((L.drop (k + 1)).drop 8) 0 = M.ofBigs L ((k : Int) + 9) := by
                rw [List.drop_drop]; exact (ofBigs_drop L (k + 1 + 8) 0).symm
              have f2 : M.ofBigs ((L.drop (k + 1)).drop 8) 8 = M.ofBigs L ((k : Int) + 17) := by
                rw [List.drop_drop]; exact (ofBigs_drop L (k + 1 + 8) 8).symm
              have f3 : ((L.drop (k + 1)).drop 8).length = 16 := by simp; omega
              obtain ⟨a, ha⟩ : ∃ a, piece L 1 i = a := ⟨_, rfl⟩
              obtain ⟨b, hb⟩ : ∃ b, piece L (i + 1) k = b := ⟨_, rfl⟩
              rw [ha, hb, f0]
              cases h1 : M.ofBigs L ((k : Int) + 1) with
              | none =>
                have : (if M.nameB a && M.nameB b then (match (none : Option Nat) with | some st => if st ≤ 1073741824 then M.numsP 120 ((L.drop (k + 1)).drop 8) a b st else none | none => none) else none : Option M.Pt) = none := by split <;> rfl
                rw [this, ptR_none]
                exact rp_k1 L hl hx i k hi1 hik hz1 hz2 hlk a b ha hb h1 w
              | some st =>
                cases h2 : M.ofBigs L ((k : Int) + 9) with
                | none =>
                  have : (if M.nameB a && M.nameB b then (match some st with | some st => if st ≤ 1073741824 then M.numsP 120 ((L.drop (k + 1)).drop 8) a b st else none | none => none) else none : Option M.Pt) = none := by
                    simp only [numsP_none (kind := 120) (a := a) (b := b) (st := st) (.inl (f1.trans h2))]
                    split
                    · split <;> rfl
                    · rfl
                  rw [this, ptR_none]
                  exact rp_k2 L hl hx i k hi1 hik hz1 hz2 hlk a b ha hb st h1 h2 w
                | some t =>
                  cases h3 : M.ofBigs L ((k : Int) + 17) with
                  | none =>
                    have : (if M.nameB a && M.nameB b then (match some st with | some st => if st ≤ 1073741824 then M.numsP 120 ((L.drop (k + 1)).drop 8) a b st else none | none => none) else none : Option M.Pt) = none := by
                      simp only [numsP_none (kind := 120) (a := a) (b := b) (st := st) (.inr (f2.trans h3))]
                      split
                      · split <;> rfl
                      · rfl
                    rw [this, ptR_none]
                    exact rp_k3 L hl hx i k hi1 hik hz1 hz2 hlk a b ha hb st h1 t h2 h3 w
                  | some d =>
                    have b1 := M.ofBigs_bounds h1
                    have b2 := M.ofBigs_bounds h2
                    have b3 := M.ofBigs_bounds h3
                    have hfa : a.length ≤ 140737488351232 := by rw [← ha, piece_length _ _ _ hi1 (by omega)]; omega
                    have hfb : b.length ≤ 140737488351232 := by rw [← hb, piece_length _ _ _ hik (by omega)]; omega
                    have hmay : M.mayB ⟨(t : Int), (d : Int), 0, a, b, (st : Int), 0, []⟩ = (M.nameB a && M.nameB b && decide (st ≤ 1073741824) && M.idB t && M.idB d) := by
                      rw [Bool.eq_iff_iff]
                      simp [M.mayB, M.idB, M.win]
                      constructor
                      · rintro ⟨⟨⟨⟨q1, q2⟩, q3⟩, q4⟩, q5⟩; exact ⟨⟨⟨⟨q3, q4⟩, by omega⟩, q1⟩, q2⟩
                      · rintro ⟨⟨⟨⟨q3, q4⟩, q5⟩, q1⟩, q2⟩; exact ⟨⟨⟨⟨q1, q2⟩, q3⟩, q4⟩, by omega⟩
                    have hres : (if M.nameB a && M.nameB b then (match some st with | some st => if st ≤ 1073741824 then M.numsP 120 ((L.drop (k + 1)).drop 8) a b st else none | none => none) else none : Option M.Pt) = if M.mayB ⟨(t : Int), (d : Int), 0, a, b, (st : Int), 0, []⟩ then some ⟨120, t, d, st, a, b⟩ else none := by
                      simp only [numsP_if (kind := 120) (a := a) (b := b) (st := st) (f1.trans h2) (f2.trans h3), f3, hmay]
                      cases M.nameB a <;> cases M.nameB b <;> cases M.idB t <;> cases M.idB d <;> by_cases hst : st ≤ 1073741824 <;> simp [hst]
                    rw [hres]
                    cases hm : M.mayB ⟨(t : Int), (d : Int), 0, a, b, (st : Int), 0, []⟩ with
                    | false =>
                      rw [if_neg (by simp), ptR_none]
                      exact rp_k4 L hl hx i k hi1 hik hz1 hz2 hlk a b ha hb st h1 t h2 d h3 hm hfa hfb (by omega) (by omega) (by omega) w
                    | true =>
                      rw [if_pos rfl]
                      exact rp_k5 L hl hx i k hi1 hik hz1 hz2 hlk a b ha hb st h1 t h2 d h3 hm hfa hfb (by omega) (by omega) (by omega) w
            · have hn : (if M.nameB (piece (120 :: rest) 1 i) && M.nameB (piece (120 :: rest) (i + 1) k) then (match M.ofBigs ((120 :: rest : List UInt8).drop (k + 1)) 0 with | some st => if st ≤ 1073741824 then M.numsP 120 (((120 :: rest : List UInt8).drop (k + 1)).drop 8) (piece (120 :: rest) 1 i) (piece (120 :: rest) (i + 1) k) st else none | none => none) else none : Option M.Pt) = none := by
                cases ho : M.ofBigs ((120 :: rest : List UInt8).drop (k + 1)) 0 with
                | none => simp
                | some st =>
                  have := (M.ofBigs_bounds ho).2.1
                  have hne : ¬ (((120 :: rest : List UInt8).drop (k + 1)).drop 8).length = 16 := by
                    rw [List.length_drop, List.length_drop]
                    rw [List.length_drop] at this
                    omega
                  simp only [numsP_len hne]
                  split
                  · split <;> rfl
                  · rfl
              rw [hn, ptR_none]
              rcases hV with h | ⟨h, h'⟩
              · exact rp_lL _ hl h hp hx i hil hz1 k hkl hz2 hlk w
              · exact rp_lM _ hl h h' hp hx i hil hz1 k hkl hz2 hlk w
      · have hn : M.parse (c :: rest) = none := by
          rw [M.parse]
          by_cases h5 : c = 115
          · rw [if_pos h5]
            exact numsP_len (fun e => hA ⟨by omega, h5⟩)
          · rw [if_neg h5, if_neg hx]
        rw [hn, ptR_none]
        have hx' : ¬ (c :: rest).getD 0 0 = 120 := hx
        rcases hV with h | ⟨h, h'⟩
        · exact rp_nL _ hl h hp hx' w
        · exact rp_nM _ hl h h' hp hx' w

abbrev ptA (p : M.Pt) : Array Value := #[.int .u8 (p.kind : Nat), .int .i64 (p.trace : Nat), .int .i64 (p.id : Nat), .int .i64 (p.start : Nat), .string (S p.svc), .string (S p.host)]
end Go.Proofs.Ytjlddackpckmfaa
