/- Plain mathematics of layer 3: there and back. No Go here. -/
import Derived.Test.YtblgfhljaafmhaaSpansM
import Derived.Test.YtblgfhljaafmhaaKit
namespace Go.Proofs.Ytblgfhljaafmhaa.M
set_option linter.unusedVariables false

theorem piece_join (l : List UInt8) (i j k : Nat) (hij : i ≤ j) (hjk : j ≤ k) : piece l i j ++ piece l j k = piece l i k := by
  unfold piece
  have e : (l.drop i).take (k - i) = ((l.drop i).take (j - i)) ++ ((l.drop i).drop (j - i)).take (k - j) := by
    rw [show k - i = (j - i) + (k - j) from by omega, List.take_add]
  rw [e, List.drop_drop, show i + (j - i) = j from by omega]
theorem piece_all (l : List UInt8) : piece l 0 l.length = l := by simp [piece]
theorem piece_none (l : List UInt8) (a : Nat) : piece l a a = [] := by simp [piece]

theorem takeN_enc (post : List UInt8) : ∀ (k : Nat) (ns : List Nat) (pre : List UInt8) (post : List UInt8), ns.length = k → (∀ n ∈ ns, n ≤ 9223372036854775807) → takeN k (pre ++ encN ns ++ post) pre.length = some (ns, pre.length + (encN ns).length)
  | 0, ns, pre, post, hk, h => by
    obtain rfl : ns = [] := List.length_eq_zero_iff.1 hk
    simp [takeN, encN]
  | k + 1, ns, pre, post, hk, h => by
    have hne : ns ≠ [] := by intro e; rw [e] at hk; simp at hk
    obtain ⟨ms, n, rfl⟩ : ∃ ms n, ns = ms ++ [n] := ⟨ns.dropLast, ns.getLast hne, (List.dropLast_concat_getLast hne).symm⟩
    have hm : ms.length = k := by simpa using hk
    have ih := takeN_enc post k ms pre (putN n ++ post) hm (fun m hm => h m (by simp [hm]))
    have e : pre ++ encN (ms ++ [n]) ++ post = pre ++ encN ms ++ (putN n ++ post) := by rw [encN_snoc]; simp only [List.append_assoc]
    have hg := gets_put (pre ++ encN ms) post n (h n (by simp))
    rw [List.append_assoc] at hg
    rw [e]
    simp only [takeN, ih]
    rw [List.length_append] at hg
    simp only [hg]
    rw [encN_snoc]
    simp only [List.length_append]
    rw [Nat.add_assoc]
theorem takeT_enc : ∀ (k : Nat) (ts : List (List UInt8)) (pre : List UInt8) (post : List UInt8), ts.length = k → (∀ t ∈ ts, t.length ≤ 9223372036854775807) → takeT k (pre ++ encT ts ++ post) pre.length = some (ts, pre.length + (encT ts).length)
  | 0, ts, pre, post, hk, h => by
    obtain rfl : ts = [] := List.length_eq_zero_iff.1 hk
    simp [takeT, encT]
  | k + 1, ts, pre, post, hk, h => by
    have hne : ts ≠ [] := by intro e; rw [e] at hk; simp at hk
    obtain ⟨ms, t, rfl⟩ : ∃ ms t, ts = ms ++ [t] := ⟨ts.dropLast, ts.getLast hne, (List.dropLast_concat_getLast hne).symm⟩
    have hm : ms.length = k := by simpa using hk
    have ih := takeT_enc k ms pre (putT t ++ post) hm (fun m hm => h m (by simp [hm]))
    have e : pre ++ encT (ms ++ [t]) ++ post = pre ++ encT ms ++ (putT t ++ post) := by rw [encT_snoc]; simp only [List.append_assoc]
    have hg := getTs_put (pre ++ encT ms) post t (h t (by simp))
    rw [List.append_assoc, List.length_append] at hg
    rw [e]
    simp only [takeT, ih]
    simp only [putT]
    simp only [hg]
    rw [encT_snoc]
    simp only [putT, List.length_append]
    congr 2
    omega

theorem spOf_nums {x : Sp} (h : mayB x = true) : spOf (nums x) (txts x) = x := by
  obtain ⟨h1, h2, h3, _, _, h4, h5, _⟩ := mayB_parts h
  apply Sp.ext' <;> simp [spOf, nums, txts] <;> omega

/-- What is encoded is decoded, with whatever is ahead left out. -/
theorem dec_enc {x : Sp} (hx : x.fits) (h : mayB x = true) : dec (enc x) = some x := by
  have h1 := takeN_enc [] 5 (nums x) [] (encT (txts x)) rfl (fun n hn => by
    obtain ⟨k, hk, rfl⟩ := List.getElem_of_mem hn
    have := nums_le hx k
    simpa [List.getD, List.getElem?_eq_getElem hk] using this)
  have h2 := takeT_enc 3 (txts x) (encN (nums x)) [] rfl (fun t ht => by have := txts_mem h t ht; omega)
  simp only [List.nil_append, List.length_nil, Nat.zero_add] at h1
  rw [List.append_nil] at h2
  unfold dec
  have e : enc x = encN (nums x) ++ encT (txts x) := rfl
  rw [e, h1]
  simp only [h2]
  rw [spOf_nums h, if_pos ⟨by rw [List.length_append], h⟩]

theorem takeN_piece : ∀ {k : Nat} {l : List UInt8} {a : Nat} {ns : List Nat} {b : Nat}, a ≤ l.length → takeN k l a = some (ns, b) → a ≤ b ∧ b ≤ l.length ∧ encN ns = piece l a b
  | 0, l, a, ns, b, ha, h => by
    simp only [takeN, Option.some.injEq, Prod.mk.injEq] at h
    obtain ⟨rfl, rfl⟩ := h
    exact ⟨Nat.le_refl _, ha, by rw [piece_none]; rfl⟩
  | k + 1, l, a, ns, b, ha, h => by
    simp only [takeN] at h
    split at h
    · simp at h
    · rename_i ms c hm
      split at h
      · simp at h
      · rename_i n d hg
        simp only [Option.some.injEq, Prod.mk.injEq] at h
        obtain ⟨rfl, rfl⟩ := h
        have ih := takeN_piece ha hm
        have hb := gets_bounds hg
        refine ⟨by omega, hb.2.2.1, ?_⟩
        rw [encN_snoc, ih.2.2, hb.2.2.2.2.2]
        exact piece_join l a c d (by omega) (by omega)
theorem takeT_piece : ∀ {k : Nat} {l : List UInt8} {a : Nat} {ts : List (List UInt8)} {b : Nat}, a ≤ l.length → takeT k l a = some (ts, b) → a ≤ b ∧ b ≤ l.length ∧ encT ts = piece l a b
  | 0, l, a, ts, b, ha, h => by
    simp only [takeT, Option.some.injEq, Prod.mk.injEq] at h
    obtain ⟨rfl, rfl⟩ := h
    exact ⟨Nat.le_refl _, ha, by rw [piece_none]; rfl⟩
  | k + 1, l, a, ts, b, ha, h => by
    simp only [takeT] at h
    split at h
    · simp at h
    · rename_i ms c hm
      split at h
      · simp at h
      · rename_i t d hg
        simp only [Option.some.injEq, Prod.mk.injEq] at h
        obtain ⟨rfl, rfl⟩ := h
        have ih := takeT_piece ha hm
        unfold getTs at hg
        cases hn : gets l c with
        | none => rw [hn] at hg; simp at hg
        | some r =>
          obtain ⟨n, next⟩ := r
          rw [hn] at hg
          have hb := gets_bounds hn
          simp only at hg
          split at hg
          · rename_i hr
            simp only [Option.some.injEq, Prod.mk.injEq] at hg
            obtain ⟨h1, h2⟩ := hg
            have ht : t.length = n := by rw [← h1]; simp; omega
            refine ⟨by omega, by omega, ?_⟩
            have e1 : putT t = piece l c d := by
              rw [putT, ht, hb.2.2.2.2.2, ← h1, ← h2]
              exact piece_join l c next (next + n) (by omega) (by omega) ▸ (by simp [piece])
            rw [encT_snoc, ih.2.2, e1]
            exact piece_join l a c d (by omega) (by omega)
          · simp at hg

/-- What is decoded is encoded. -/
theorem enc_dec {l : List UInt8} {x : Sp} (h : dec l = some x) : enc x = l ∧ mayB x = true := by
  unfold dec at h
  cases hn : takeN 5 l 0 with
  | none => simp [hn] at h
  | some r =>
    obtain ⟨ns, a⟩ := r
    cases ht : takeT 3 l a with
    | none => simp [hn, ht] at h
    | some q =>
      obtain ⟨ts, e⟩ := q
      simp only [hn, ht] at h
      split at h
      · rename_i hc
        obtain ⟨rfl, hm⟩ := hc
        simp only [Option.some.injEq] at h
        subst h
        refine ⟨?_, hm⟩
        have p1 := takeN_piece (Nat.zero_le _) hn
        have p2 := takeT_piece p1.2.1 ht
        have l1 := (takeN_len hn).1
        have l2 := (takeT_len ht).1
        have e1 : nums (spOf ns ts) = ns := by
          match ns, l1 with
          | [_, _, _, _, _], _ => simp [nums, spOf]
        have e2 : txts (spOf ns ts) = ts := by
          match ts, l2 with
          | [_, _, _], _ => simp [txts, spOf]
        unfold enc
        rw [e1, e2, p1.2.2, p2.2.2, piece_join l 0 a l.length (by omega) (by omega), piece_all]
      · simp at h

theorem enc_len {x : Sp} (h : mayB x = true) : (enc x).length ≤ 90 := by
  have hp := mayB_parts h
  have hs := nameB_len hp.2.2.2.1
  have hh := nameB_len hp.2.2.2.2.1
  obtain ⟨h1, h2, h3, _, _, h4, h5, h6⟩ := hp
  have five : (putN 2147483647).length = 5 := by decide
  have one : (putN 24).length = 1 := by decide
  have a1 := putN_len_mono x.trace.toNat 2147483647 (by omega)
  have a2 := putN_len_mono x.id.toNat 2147483647 (by omega)
  have a3 := putN_len_mono x.parent.toNat 2147483647 (by omega)
  have a4 := putN_len_mono x.start.toNat 2147483647 (by omega)
  have a5 := putN_len_mono x.dur.toNat 2147483647 (by omega)
  have b1 := putN_len_mono x.svc.length 24 (by omega)
  have b2 := putN_len_mono x.host.length 24 (by omega)
  have b3 := putN_len_mono x.note.length 24 (by omega)
  simp only [enc, encN, encT, nums, txts, putT, List.flatMap_cons, List.flatMap_nil, List.append_nil, List.length_append]
  omega

end Go.Proofs.Ytblgfhljaafmhaa.M
