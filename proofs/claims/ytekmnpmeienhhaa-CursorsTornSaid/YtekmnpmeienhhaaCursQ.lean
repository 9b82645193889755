/- Plain mathematics of layer 13: what a Save leaves, also where the disk fails. -/
import Derived.Test.YtekmnpmeienhhaaCursM
import Derived.Test.YtekmnpmeienhhaaDiskW
namespace Go.Proofs.Ytekmnpmeienhhaa
set_option linter.unusedVariables false
open Go Go.RowKit

namespace Dk
theorem del_comm (a b : List UInt8) (L : List Fl) : del a (del b L) = del b (del a L) := by
  unfold del
  rw [List.filter_filter, List.filter_filter]
  exact List.filter_congr (fun x _ => Bool.and_comm _ _)
theorem del_idem13 (a : List UInt8) (L : List Fl) : del a (del a L) = del a L := by
  unfold del
  rw [List.filter_filter]
  exact List.filter_congr (fun x _ => Bool.and_self _)
theorem del_ins (f : Fl) : ∀ L : List Fl, del f.name (ins f L) = del f.name L
  | [] => by simp [ins, del]
  | g :: r => by
    unfold ins
    split
    · unfold del
      rw [List.filter_cons_of_neg (by simp)]
    · have ih := del_ins f r
      unfold del at *
      by_cases e : (!(g.name == f.name)) = true
      · rw [List.filter_cons_of_pos (by exact e), List.filter_cons_of_pos (by exact e), ih]
      · rw [List.filter_cons_of_neg (by exact e), List.filter_cons_of_neg (by exact e), ih]
theorem del_put (f : Fl) (L : List Fl) : del f.name (put f L) = del f.name L := by
  unfold put
  rw [del_ins, del_idem13]
theorem get_del13 {a b : List UInt8} (h : a ≠ b) (L : List Fl) : get b (del a L) = get b L := by
  unfold get del
  congr 1
  rw [List.find?_filter]
  congr 1
  funext f
  by_cases e : f.name = b
  · have : (f.name == a) = false := by simpa using fun q => h (q.symm.trans e)
    rw [this, e]; simp
  · have : (f.name == b) = false := by simpa using e
    rw [this]; simp
theorem get_self_del (a : List UInt8) (L : List Fl) : get a (del a L) = fl0 := get_none (by rw [has_del]; simp)
theorem struck_two (D : St) : (∃ s, struck D = (false, { D with set := s }) ∧ (D.set = none → s = none)) ∨ (D.set ≠ none ∧ ∃ ks, struck D = (true, fall ks D)) := by
  rcases struck_cases D with ⟨h, e⟩ | ⟨ks, h, e⟩ | ⟨n, ks, h, e⟩
  · refine .inl ⟨none, ?_, fun _ => rfl⟩
    rw [e, ← h]
  · exact .inr ⟨by rw [h]; simp, ks, e⟩
  · exact .inl ⟨some (n, ks), e, fun q => by rw [h] at q; cases q⟩
theorem remove_two {D : St} {nm : List UInt8} (hu : D.up = true) (hh : has nm D.L = true) : (∃ s, remove nm D = (0, { D with set := s, L := del nm D.L }) ∧ (D.set = none → s = none)) ∨ (D.set ≠ none ∧ ∃ ks, remove nm D = (51, fall ks D)) := by
  unfold remove
  rw [if_neg (by rw [hu]; simp), if_neg (by rw [hh]; simp)]
  rcases struck_two D with ⟨s, e, h⟩ | ⟨h, ks, e⟩
  · exact .inl ⟨s, by simp only [e]; rfl, h⟩
  · exact .inr ⟨h, ks, by simp only [e]; rfl⟩
theorem sync_two {D : St} {nm : List UInt8} (hu : D.up = true) (hh : has nm D.L = true) : (∃ s, sync nm D = (0, { D with set := s, L := put ⟨nm, (get nm D.L).dat, (get nm D.L).dat.length⟩ D.L }) ∧ (D.set = none → s = none)) ∨ (D.set ≠ none ∧ ∃ ks, sync nm D = (51, fall ks D)) := by
  unfold sync
  rw [if_neg (by rw [hu]; simp), if_neg (by rw [hh]; simp)]
  rcases struck_two D with ⟨s, e, h⟩ | ⟨h, ks, e⟩
  · exact .inl ⟨s, by simp only [e]; rfl, h⟩
  · exact .inr ⟨h, ks, by simp only [e]; rfl⟩
theorem rename_two {D : St} {a b : List UInt8} (hu : D.up = true) (hh : has a D.L = true) (hb : named b = true) (hn : a ≠ b) : (∃ s, rename a b D = (0, { D with set := s, L := put ⟨b, (get a D.L).dat, (get a D.L).safe⟩ (del a D.L) }) ∧ (D.set = none → s = none)) ∨ (D.set ≠ none ∧ ∃ ks, rename a b D = (51, fall ks D)) := by
  unfold rename ren
  rw [if_neg (by rw [hu]; simp), if_neg (by rw [hh]; simp), if_neg (by rw [hb]; simp)]
  rcases struck_two D with ⟨s, e, h⟩ | ⟨h, ks, e⟩
  · exact .inl ⟨s, by simp only [e, if_neg hn]; rfl, h⟩
  · exact .inr ⟨h, ks, by simp only [e]; rfl⟩
theorem append_two {D : St} {nm s : List UInt8} (hu : D.up = true) (hb : named nm = true) (hf : D.L.length ≠ 1024) (hz : size D.L + s.length ≤ D.room) :
    (∃ st, append nm s D = (0, { D with set := st, L := put ⟨nm, (get nm D.L).dat ++ s, (get nm D.L).safe⟩ D.L }) ∧ (D.set = none → st = none)) ∨ (D.set ≠ none ∧ ∃ ks, append nm s D = (51, fall ks { D with L := put ⟨nm, (get nm D.L).dat ++ s, (get nm D.L).safe⟩ D.L })) := by
  unfold append
  rw [if_neg (by rw [hu]; simp), if_neg (by rw [hb]; simp), if_neg (by omega)]
  rcases struck_two { D with L := put ⟨nm, (get nm D.L).dat ++ s, (get nm D.L).safe⟩ D.L } with ⟨t, e, h⟩ | ⟨h, ks, e⟩
  · exact .inl ⟨t, by simp only [e]; rfl, h⟩
  · exact .inr ⟨h, ks, by simp only [e]; rfl⟩
theorem get_cut {ks : List Int} {L : List Fl} (h : OkL L) {nm : List UInt8} (hh : has nm L = true) : has nm (cut ks L) = true ∧ ∃ k, get nm (cut ks L) = left (get nm L) k := by
  have hok := h.cut ks
  have hn : nm ∈ names (cut ks L) := by rw [cut_names]; exact has_names.1 hh
  have hh2 := has_names.2 hn
  refine ⟨hh2, ?_⟩
  obtain ⟨h1, h2⟩ := get_mem hh2
  obtain ⟨f, hf, k, e⟩ := mem_cut h1
  have hfn : f.name = nm := by rw [← h2, e]; rfl
  refine ⟨k, ?_⟩
  have := get_of h.ne hf
  rw [hfn] at this
  rw [this, e]
theorem has_cut (ks : List Int) (L : List Fl) (nm : List UInt8) : has nm (cut ks L) = has nm L := by
  rw [Bool.eq_iff_iff, has_names, has_names, cut_names]
theorem left_all (f : Fl) (k : Int) (h : f.safe = f.dat.length) : left f k = f := by
  obtain ⟨n, d, s⟩ := f
  simp only at h
  subst h
  unfold left
  simp
end Dk
namespace Cu
theorem nCD : nC ≠ nD := by decide
theorem nDC : nD ≠ nC := by decide
/-- A cursor that is kept, beside other files. -/
structure Q (E : List Dk.Fl) (L : List Dk.Fl) (c : C) : Prop where
  ok : Dk.OkL L
  oth : Dk.del nD (Dk.del nC L) = E
  cur : (Dk.has nC L = true ∧ Dk.get nC L = ⟨nC, enc c, (enc c).length⟩ ∧ may c = true) ∨ (Dk.has nC L = false ∧ c = c0)
  dr : (Dk.get nD L).dat.length ≤ 11
theorem Q.cdat {E L : List Dk.Fl} {c : C} (h : Q E L c) : (Dk.get nC L).dat.length ≤ 11 := by
  rcases h.cur with ⟨_, e, hm⟩ | ⟨hh, _⟩
  · rw [e]; exact enc_len hm
  · rw [Dk.get_none hh]; decide
theorem Q.size {E L : List Dk.Fl} {c : C} (h : Q E L c) : Dk.size L ≤ Dk.size E + 11 + (Dk.get nD L).dat.length := by
  have h1 := Dk.size_del (nm := nC) h.ok.ne
  have h2 := Dk.size_del (nm := nD) (h.ok.del nC).ne
  rw [h.oth, Dk.get_del13 nCD] at h2
  have := h.cdat
  omega
theorem Q.len {E L : List Dk.Fl} {c : C} (h : Q E L c) : L.length ≤ E.length + 2 := by
  have h1 := Dk.len_del (nm := nC) h.ok.ne
  have h2 := Dk.len_del (nm := nD) (h.ok.del nC).ne
  rw [h.oth] at h2
  split at h1 <;> split at h2 <;> omega
theorem Q.del {E L : List Dk.Fl} {c : C} (h : Q E L c) : Q E (Dk.del nD L) c ∧ (Dk.get nD (Dk.del nD L)).dat.length = 0 ∧ Dk.has nD (Dk.del nD L) = false := by
  refine ⟨⟨h.ok.del nD, ?_, ?_, ?_⟩, by rw [Dk.get_self_del]; rfl, by rw [Dk.has_del]; simp⟩
  · rw [Dk.del_comm nC nD, Dk.del_idem13, Dk.del_comm nD nC]
    rw [Dk.del_comm nC nD]; exact h.oth
  · rw [Dk.has_del, Dk.get_del13 nDC]
    simp only [nCD, decide_false, Bool.not_false, Bool.true_and]
    exact h.cur
  · rw [Dk.get_self_del]; decide
theorem Q.draft {E L : List Dk.Fl} {c : C} (h : Q E L c) {s : List UInt8} {k : Nat} (hs : s.length ≤ 11) (hk : k ≤ s.length) : Q E (Dk.put ⟨nD, s, k⟩ L) c ∧ Dk.get nD (Dk.put ⟨nD, s, k⟩ L) = ⟨nD, s, k⟩ ∧ Dk.has nD (Dk.put ⟨nD, s, k⟩ L) = true := by
  have hok := h.ok.put (f := ⟨nD, s, k⟩) (show Dk.named nD = true from by decide) hk
  have hg := Dk.get_put (nm := nD) hok
  rw [if_pos rfl] at hg
  have hg2 := Dk.get_put (nm := nC) hok
  rw [if_neg nDC] at hg2
  refine ⟨⟨hok, ?_, ?_, ?_⟩, hg, by rw [Dk.has_put]; simp⟩
  · have := Dk.del_put ⟨nD, s, k⟩ L
    rw [Dk.del_comm nD nC, this, Dk.del_comm nC nD]; exact h.oth
  · rw [hg2, Dk.has_put]
    simp only [nDC, decide_false, Bool.false_or]
    exact h.cur
  · rw [hg]; exact hs
theorem Q.renamed {E L : List Dk.Fl} {c c' : C} (h : Q E L c) (hm : may c' = true) : Q E (Dk.put ⟨nC, enc c', (enc c').length⟩ (Dk.del nD L)) c' := by
  have hd := h.del.1
  have hok := hd.ok.put (f := ⟨nC, enc c', (enc c').length⟩) (show Dk.named nC = true from by decide) (Nat.le_refl _)
  have hg := Dk.get_put (nm := nC) hok
  rw [if_pos rfl] at hg
  have hg2 := Dk.get_put (nm := nD) hok
  rw [if_neg nCD] at hg2
  refine ⟨hok, ?_, .inl ⟨by rw [Dk.has_put]; simp, hg, hm⟩, by rw [hg2]; exact hd.dr⟩
  have := Dk.del_put ⟨nC, enc c', (enc c').length⟩ (Dk.del nD L)
  rw [this]; exact hd.oth
theorem Q.cut {L : List Dk.Fl} {c : C} (h : Q [] L c) (ks : List Int) : Q [] (Dk.cut ks L) c := by
  refine ⟨h.ok.cut ks, ?_, ?_, ?_⟩
  · have hz : ∀ f ∈ Dk.cut ks L, f.name = nC ∨ f.name = nD := fun f hf => by
      obtain ⟨g, hg, k, e⟩ := Dk.mem_cut hf
      have e1 : f.name = g.name := by rw [e]; rfl
      rw [e1]
      by_cases q1 : g.name = nC
      · exact .inl q1
      by_cases q2 : g.name = nD
      · exact .inr q2
      have : g ∈ Dk.del nD (Dk.del nC L) := Dk.mem_del.2 ⟨Dk.mem_del.2 ⟨hg, q1⟩, q2⟩
      rw [h.oth] at this
      cases this
    refine List.eq_nil_iff_forall_not_mem.2 fun f hf => ?_
    obtain ⟨h1, h2⟩ := Dk.mem_del.1 hf
    obtain ⟨h3, h4⟩ := Dk.mem_del.1 h1
    rcases hz f h3 with q | q
    · exact h4 q
    · exact h2 q
  · rw [Dk.has_cut]
    rcases h.cur with ⟨hh, e, hm⟩ | ⟨hh, e⟩
    · obtain ⟨_, k, hk⟩ := Dk.get_cut (ks := ks) h.ok hh
      refine .inl ⟨hh, ?_, hm⟩
      rw [hk, e, Dk.left_all]
      rfl
    · exact .inr ⟨hh, e⟩
  · cases hh : Dk.has nD L with
    | false => rw [Dk.get_none (by rw [Dk.has_cut]; exact hh)]; decide
    | true =>
      obtain ⟨_, k, hk⟩ := Dk.get_cut (ks := ks) h.ok hh
      have h1 := Dk.left_dat (Dk.get nD L) k (Dk.get_safe h.ok nD)
      have h2 := Dk.left_le (Dk.get nD L) k (Dk.get_safe h.ok nD)
      have := h.dr
      rw [hk]; omega
/-- What a Save leaves. -/
theorem save_two {E : List Dk.Fl} {D : Dk.St} {c c' : C} (h : Q E D.L c) (hu : D.up = true) (hE : D.set = none ∨ E = []) (hl : E.length ≤ 1000) (hz : Dk.size E + 22 ≤ D.room) (hm : may c' = true) :
    (∃ s L', save c' D = (0, { D with set := s, L := L' }) ∧ Q E L' c' ∧ (D.set = none → s = none)) ∨ (D.set ≠ none ∧ ∃ L', save c' D = (51, { D with up := false, set := none, L := L' }) ∧ (Q E L' c ∨ Q E L' c')) := by
  have he : (enc c').length ≤ 11 := enc_len hm
  have e0 : save c' D = Dk.next_ (Dk.clear nD D) (Dk.lay nD nC (enc c')) := by
    unfold save
    rw [if_neg (by rw [hu]; simp), if_neg (by rw [hm]; simp)]
    rfl
  have hEn : ∀ {s : Option (Nat × List Int)}, (D.set = none → s = none) → s ≠ none → E = [] := fun {s} h1 h2 => by
    rcases hE with q | q
    · exact absurd (h1 q) h2
    · exact q
  -- behind the clearing
  have key : ∀ (s : Option (Nat × List Int)) (L1 : List Dk.Fl), Q E L1 c → Dk.has nD L1 = false → (D.set = none → s = none) → save c' D = Dk.lay nD nC (enc c') { D with set := s, L := L1 } →
      (∃ s L', save c' D = (0, { D with set := s, L := L' }) ∧ Q E L' c' ∧ (D.set = none → s = none)) ∨ (D.set ≠ none ∧ ∃ L', save c' D = (51, { D with up := false, set := none, L := L' }) ∧ (Q E L' c ∨ Q E L' c')) := by
    intro s L1 hQ hno hs e1
    have hlen := hQ.len
    have hsz := hQ.size
    have hg0 : Dk.get nD L1 = Dk.fl0 := Dk.get_none hno
    rw [hg0] at hsz
    have hz0 : Dk.fl0.dat.length = 0 := rfl
    have e2 : save c' D = Dk.next_ (Dk.append nD (enc c') { D with set := s, L := L1 }) (Dk.run [Dk.sync nD, Dk.rename nD nC]) := e1
    obtain ⟨hQ2, hg2, hh2⟩ := hQ.draft (s := enc c') (k := 0) he (Nat.zero_le _)
    rcases Dk.append_two (D := { D with set := s, L := L1 }) (nm := nD) (s := enc c') hu (by decide) (by simp only; omega) (by simp only; omega) with ⟨s2, q, hs2⟩ | ⟨hne, ks, q⟩
    · simp only [hg0] at q
      have q' : Dk.append nD (enc c') { D with set := s, L := L1 } = (0, { D with set := s2, L := Dk.put ⟨nD, enc c', 0⟩ L1 }) := q
      rw [q'] at e2
      have e3 : save c' D = Dk.next_ (Dk.sync nD { D with set := s2, L := Dk.put ⟨nD, enc c', 0⟩ L1 }) (Dk.run [Dk.rename nD nC]) := e2
      obtain ⟨hQ3, hg3, hh3⟩ := hQ2.draft (s := enc c') (k := (enc c').length) he (Nat.le_refl _)
      rcases Dk.sync_two (D := { D with set := s2, L := Dk.put ⟨nD, enc c', 0⟩ L1 }) (nm := nD) hu hh2 with ⟨s3, q, hs3⟩ | ⟨hne, ks, q⟩
      · simp only [hg2] at q
        rw [q] at e3
        have e4 : save c' D = Dk.rename nD nC { D with set := s3, L := Dk.put ⟨nD, enc c', (enc c').length⟩ (Dk.put ⟨nD, enc c', 0⟩ L1) } := by
          rw [e3]; exact Dk.run_snoc [] _ _
        rcases Dk.rename_two (D := { D with set := s3, L := Dk.put ⟨nD, enc c', (enc c').length⟩ (Dk.put ⟨nD, enc c', 0⟩ L1) }) (a := nD) (b := nC) hu hh3 (by decide) nDC with ⟨s4, q, hs4⟩ | ⟨hne, ks, q⟩
        · simp only [hg3] at q
          exact .inl ⟨s4, _, by rw [e4, q], hQ3.renamed hm, fun h => hs4 (hs3 (hs2 (hs h)))⟩
        · have hEE := hEn (fun h => hs3 (hs2 (hs h))) hne
          subst hEE
          exact .inr ⟨fun h => hne (hs3 (hs2 (hs h))), _, by rw [e4, q]; rfl, .inl (hQ3.cut ks)⟩
      · have hEE := hEn (fun h => hs2 (hs h)) hne
        subst hEE
        rw [q] at e3
        exact .inr ⟨fun h => hne (hs2 (hs h)), _, by rw [e3]; rfl, .inl (hQ2.cut ks)⟩
    · have hEE := hEn hs hne
      subst hEE
      simp only [hg0] at q
      have q' : Dk.append nD (enc c') { D with set := s, L := L1 } = (51, Dk.fall ks { D with set := s, L := Dk.put ⟨nD, enc c', 0⟩ L1 }) := q
      rw [q'] at e2
      exact .inr ⟨fun h => hne (hs h), _, by rw [e2]; rfl, .inl (hQ2.cut ks)⟩
  cases hh : Dk.has nD D.L with
  | false =>
    refine key D.set D.L h hh (fun q => q) ?_
    rw [e0]
    unfold Dk.clear
    rw [hh]
    rfl
  | true =>
    have e1 : Dk.clear nD D = Dk.remove nD D := by unfold Dk.clear; rw [hh]; rfl
    rw [e1] at e0
    rcases Dk.remove_two hu hh with ⟨s, q, hs⟩ | ⟨hne, ks, q⟩
    · rw [q] at e0
      exact key s _ h.del.1 h.del.2.2 hs e0
    · have hEE := hEn (s := D.set) (fun q => q) hne
      subst hEE
      rw [q] at e0
      exact .inr ⟨hne, _, by rw [e0]; rfl, .inl (h.cut ks)⟩
theorem load_q {E : List Dk.Fl} {D : Dk.St} {c : C} (h : Q E D.L c) (hu : D.up = true) : load D = (0, c) := by
  unfold load
  rw [if_neg (by rw [hu]; simp)]
  rcases h.cur with ⟨hh, e, hm⟩ | ⟨hh, e⟩
  · rw [if_neg (by rw [hh]; simp), e, dec_enc hm]
  · rw [if_pos hh, e]
theorem q_new (n : Nat) : Q [] (Dk.new n).L c0 := ⟨⟨.nil, fun f hf => (by cases hf), fun f hf => (by cases hf)⟩, rfl, .inr ⟨rfl, rfl⟩, Nat.zero_le _⟩
theorem save_no {D : Dk.St} {c : C} (hu : D.up = true) (hm : may c = false) : save c D = (2, D) := by
  unfold save
  rw [if_neg (by rw [hu]; simp), if_pos hm]
end Cu

end Go.Proofs.Ytekmnpmeienhhaa
