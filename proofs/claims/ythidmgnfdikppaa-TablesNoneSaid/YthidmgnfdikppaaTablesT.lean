/- Layer 10: the document's table of a text, by a contract. -/
import Derived.Test.YthidmgnfdikppaaTablesI
import Derived.Test.YthidmgnfdikppaaTablesR
import Derived.Test.YthidmgnfdikppaaZI
import Derived.BigQuiet
namespace Go.Proofs.Ythidmgnfdikppaa
set_option linter.unusedVariables false
open Go Go.RowKit
attribute [local go_sem ↓] run_index_S
attribute [local go_sem] S_append S_extract

/-- What of the text has been read, the document's way. -/
structure RdD (t : List UInt8) (size N k : Nat) (at_ : Int) (from_ : Nat) (ok : Bool) (C : List M.Cl) : Prop where
  cl : C.length ≤ from_
  fs : from_ ≤ size
  okc : ∀ c ∈ C, ClOk c
  is : ∀ L, M.IsT t L → ok = true ∧ N = M.many L ∧ k ≤ M.many L ∧ size = (M.bodyT L).length ∧ at_ = ((M.bodyT L ++ M.putN (M.many L) ++ M.idxS k L).length : Nat) ∧ from_ = (M.bodyS k L).length ∧ C = L.take (4 * k)
theorem M.tab_split (L : List M.Cl) (k j : Nat) (h : k + (j + 1) = M.many L) : ∃ z, M.tableT L = (M.bodyT L ++ M.putN (M.many L) ++ M.idxS k L) ++ M.putT (L.getD (4 * k) M.cl0).key ++ (M.putN (M.encCs (M.blk L k)).length ++ z) ∧ M.bodyT L ++ M.putN (M.many L) ++ M.idxS (k + 1) L = ((M.bodyT L ++ M.putN (M.many L) ++ M.idxS k L) ++ M.putT (L.getD (4 * k) M.cl0).key) ++ M.putN (M.encCs (M.blk L k)).length := by
  refine ⟨M.idxS j (L.drop (4 * (k + 1))) ++ M.big 4 (M.sumP (M.idxT L)) ++ (M.bigN (M.bodyT L).length ++ M.bigN L.length ++ M.spoorT), ?_, ?_⟩
  · rw [M.tableT, M.wsum]
    have e : M.idxT L = M.putN (M.many L) ++ (M.idxS k L ++ (M.putT (L.getD (4 * k) M.cl0).key ++ M.putN (M.encCs (M.blk L k)).length) ++ M.idxS j (L.drop (4 * (k + 1)))) := by
      rw [M.idxT]
      congr 1
      have e1 : M.idxS (M.many L) L = M.idxS (k + 1 + j) L := by congr 1; omega
      rw [e1, M.idxS_add, M.idxS_snoc]
    rw [e]
    simp only [List.append_assoc]
  · rw [M.idxS_snoc]; simp only [List.append_assoc]
theorem isT_next {t : List UInt8} {L : List M.Cl} (h : M.IsT t L) {k : Nat} (hk : k < M.many L) :
    M.getTs t ((M.bodyT L ++ M.putN (M.many L) ++ M.idxS k L).length : Nat) = some ((L.getD (4 * k) M.cl0).key, ((M.bodyT L ++ M.putN (M.many L) ++ M.idxS k L) ++ M.putT (L.getD (4 * k) M.cl0).key).length) ∧
    M.gets t (((M.bodyT L ++ M.putN (M.many L) ++ M.idxS k L) ++ M.putT (L.getD (4 * k) M.cl0).key).length : Nat) = some ((M.encCs (M.blk L k)).length, (M.bodyT L ++ M.putN (M.many L) ++ M.idxS (k + 1) L).length) := by
  obtain ⟨z, e1, e2⟩ := M.tab_split L k (M.many L - k - 1) (by omega)
  rw [h.t] at e1
  have hkl := M.key_len h.s (4 * k)
  have hel := M.encCs_len (M.srt_blk h.s k) (M.blk_len4 L k)
  refine ⟨M.getTsP (by omega) e1 rfl, ?_⟩
  rw [e2]
  exact M.getsP (c := z) (by omega) (by rw [e1]; simp only [List.append_assoc]) rfl
theorem isT_piece {t : List UInt8} {L : List M.Cl} (h : M.IsT t L) {k : Nat} (hk : k < M.many L) : piece t (M.bodyS k L).length ((M.bodyS k L).length + (M.encCs (M.blk L k)).length) = M.encCs (M.blk L k) ∧ (M.bodyS (k + 1) L).length = (M.bodyS k L).length + (M.encCs (M.blk L k)).length + 4 ∧ (M.bodyS (k + 1) L).length ≤ (M.bodyT L).length := by
  have e : M.bodyT L = M.bodyS k L ++ (M.wsum (M.encCs (M.blk L k)) ++ M.bodyS (M.many L - k - 1) (L.drop (4 * (k + 1)))) := by
    rw [M.bodyT, ← List.append_assoc, ← M.bodyS_snoc, ← M.bodyS_add]
    congr 1; omega
  obtain ⟨tail, ht⟩ : ∃ tail, t = M.bodyT L ++ tail := ⟨_, by rw [← h.t, M.tableT, List.append_assoc]⟩
  have e2 : t = M.bodyS k L ++ (M.encCs (M.blk L k) ++ (M.big 4 (M.sumP (M.encCs (M.blk L k))) ++ M.bodyS (M.many L - k - 1) (L.drop (4 * (k + 1))) ++ tail)) := by
    rw [ht, e, M.wsum]
    simp only [List.append_assoc]
  refine ⟨?_, ?_, ?_⟩
  · rw [piece, e2, List.drop_append_of_le_length (Nat.le_refl _), List.drop_of_length_le (Nat.le_refl _), List.nil_append, Nat.add_sub_cancel_left, List.take_append_of_le_length (Nat.le_refl _), List.take_of_length_le (Nat.le_refl _)]
  · rw [M.bodyS_snoc, List.length_append, M.wsum_len]; omega
  · rw [e, M.bodyS_snoc]; simp only [List.length_append]; omega
theorem isT_bigs {t : List UInt8} {L : List M.Cl} (h : M.IsT t L) : M.ofBigs t ((t.length - 21 : Nat) : Int) = some (M.bodyT L).length ∧ M.ofBigs t (((t.length - 21 : Nat) : Int) + 8) = some L.length ∧ M.gets t ((M.bodyT L).length : Nat) = some (M.many L, (M.bodyT L ++ M.putN (M.many L)).length) := by
  have hl := isT_len h
  have hb := isT_body h
  have e1 : t = t.take (t.length - 21) ++ M.bigN (M.bodyT L).length ++ (M.bigN L.length ++ M.spoorT) := by
    have := M.tab_foot L
    rw [h.t] at this
    rw [List.append_assoc, ← this, List.take_append_drop]
  have e2 : t = (t.take (t.length - 21) ++ M.bigN (M.bodyT L).length) ++ M.bigN L.length ++ M.spoorT := by
    rw [List.append_assoc _ (M.bigN L.length)]; exact e1
  have hlt : (t.take (t.length - 21)).length = t.length - 21 := by rw [List.length_take]; omega
  have g1 := M.ofBigs_big (t.take (t.length - 21)) (M.bigN L.length ++ M.spoorT) (M.bodyT L).length (by omega)
  rw [← e1, hlt] at g1
  have g2 := M.ofBigs_big (t.take (t.length - 21) ++ M.bigN (M.bodyT L).length) M.spoorT L.length (by have := h.n; omega)
  rw [← e2, List.length_append, hlt, M.bigN_length] at g2
  refine ⟨g1, by simpa using g2, ?_⟩
  have hm : M.many L ≤ 1025 := by have := h.n; unfold M.many; omega
  have e3 : t = M.bodyT L ++ M.putN (M.many L) ++ (M.idxS (M.many L) L ++ (M.big 4 (M.sumP (M.idxT L)) ++ (M.bigN (M.bodyT L).length ++ M.bigN L.length ++ M.spoorT))) := by
    conv => lhs; rw [← h.t, M.tableT, M.wsum, M.idxT]
    simp only [List.append_assoc, M.idxT]
  exact M.getsP (by omega) e3 rfl
theorem RdD.step {t : List UInt8} {size N k : Nat} {at_ : Int} {from_ : Nat} {C Ln : List M.Cl} (h : RdD t size N k at_ from_ true C) {key : List UInt8} {at1 n at2 : Nat} (h1 : M.getTs t at_ = some (key, at1)) (h2 : M.gets t (at1 : Int) = some (n, at2)) (hn : n ≤ size - from_) (hk : k < N) (hd : M.decC (piece t from_ (from_ + n)) = some Ln) (hlen : (piece t from_ (from_ + n)).length ≤ n) :
    RdD t size N (k + 1) at2 (min (from_ + n + 4) size) true (C ++ Ln) := by
  have e3 := M.decC_len hd
  have := h.cl
  have := h.fs
  obtain ⟨o1, -, -⟩ := decC_oks hd
  refine ⟨by simp only [List.length_append]; omega, Nat.min_le_right _ _, fun c hc => ?_, fun L hL => ?_⟩
  · rcases List.mem_append.1 hc with hc | hc
    · exact h.okc c hc
    · exact o1 c hc
  · obtain ⟨-, rfl, i2, rfl, i4, rfl, rfl⟩ := h.is L hL
    obtain ⟨j1, j2⟩ := isT_next hL hk
    obtain ⟨p1, p2, p3⟩ := isT_piece hL hk
    rw [i4, j1] at h1
    injection h1 with h1
    injection h1 with h1 h1'
    subst h1'
    rw [j2] at h2
    injection h2 with h2
    injection h2 with h2 h2'
    subst h2 h2'
    rw [p1, M.dec_encC (M.srt_blk hL.s k) (fun c hc => hL.q c (M.blk_mem hc)) (by have := M.blk_len4 L k; omega)] at hd
    injection hd with hd
    subst hd
    exact ⟨rfl, rfl, hk, rfl, rfl, by omega, (M.take_blk L k).symm⟩
theorem RdD.bad {t : List UInt8} {size N k : Nat} {at_ : Int} {from_ : Nat} {C : List M.Cl} (h : RdD t size N k at_ from_ true C) (hk : k < N) (hb : M.getTs t at_ = none ∨ (∃ key at1, M.getTs t at_ = some (key, at1) ∧ (M.gets t (at1 : Int) = none ∨ ∃ n at2, M.gets t (at1 : Int) = some (n, at2) ∧ (size - from_ < n ∨ M.decC (piece t from_ (from_ + n)) = none)))) : ∀ L, ¬ M.IsT t L := fun L hL => by
  obtain ⟨-, rfl, i2, rfl, i4, rfl, rfl⟩ := h.is L hL
  obtain ⟨j1, j2⟩ := isT_next hL hk
  obtain ⟨p1, p2, p3⟩ := isT_piece hL hk
  rw [i4, j1] at hb
  rcases hb with hb | ⟨key, at1, e1, hb⟩
  · cases hb
  · injection e1 with e1
    injection e1 with _ e1
    subst e1
    rw [j2] at hb
    rcases hb with hb | ⟨n, at2, e2, hb⟩
    · cases hb
    · injection e2 with e2
      injection e2 with e2 _
      subst e2
      rcases hb with hb | hb
      · omega
      · rw [p1, M.dec_encC (M.srt_blk hL.s k) (fun c hc => hL.q c (M.blk_mem hc)) (by have := M.blk_len4 L k; omega)] at hb
        cases hb
theorem RdD.finBad {t : List UInt8} {size N k : Nat} {at_ : Int} {from_ : Nat} {ok : Bool} {C : List M.Cl} (h : RdD t size N k at_ from_ ok C) (hk : ok = true → N ≤ k) (hb : M.srt none C = false ∨ 4096 < C.length ∨ M.tableT C ≠ t) : ∀ L, ¬ M.IsT t L := fun L hL => by
  obtain ⟨i1, i2, i3, _, _, _, i4⟩ := h.is L hL
  have : k = M.many L := by have := hk i1; omega
  subst this
  rw [M.take_many] at i4
  subst i4
  rcases hb with q | q | q
  · rw [hL.s] at q; cases q
  · have := hL.n; omega
  · exact q hL.t
theorem RdD.fin {t : List UInt8} {size N k : Nat} {at_ : Int} {from_ : Nat} {ok : Bool} {C : List M.Cl} (h : RdD t size N k at_ from_ ok C) (hs : M.srt none C = true) (hn : ¬ 4096 < C.length) (ht : M.tableT C = t) : M.IsT t C := ⟨hs, by omega, fun c hc => (h.okc c hc).2.2.h2, ht⟩
def OpenD10 (t : List UInt8) (w : World) (e : Ending) (w' : World) : Prop := (match M.openT t with
  | none => e = .returned (.tuple #[.slice none 0 0, .int .i64 30])
  | some L => ∃ ao cap, e = .returned (.tuple #[.slice ao L.length cap, .int .i64 0]) ∧ w'.ownsRow w.heap.size 38 3 (.slice ao L.length cap) L.length (cls L)) ∧ Below w.heap.size w w'
theorem openD10_none {t : List UInt8} {w w' : World} (h : ∀ L, ¬ M.IsT t L) (hb : Below w.heap.size w w') : OpenD10 t w (.returned (.tuple #[.slice none 0 0, .int .i64 30])) w' := by
  unfold OpenD10
  rw [M.openT_none h]
  exact ⟨rfl, hb⟩
theorem openD10_some {t : List UInt8} {L : List M.Cl} {ao : Option Addr} {cap : Nat} {w w' : World} (h : M.IsT t L) (ht : w'.ownsRow w.heap.size 38 3 (.slice ao L.length cap) L.length (cls L)) (hb : Below w.heap.size w w') : OpenD10 t w (.returned (.tuple #[.slice ao L.length cap, .int .i64 0])) w' := by
  unfold OpenD10
  rw [M.openT_some h]
  exact ⟨⟨ao, cap, rfl, ht⟩, hb⟩

set_option maxHeartbeats 8000000 in
set_option maxRecDepth 100000 in
theorem refOpen10_any (t : List UInt8) (ht : t.length ≤ 900000) (w : World) :
    Calls Try.prog 29 #[.string (S t)] w fun e w' => OpenD10 t w e w' := by
  obtain ⟨i0, z0, hi0, hz0, hz1, hz2, hz3⟩ := infoCl_parts
  by_cases h0 : t.length < 21
  · have q0 : decide ((t.length : Int) < 21) = true := by simp; omega
    have HN := Lib.hid (openD10_none (w := w) (w' := w) (t := t) (fun L h => by have := isT_len h; omega) (Below.refl _ _))
    go_enter Try.func29, Try.ntmps29
    go_wp2_with fail
    go_ret2
    exact HN.out
  have q0 : decide ((t.length : Int) < 21) = false := by simp; omega
  have HNO := Lib.hid (fun (h : ∀ L, ¬ M.IsT t L) w' (hb : Below w.heap.size w w') => openD10_none (w := w) (w' := w') h hb)
  have HBG := Lib.hid (fun L (h : M.IsT t L) => isT_bigs h)
  have HN4 := Lib.hid (fun L (h : M.IsT t L) => h.n)
  have HSZ := Lib.hid (fun L (h : M.IsT t L) => (show (M.bodyT L).length ≤ t.length - 21 from by have := isT_size h; omega))
  obtain ⟨ft, hft⟩ : ∃ f : Nat, f = t.length - 21 := ⟨_, rfl⟩
  rw [← hft] at HBG HSZ
  have hfc : (t.length : Int) - 21 = (ft : Int) := by omega
  have hf9 : ft ≤ 900000 := by omega
  have C1 := Lib.hid (fun W => refOfBig_any t (ft : Int) W (by omega))
  have C2 := Lib.hid (fun W => refOfBig_any t ((ft : Int) + 8) W (by omega))
  have C3 := Lib.hid (fun (s : Nat) W => refGet_any t (s : Int) W (by omega))
  have HFT := Lib.hid hft
  clear hft
  go_enter Try.func29, Try.ntmps29
  go_wp2_with fail
  with_reducible refine (C1.out w).mono ?_
  rintro e w1 ⟨rfl, rfl⟩
  cases hA : M.ofBigs t (ft : Int) with
  | none =>
    have HN := Lib.hid (HNO.out (fun L h => by have := (HBG.out L h).1; rw [hA] at this; cases this) w (Below.refl _ _))
    simp only [duo]
    clear hA
    go_wp2_with fail
    with_reducible refine (C2.out w).mono ?_
    rintro e w1 ⟨rfl, rfl⟩
    cases hB : M.ofBigs t ((ft : Int) + 8) with
    | none =>
      simp only [duo]
      clear hB
      go_wp2_with fail
      go_ret2
      exact HN.out
    | some mn =>
      simp only [duo]
      clear hB
      go_wp2_with fail
      go_ret2
      exact HN.out
  | some size =>
    have hs9 : size ≤ 9223372036854775807 := (M.ofBigs_bounds hA).2.2.1
    have HA := Lib.hid (fun L (h : M.IsT t L) => (show size = (M.bodyT L).length from by have := (HBG.out L h).1; rw [hA] at this; injection this))
    simp only [duo]
    clear hA
    go_wp2_with fail
    with_reducible refine (C2.out w).mono ?_
    rintro e w1 ⟨rfl, rfl⟩
    cases hB : M.ofBigs t ((ft : Int) + 8) with
    | none =>
      have HN := Lib.hid (HNO.out (fun L h => by have := (HBG.out L h).2.1; rw [hB] at this; cases this) w (Below.refl _ _))
      simp only [duo]
      clear hB
      go_wp2_with fail
      go_ret2
      exact HN.out
    | some mn =>
      have hm9 : mn ≤ 9223372036854775807 := (M.ofBigs_bounds hB).2.2.1
      have HBm := Lib.hid (fun L (h : M.IsT t L) => (show mn = L.length from by have := (HBG.out L h).2.1; rw [hB] at this; injection this))
      simp only [duo]
      clear hB
      by_cases h1 : ft < size
      · have q1 : decide ((ft : Int) < (size : Int)) = true := by simp; omega
        have q2 : decide (ft < size) = true := by simp; omega
        have HN := Lib.hid (HNO.out (fun L h => by have := HA.out L h; have := HSZ.out L h; omega) w (Below.refl _ _))
        go_wp2_with fail
        go_ret2
        exact HN.out
      have q1 : decide ((ft : Int) < (size : Int)) = false := by simp; omega
      have q2 : decide (ft < size) = false := by simp; omega
      by_cases h2 : 4096 < mn
      · have q3 : decide ((4096 : Int) < (mn : Int)) = true := by simp; omega
        have q4 : decide (4096 < mn) = true := by simp; omega
        have HN := Lib.hid (HNO.out (fun L h => by have := HBm.out L h; have := HN4.out L h; omega) w (Below.refl _ _))
        go_wp2_with fail
        go_ret2
        exact HN.out
      have q3 : decide ((4096 : Int) < (mn : Int)) = false := by simp; omega
      have q4 : decide (4096 < mn) = false := by simp; omega
      go_wp2_with fail
      with_reducible refine (C3.out size w).mono ?_
      rintro e w1 ⟨rfl, hb1⟩
      have HB := Lib.hid hb1
      have HST : Hid (∃ (N : Nat) (at_ : Int) (ok : Bool), N ≤ 9223372036854775807 ∧ 0 ≤ at_ ∧ at_ ≤ 900000 ∧ tri (M.gets t (size : Int)) = .tuple #[.int .i64 N, .int .i64 at_, .bool ok] ∧ RdD t size N 0 at_ 0 ok []) := Lib.hid (by
        cases hg : M.gets t (size : Int) with
        | none =>
          refine ⟨0, 0, false, by omega, by omega, by omega, rfl, by simp, by omega, (fun c hc => by cases hc), (fun L h => ?_)⟩
          have k1 := (HBG.out L h).2.2
          rw [← HA.out L h, hg] at k1
          cases k1
        | some x =>
          obtain ⟨N, nx⟩ := x
          obtain ⟨g1, g2, g3, g4, _⟩ := M.gets_bounds hg
          refine ⟨N, nx, true, g4, by omega, by omega, rfl, by simp, by omega, (fun c hc => by cases hc), (fun L h => ?_)⟩
          have k1 := (HBG.out L h).2.2
          rw [← HA.out L h, hg] at k1
          injection k1 with k1
          injection k1 with k1 k2
          refine ⟨rfl, k1, Nat.zero_le _, HA.out L h, by rw [k2]; simp [M.idxS], by simp [M.bodyS], by simp⟩)
      obtain ⟨N, at0, ok0, hN, ha0, ha1, htri, hrd⟩ := HST.out
      rw [htri]
      have HRD := Lib.hid hrd
      clear hb1 htri hrd HST C1 C2
      have CT := Lib.hid (fun (a : Int) W => refGetText_any t a W (by omega))
      go_wp2_with fail
      go_loopw [10, 11, 12, 13, 14] (fun v10 v11 v12 v13 v14 wr => ∃ (k from_ : Nat) (at_ : Int) (ok : Bool) (C : List M.Cl) (ao : Option Addr) (cap : Nat), k ≤ N ∧ 0 ≤ at_ ∧ at_ ≤ 900000 ∧ from_ ≤ size ∧ v14 = .int .i64 k ∧ v13 = .int .i64 from_ ∧ v10 = .int .i64 at_ ∧ v11 = .bool ok ∧ v12 = .slice ao C.length cap ∧ Hid (RdD t size N k at_ from_ ok C) ∧ Hid (wr.ownsRow w.heap.size 38 3 (.slice ao C.length cap) C.length (cls C)) ∧ Hid (Below w.heap.size w wr)) (fun _ _ _ _ v _ => N - (intOf v).toNat)
      case atStart => exact ⟨0, 0, at0, ok0, [], none, 0, Nat.zero_le _, ha0, ha1, Nat.zero_le _, rfl, rfl, rfl, rfl, rfl, HRD, Lib.hid (World.ownsRow_nil _ _ _ _), HB⟩
      case round =>
        clear HRD HB
        obtain ⟨k, fr, at_, ok, C, ao, cap, hk, hat0, hat1, hfr, rfl, rfl, rfl, rfl, rfl, HRD, HO, HBr⟩ := hrel
        by_cases hkN : k < N ∧ ok = true
        · obtain ⟨hkN, rfl⟩ := hkN
          have d1 : decide ((k : Int) < (N : Int)) = true := by simp; omega
          have d2 : decide (k < N) = true := by simp; omega
          go_wp2_with fail
          with_reducible refine (CT.out at_ wr).mono ?_
          rintro e w2 ⟨rfl, hb2⟩
          replace HO := Lib.hid (ownP_below HO.out hb2)
          replace HBr := carry hb2 HBr
          clear hb2
          cases hg : M.getTs t at_ with
          | none =>
            have HN := Lib.hid (HNO.out (HRD.out.bad hkN (.inl hg)) w2 HBr.out)
            simp only [triT]
            clear hg
            go_wp2_with fail
            go_ret2
            exact HN.out
          | some x =>
            obtain ⟨key, at1⟩ := x
            obtain ⟨-, hb1, hl1, -⟩ : True ∧ True ∧ at1 ≤ t.length ∧ True := by
              refine ⟨trivial, trivial, ?_, trivial⟩
              unfold M.getTs at hg
              cases hq : M.gets t at_ with
              | none => rw [hq] at hg; cases hg
              | some y =>
                obtain ⟨n, a⟩ := y
                rw [hq] at hg
                simp only at hg
                split at hg
                · rename_i hle
                  injection hg with hg
                  injection hg with hg1 hg2
                  omega
                · cases hg
            have HG := Lib.hid hg
            simp only [triT]
            clear hg hb1
            go_wp2_with fail
            with_reducible refine (C3.out at1 w2).mono ?_
            rintro e w3 ⟨rfl, hb2⟩
            replace HO := Lib.hid (ownP_below HO.out hb2)
            replace HBr := carry hb2 HBr
            clear hb2
            cases hg : M.gets t (at1 : Int) with
            | none =>
              have HN := Lib.hid (HNO.out (HRD.out.bad hkN (.inr ⟨key, at1, HG.out, .inl hg⟩)) w3 HBr.out)
              simp only [tri]
              clear hg
              go_wp2_with fail
              go_ret2
              exact HN.out
            | some x =>
              obtain ⟨n, at2⟩ := x
              obtain ⟨-, -, hl2, hn9, -⟩ := M.gets_bounds hg
              have HG2 := Lib.hid hg
              simp only [tri]
              clear hg
              by_cases hn : size - fr < n
              · have q5 : decide ((size : Int) - (fr : Int) < (n : Int)) = true := by simp; omega
                have HN := Lib.hid (HNO.out (HRD.out.bad hkN (.inr ⟨key, at1, HG.out, .inr ⟨n, at2, HG2.out, .inl hn⟩⟩)) w3 HBr.out)
                go_wp2_with fail
                go_ret2
                exact HN.out
              have q5 : decide ((size : Int) - (fr : Int) < (n : Int)) = false := by simp; omega
              have hfl : (piece t fr (fr + n)).length = n := by
                have := HFT.out
                rw [piece_length t fr (fr + n) (by omega) (by omega)]; omega
              have k5 := run_piece (P := Try.prog) 9 Try.underlying9 t (fr : Int) ((fr : Int) + (n : Int)) fr (fr + n) rfl (by omega) (by omega) (by have := HFT.out; omega)
              have HPL := Lib.hid hfl
              have CDD := Lib.hid (refDecode9_any (piece t fr (fr + n)) (by omega) w3)
              unfold DecR9 at CDD
              clear hfl
              have hmin : min ((fr : Int) + (n : Int) + 4) (size : Int) = ((min (fr + n + 4) size : Nat) : Int) := by omega
              go_wp2_with fail
              cases hd : M.decC (piece t fr (fr + n)) with
              | none =>
                have HN := Lib.hid (HRD.out.bad hkN (.inr ⟨key, at1, HG.out, .inr ⟨n, at2, HG2.out, .inr hd⟩⟩))
                rw [hd] at CDD
                simp only at CDD
                clear hd
                with_reducible refine (CDD.out).mono ?_
                rintro e w4 ⟨rfl, hb2⟩
                have HN2 := Lib.hid (HNO.out HN.out w4 (below_step HBr.out hb2))
                clear hb2
                go_wp2_with fail
                go_ret2
                exact HN2.out
              | some Ln =>
                have HST := Lib.hid (HRD.out.step HG.out HG2.out (by omega) hkN hd (by rw [HPL.out]; exact Nat.le_refl _))
                rw [hd] at CDD
                simp only at CDD
                clear hd
                with_reducible refine (CDD.out).mono ?_
                rintro e w4 ⟨⟨al, cl, rfl, hol⟩, hb2⟩
                have HO4 := Lib.hid (ownP_below HO.out hb2)
                have HB4 := Lib.hid (below_step HBr.out hb2)
                have HCL := Lib.hid (clsAt_own hol rfl)
                have hcn : C.length + Ln.length ≤ 900000 := by
                  have h1 := HST.out.cl
                  have h2 := HST.out.fs
                  rw [List.length_append] at h1
                  omega
                clear hb2 hol CDD HO HBr
                go_wp2_with (at_builtin; refine wpList_append_cls_at rfl _ _ 22 rfl w.heap.size i0 z0 Try.underlying22 hi0 hz0 hz1 hz2 hz3 (.slice ao C.length cap) C.length (cls C) rfl HO4.out al cl Ln rfl ?c1 ?c2 ?c3 ?_)
                case c1 => exact HCL.out
                case c2 => omega
                case c3 => exact HB4.out.size
                intro v' w5 ho5 hg5 hat5
                obtain ⟨ao5, cap5, rfl⟩ := ownP_shape ho5
                have HB5 := Lib.hid (HB4.out.grown hg5 HB4.out.size (fun q hq => (HO4.out.lt q hq).1))
                have HE5 := Lib.hid (show (C ++ Ln).length = C.length + Ln.length from List.length_append)
                have HO5 := Lib.hid (show w5.ownsRow w.heap.size 38 3 (.slice ao5 (C ++ Ln).length cap5) (C ++ Ln).length (cls (C ++ Ln)) from by rw [HE5.out, cls_append]; exact ho5)
                have HMN := Lib.hid (Nat.min_le_right (fr + n + 4) size)
                clear ho5 hg5 hat5
                generalize min (fr + n + 4) size = fr2 at *
                go_wp2_with fail
                go_roundw
                case rel => exact ⟨k + 1, fr2, at2, true, C ++ Ln, ao5, cap5, by omega, by omega, by omega, HMN.out, by go_num, rfl, rfl, rfl, by rw [HE5.out], HST, HO5, HB5⟩
                case measure => simp [intOf]; omega
        · have hcap : C.length ≤ cap := by
            rcases HO.out.2 with ⟨e, h0⟩ | ⟨g, cap', cur, e, _, _, hc, _⟩
            · rw [h0]; exact Nat.zero_le _
            · injection e with e1 e2 e3; omega
          have hCl : C.length ≤ 900000 := by have := HRD.out.cl; omega
          have CB := Lib.hid (refBuild10_any C (by omega) ao cap hcap wr (clsAt_own HO.out rfl) HRD.out.okc)
          unfold BuildR at CB
          have HY := Lib.hid (fun (hb : M.srt none C = false ∨ 4096 < C.length ∨ M.tableT C ≠ t) w' hb' => HNO.out (HRD.out.finBad (fun e => by
            rcases Nat.lt_or_ge k N with h | h
            · exact absurd ⟨h, e⟩ hkN
            · exact h) hb) w' (below_step HBr.out hb'))
          have HW : Hid ((decide ((k : Int) < (N : Int)) = true ∧ decide (k < N) = true ∧ ok = false) ∨ (decide ((k : Int) < (N : Int)) = false ∧ decide (k < N) = false)) := Lib.hid (by
            by_cases h : k < N
            · left
              refine ⟨by simp; omega, by simp; omega, ?_⟩
              cases ok with
              | false => rfl
              | true => exact absurd ⟨h, rfl⟩ hkN
            · right; exact ⟨by simp; omega, by simp; omega⟩)
          clear hcap hkN
          rcases HW.out with ⟨d1, d2, rfl⟩ | ⟨d1, d2⟩
          all_goals
            clear HW
            go_wp2_with fail
            cases hs : M.srt none C with
            | false =>
              rw [bE_no hs] at CB
              with_reducible refine (CB.out).mono ?_
              rintro e w3 ⟨rfl, hb3⟩
              have HN := Lib.hid (HY.out (.inl hs) w3 hb3)
              clear hb3 hs
              go_wp2_with fail
              go_ret2
              exact HN.out
            | true =>
              by_cases hl : 4096 < C.length
              · rw [bE_long hs hl] at CB
                with_reducible refine (CB.out).mono ?_
                rintro e w3 ⟨rfl, hb3⟩
                have HN := Lib.hid (HY.out (.inr (.inl hl)) w3 hb3)
                clear hb3 hs hl
                go_wp2_with fail
                go_ret2
                exact HN.out
              · rw [bE_ok hs hl] at CB
                by_cases hq : M.tableT C = t
                · have HI := Lib.hid (HRD.out.fin hs hl hq)
                  rw [hq] at CB
                  with_reducible refine (CB.out).mono ?_
                  rintro e w3 ⟨rfl, hb3⟩
                  have HO5 := Lib.hid (ownP_below HO.out hb3)
                  have HB5 := Lib.hid (below_step HBr.out hb3)
                  have q5 : (t == t) = true := by simp
                  have q6 : (t != t) = false := by simp
                  clear hb3 hs hl hq
                  go_wp2_with fail
                  go_ret2
                  exact openD10_some HI.out HO5.out HB5.out
                · have q5 : (M.tableT C == t) = false := by simpa using hq
                  have q6 : (M.tableT C != t) = true := by simpa using hq
                  with_reducible refine (CB.out).mono ?_
                  rintro e w3 ⟨rfl, hb3⟩
                  have HN := Lib.hid (HY.out (.inr (.inr hq)) w3 hb3)
                  clear hb3 hs hl hq
                  go_wp2_with fail
                  go_ret2
                  exact HN.out

end Go.Proofs.Ythidmgnfdikppaa
