/- Layer 16: Apply, by a contract. -/
import Derived.Test.YtfcmjgcjmldpcaaEditsY
namespace Go.Proofs.Ytfcmjgcjmldpcaa
set_option linter.unusedVariables false
set_option linter.unusedSimpArgs false
open Go Go.RowKit
attribute [local go_sem ↓] run_index_S
attribute [local go_sem] S_append S_extract

theorem ClI.rebase {w0 w2 w : World} {k : Nat} {Rs Rk : List Rt} {g c : Nat} (h : ClI w2 k Rs Rk g c w) (hb : Below w0.heap.size w0 w2) : ClI w0 k Rs Rk g c w :=
  ⟨h.len, h.same, own_base16 h.row hb.size, h.old, fun j hj => own_base16 (h.own j hj) hb.size, h.dis, hb.trans (h.bel.mono hb.size)⟩
theorem infoSt_size : (Try.prog.info? 24).map (·.size) = some 3 := by kernel_rfl
/-- What Apply tells. -/
def ApplyR (s : Ed.St) (y : Re) (w : World) (e : Ending) (w' : World) : Prop := Below w.heap.size w w' ∧
  ((∃ t Rk g c, Ed.apply s y.ed = some t ∧ e = .returned (.tuple #[stV (some ⟨g, 0, none⟩) (Rk : List Rt).length c t.log t.next, .bool true]) ∧ Own16 w g c Rk w' ∧ tbs Rk = t.T) ∨ (Ed.apply s y.ed = none ∧ e = .returned (.tuple #[stV none 0 0 0 0, .bool false])))
theorem apply_bad {s : Ed.St} {e : Ed.Ed} (h : ¬ (Ed.Ok s ∧ 0 ≤ e.file ∧ e.file < 2147483647)) : Ed.apply s e = none := by unfold Ed.apply; rw [if_neg h]
theorem apply_none {s : Ed.St} {e : Ed.Ed} (h : Ed.edit s e = none) : Ed.apply s e = none := by unfold Ed.apply; rw [h]; split <;> rfl
open Classical in
theorem apply_some {s t : Ed.St} {e : Ed.Ed} (hs : Ed.Ok s ∧ 0 ≤ e.file ∧ e.file < 2147483647) (h : Ed.edit s e = some t) : Ed.apply s e = if Ed.Ok t then some t else none := by unfold Ed.apply; rw [if_pos hs, h]; rfl
theorem Ok.small {Rs : List Rt} {log next : Int} (h : Ed.Ok ⟨tbs Rs, log, next⟩) : Rs ≠ [] ∧ Rs.length ≤ 16 ∧ ∀ r, r ∈ Rs → r.f.length ≤ 64 ∧ r.l.length ≤ 256 := by
  have h1 := h.n1
  have h2 := h.n16
  simp only [tbs_length] at h1 h2
  refine ⟨fun e => by rw [e] at h1; simp at h1, h2, fun r hr => ?_⟩
  obtain ⟨j, hj, rfl⟩ := List.getElem_of_mem hr
  have := h.each j (by simp only [tbs_length]; exact hj)
  unfold Ed.okAt at this
  simp only [tbs_at, Rt.tb, show Rs.getD j rt0 = Rs[j] from by simp [List.getD, hj]] at this
  exact ⟨this.2.1, this.2.2.2⟩
theorem same_mem {Rs Rk : List Rt} (h : tbs Rk = tbs Rs) {r : Rt} (hr : r ∈ Rk) : ∃ r', r' ∈ Rs ∧ r'.f = r.f ∧ r'.l = r.l := by
  have : r.tb ∈ tbs Rs := by rw [← h]; exact List.mem_map_of_mem hr
  obtain ⟨r', h1, h2⟩ := List.mem_map.1 this
  injection h2 with h2 h3
  exact ⟨r', h1, h2, h3⟩
theorem Own16.rowSt {w0 w : World} {g c : Nat} {Rk : List Rt} (h : Own16 w0 g c Rk w) {E : Array Value} {G : Nat} (hE : BkIn E 24 w G) (h0 : w0.heap.size ≤ G) (C : Array Value) : Own16 w0 g c Rk (w.setRow G C) :=
  ⟨own_row16 h.row (own_of_blk hE h.row (by decide)) _, fun r hr => own_row16 (h.own r hr) (own_of_blk hE (h.own r hr) (by decide)) _, below_row16 h.bel h0 _⟩
theorem uni_len (l : List Int) : (Ed.uni l).length ≤ l.length := by
  rw [← compact_uni]
  have := Lib.compact_length_le (sortI l)
  have h2 : (sortI l).length = l.length := List.length_mergeSort l
  omega
theorem edit_small {s t : Ed.St} {e : Ed.Ed} (hs : s.T.length ≤ 16 ∧ ∀ x ∈ s.T, x.f.length ≤ 64 ∧ x.l.length ≤ 256) (hf : e.fs.length ≤ 100000) (hk : e.key.length ≤ 9223372036854775807) (h : Ed.edit s e = some t) :
    t.T.length ≤ 17 ∧ ∀ x ∈ t.T, x.f.length ≤ 9223372036854775807 ∧ x.l.length ≤ 100000 := by
  have h0 : ∀ x ∈ s.T, x.f.length ≤ 9223372036854775807 ∧ x.l.length ≤ 100000 := fun x hx => by have := hs.2 x hx; omega
  have hg : ∀ k, (s.T.getD k Ed.tb0).f.length ≤ 64 ∧ (s.T.getD k Ed.tb0).l.length ≤ 256 := fun k => by
    by_cases hk : k < s.T.length
    · exact hs.2 _ (Ed.gD_mem hk)
    · have : s.T.getD k Ed.tb0 = Ed.tb0 := by simp [List.getD, show s.T.length ≤ k by omega]
      rw [this]; exact ⟨by decide, by decide⟩
  have hset : ∀ k l, l.length ≤ 100000 → (Ed.setT s k l).length ≤ 17 ∧ ∀ x ∈ Ed.setT s k l, x.f.length ≤ 9223372036854775807 ∧ x.l.length ≤ 100000 := fun k l hl => by
    unfold Ed.setT
    refine ⟨by rw [List.length_set]; omega, fun x hx => ?_⟩
    rcases List.mem_or_eq_of_mem_set hx with hx | rfl
    · exact h0 x hx
    · have := hg k; exact ⟨by simp only; omega, hl⟩
  unfold Ed.edit at h
  repeat' split at h
  all_goals first | cases h | skip
  · exact ⟨by simp only; omega, h0⟩
  · exact hset _ _ (by have := hg e.at_.toNat; simp only [List.length_append, List.length_cons, List.length_nil]; omega)
  · exact hset _ _ hf
  · refine ⟨by simp only [List.length_append, List.length_take, List.length_cons, List.length_drop]; omega, fun x hx => ?_⟩
    rcases List.mem_append.1 hx with hx | hx
    · exact h0 x (List.mem_of_mem_take hx)
    · rcases List.mem_cons.1 hx with rfl | hx
      · have := hg e.at_.toNat; exact ⟨hk, by simp only; omega⟩
      · exact h0 x (List.mem_of_mem_drop hx)
  · refine ⟨by simp only [List.length_append, List.length_take, List.length_cons, List.length_drop]; omega, fun x hx => ?_⟩
    rcases List.mem_append.1 hx with hx | hx
    · exact h0 x (List.mem_of_mem_take hx)
    · rcases List.mem_cons.1 hx with rfl | hx
      · have h1 := hg e.at_.toNat
        have h2 := hg (e.at_.toNat + 1)
        have h3 := uni_len ((s.T.getD e.at_.toNat Ed.tb0).l ++ (s.T.getD (e.at_.toNat + 1) Ed.tb0).l)
        simp only [List.length_append] at h3
        exact ⟨by simp only; omega, by simp only; omega⟩
      · exact h0 x (List.mem_of_mem_drop hx)
theorem rtsOk_of {Rk : List Rt} {T : List Ed.Tb} (h : tbs Rk = T) (hT : T.length ≤ 17 ∧ ∀ x ∈ T, x.f.length ≤ 9223372036854775807 ∧ x.l.length ≤ 100000) : RtsOk Rk := by
  have hn : Rk.length = T.length := by rw [← h, tbs_length]
  have hm : ∀ r, r ∈ Rk → r.tb ∈ T := fun r hr => by rw [← h]; exact List.mem_map_of_mem hr
  exact ⟨by omega, fun r hr => (hT.2 _ (hm r hr)).1, fun r hr => by have := (hT.2 _ (hm r hr)).2; simp only [Rt.tb] at this; omega⟩
theorem load_ed {C : Array Value} (hC : C.size = 5) {w : World} {g : Nat} (h : BkIn C 27 w g) : (loadVar 27 ⟨g, 0, none⟩).run Try.prog w = .ok (.agg C) w :=
  run_loadVar_row w g _ _ C (0, 0) _ h Try.underlying27 rfl (by rw [hC]; kernel_rfl)
abbrev stZ : Array Value := #[.slice none 0 0, .int .i64 0, .int .i64 0]
set_option maxHeartbeats 4000000 in
set_option maxRecDepth 100000 in
theorem apply16_any (Rs : List Rt) (hR : RtsOk Rs) (ao : Option Addr) (cap : Nat) (log next : Int) (y : Re) (hfl : y.fs.length ≤ 100000) (hkl : y.key.length ≤ 9223372036854775807) (hfi : ∀ n ∈ y.fs, -9223372036854775808 ≤ n ∧ n ≤ 9223372036854775807) (w : World) (h : TbsAt w ao Rs) (hN : NsAt w y.o y.fs) :
    Calls Try.prog 12 #[stV ao Rs.length cap log next, .agg (edA y)] w (ApplyR ⟨tbs Rs, log, next⟩ y w) := by
  obtain ⟨w2, hw2⟩ : ∃ x, x = ((w.alloc (.cells (stA ao Rs.length cap log next) 24)).alloc (.cells (edA y) 27)).alloc (.cells #[.slice none 0 0, .int .i64 0, .int .i64 0] 24) := ⟨_, rfl⟩
  have hb2 : Below w.heap.size w w2 := by rw [hw2]; exact (bel_two _ _ _).alloc (bel_two _ _ _).size _
  have hsz : w2.heap.size = w.heap.size + 3 := by rw [hw2]; simp
  have HS := Lib.hid (show BkIn (stA ao Rs.length cap log next) 24 w2 w.heap.size from by rw [hw2]; exact ((bkIn_new _ _ w).below ((Below.refl _ _).alloc (Nat.le_refl _) _)).below ((Below.refl _ _).alloc (Nat.le_refl _) _))
  have HE := Lib.hid (show BkIn (edA y) 27 w2 (w.heap.size + 1) from by rw [hw2]; have := (bkIn_new (edA y) 27 (w.alloc (.cells (stA ao Rs.length cap log next) 24))).below ((Below.refl _ _).alloc (Nat.le_refl _) (.cells #[.slice none 0 0, .int .i64 0, .int .i64 0] 24)); simpa using this)
  have HZ := Lib.hid (show BkIn #[.slice none 0 0, .int .i64 0, .int .i64 0] 24 w2 (w.heap.size + 1 + 1) from by rw [hw2]; have := bkIn_new #[.slice none 0 0, .int .i64 0, .int .i64 0] 24 ((w.alloc (.cells (stA ao Rs.length cap log next) 24)).alloc (.cells (edA y) 27)); simpa using this)
  have HB := Lib.hid hb2
  have HA := Lib.hid h
  have HN := Lib.hid hN
  have HR := Lib.hid hR
  have CK := Lib.hid (check16_any Rs hR ao cap log next w2 (h.below hb2))
  have HSZ := Lib.hid hsz
  clear h hN hR hb2 hsz
  unfold stV at CK ⊢
  unfold stA at hw2
  go_enter Try.func12, Try.ntmps12
  go_wp2_with fail
  rw [← hw2]
  with_reducible refine (CK.out).mono ?_
  rintro e w3 ⟨bb, rfl, hbb, hb3⟩
  have HS3 := Lib.hid (HS.out.below hb3)
  have HE3 := Lib.hid (HE.out.below hb3)
  have HZ3 := Lib.hid (HZ.out.below hb3)
  have HB3 := Lib.hid (HB.out.trans (hb3.mono HB.out.size))
  have HG3 := Lib.hid (show w.heap.size + 3 ≤ w3.heap.size from by have := hb3.size; have := HSZ.out; omega)
  have e2 : w3.cell? ⟨w.heap.size + 1, 2, none⟩ = some (.int .i64 y.file) := HE3.out.cell 2
  clear hb3 hw2 CK HS HE HZ HB HSZ
  by_cases hok : Ed.Ok ⟨tbs Rs, log, next⟩ ∧ 0 ≤ y.file ∧ y.file < 2147483647
  · obtain ⟨ho, hf1, hf2⟩ := hok
    obtain rfl : bb = true := hbb.2 ho
    have d1 : decide (y.file < 0) = false := decide_eq_false (by omega)
    have d2 : decide (2147483647 ≤ y.file) = false := decide_eq_false (by omega)
    have hsm := Ok.small ho
    have HO := Lib.hid ho
    have s0 : w3.cell? ⟨w.heap.size, 0, none⟩ = some (.slice ao Rs.length cap) := HS3.out.cell 0
    have s1 : w3.cell? ⟨w.heap.size, 1, none⟩ = some (.int .i64 log) := HS3.out.cell 1
    have s2 : w3.cell? ⟨w.heap.size, 2, none⟩ = some (.int .i64 next) := HS3.out.cell 2
    have CL := Lib.hid (clone16_any Rs hsm.1 hsm.2.1 (fun r hr => by have := (hsm.2.2 r hr).2; omega) ao cap log next w3 (HA.out.below HB3.out))
    have HSM := Lib.hid hsm
    have HF := Lib.hid (And.intro hf1 hf2)
    unfold stV at CL
    clear hbb ho hsm hf1 hf2
    go_wp2_with fail
    with_reducible refine (CL.out).mono ?_
    rintro e w4 ⟨Rk, g, c, rfl, hcl⟩
    have HS4 := Lib.hid (HS3.out.below hcl.bel)
    have HE4 := Lib.hid (HE3.out.below hcl.bel)
    have HZ4 := Lib.hid (HZ3.out.below hcl.bel)
    have HC4 := Lib.hid (hcl.rebase HB3.out)
    have HG4 := Lib.hid (show w3.heap.size ≤ g from (hcl.row.lt g rfl).1)
    clear hcl CL HS3 HE3 HZ3 e2 s0 s1 s2 d1 d2
    obtain ⟨kind, at_, file, fs, fo, fk, key⟩ := y
    go_wp2_with (refine wpList_store_row rfl 24 _ _ rfl w.heap.size _ rfl rfl 24 _ HS4.out infoSt_size rfl (by simp [Value.oneCell']) ?_; have HX5 := Lib.hid (HS4.out.rowPut #[.slice (some ⟨g, 0, none⟩) Rs.length c, .int .i64 log, .int .i64 next]); have HE5 := Lib.hid (HE4.out.rowOther (G := w.heap.size) (by omega) #[.slice (some ⟨g, 0, none⟩) Rs.length c, .int .i64 log, .int .i64 next]); have HZ5 := Lib.hid (HZ4.out.rowOther (G := w.heap.size) (by omega) #[.slice (some ⟨g, 0, none⟩) Rs.length c, .int .i64 log, .int .i64 next]); have HC5 := Lib.hid (HC4.out.rowPut (b := w.heap.size) (by have := HG3.out; have := HG4.out; omega) (Nat.le_refl _) #[.slice (some ⟨g, 0, none⟩) Rs.length c, .int .i64 log, .int .i64 next] HS4.out (by decide)); generalize w4.setRow w.heap.size #[.slice (some ⟨g, 0, none⟩) Rs.length c, .int .i64 log, .int .i64 next] = w5 at *; have y0 : w5.cell? ⟨w.heap.size + 1, 0, none⟩ = some (.int .i64 kind) := HE5.out.cell 0; have y1 : w5.cell? ⟨w.heap.size + 1, 1, none⟩ = some (.int .i64 at_) := HE5.out.cell 1; have y2 : w5.cell? ⟨w.heap.size + 1, 2, none⟩ = some (.int .i64 file) := HE5.out.cell 2; have y3 : w5.cell? ⟨w.heap.size + 1, 3, none⟩ = some (.slice fo fs.length fk) := HE5.out.cell 3; have y4 : w5.cell? ⟨w.heap.size + 1, 4, none⟩ = some (.string (S key)) := HE5.out.cell 4)
    have CE := Lib.hid (edit16_any w w.heap.size g c Rs Rk log next HSM.out.2.1 (fun r hr => by
      obtain ⟨r', h1, _, h3⟩ := same_mem HC5.out.same hr
      have := (HSM.out.2.2 r' h1).2
      rw [← h3]; omega) ⟨kind, at_, file, fs, fo, fk, key⟩ HF.out hfl hfi HN.out w5 ⟨HC5.out, HX5.out, Nat.le_refl _, by have := HG3.out; have := HG4.out; omega⟩)
    unfold edA at CE
    simp only at CE
    rw [HC5.out.same] at CE
    with_reducible refine (CE.out).mono ?_
    rintro e w6 (⟨h1, rfl, hbel, hkp⟩ | ⟨⟨T6, lg, nx⟩, n', h1, rfl, ⟨hout, hkp⟩, hq⟩)
    · have HZ6 := Lib.hid (hkp _ _ (by omega) HZ5.out)
      have HB6 := Lib.hid hbel
      have HAP := Lib.hid (apply_none h1)
      clear h1 hbel hkp CE y0 y1 y2 y3 y4 HX5 HE5 HZ5 HC5 HS4 HE4 HZ4 HC4
      go_wp2_with (refine wpList_store_row rfl 24 _ _ rfl (w.heap.size + 1 + 1) _ rfl rfl 24 _ HZ6.out infoSt_size rfl (by simp [Value.oneCell']) ?_)
      exact bodyPost_ret (ret_st2 rfl _ _ (w.heap.size + 1 + 1) rfl (load_st rfl (HZ6.out.rowPut stZ))) rfl ⟨below_row16 HB6.out (by omega) _, .inr ⟨HAP.out, rfl⟩⟩
    · simp only at hout hq
      have HZ6 := Lib.hid (hkp _ _ (by omega) HZ5.out)
      obtain ⟨R6, g6, c6, hX6, hO6, htb⟩ := hout
      have hts := edit_small (s := ⟨tbs Rs, log, next⟩) ⟨by simp only [tbs_length]; exact HSM.out.2.1, fun x hx => by
        obtain ⟨r, hr, rfl⟩ := List.mem_map.1 hx
        exact HSM.out.2.2 r hr⟩ hfl hkl h1
      have CK6 := Lib.hid (check16_any R6 (rtsOk_of htb hts) (some ⟨g6, 0, none⟩) c6 lg n' w6 hO6.at_)
      have HX6 := Lib.hid hX6
      have HO6 := Lib.hid hO6
      have HTB := Lib.hid htb
      have HAP := Lib.hid (apply_some (e := (⟨kind, at_, file, fs, fo, fk, key⟩ : Re).ed) ⟨HO.out, HF.out.1, HF.out.2⟩ h1)
      have HQ := Lib.hid hq
      have s0 : w6.cell? ⟨w.heap.size, 0, none⟩ = some (.slice (some ⟨g6, 0, none⟩) R6.length c6) := HX6.out.cell 0
      have s1 : w6.cell? ⟨w.heap.size, 1, none⟩ = some (.int .i64 lg) := HX6.out.cell 1
      have s2 : w6.cell? ⟨w.heap.size, 2, none⟩ = some (.int .i64 n') := HX6.out.cell 2
      unfold stV at CK6
      clear h1 hkp CE y0 y1 y2 y3 y4 HX5 HE5 HZ5 HC5 HS4 HE4 HZ4 HC4 hX6 hO6 htb hq hts
      go_wp2_with fail
      with_reducible refine (CK6.out).mono ?_
      rintro e w7 ⟨b7, rfl, hbw, hb7⟩
      have HZ7 := Lib.hid (HZ6.out.below hb7)
      have HX7 := Lib.hid (HX6.out.below hb7)
      have HO7 := Lib.hid (HO6.out.below hb7)
      clear hb7 CK6 HZ6 HX6 HO6 s0 s1 s2
      rw [HTB.out] at hbw
      cases b7 with
      | false =>
        have HNO := Lib.hid (show Ed.apply ⟨tbs Rs, log, next⟩ (⟨kind, at_, file, fs, fo, fk, key⟩ : Re).ed = none from HAP.out.trans (if_neg (fun h => by
          rcases HQ.out with rfl | h2
          · exact nomatch hbw.2 h
          · exact h2.1 h)))
        clear hbw
        go_wp2_with (refine wpList_store_row rfl 24 _ _ rfl (w.heap.size + 1 + 1) _ rfl rfl 24 _ HZ7.out infoSt_size rfl (by simp [Value.oneCell']) ?_)
        exact bodyPost_ret (ret_st2 rfl _ _ (w.heap.size + 1 + 1) rfl (load_st rfl (HZ7.out.rowPut stZ))) rfl ⟨below_row16 HO7.out.bel (by omega) _, .inr ⟨HNO.out, rfl⟩⟩
      | true =>
        have hok7 := hbw.1 rfl
        obtain rfl : n' = nx := by
          rcases HQ.out with h2 | h2
          · exact h2
          · exact absurd hok7 h2.2
        have HYES := Lib.hid (HAP.out.trans (if_pos hok7))
        have s0 : w7.cell? ⟨w.heap.size, 0, none⟩ = some (.slice (some ⟨g6, 0, none⟩) R6.length c6) := HX7.out.cell 0
        have s1 : w7.cell? ⟨w.heap.size, 1, none⟩ = some (.int .i64 lg) := HX7.out.cell 1
        have s2 : w7.cell? ⟨w.heap.size, 2, none⟩ = some (.int .i64 n') := HX7.out.cell 2
        clear hok7 hbw HQ
        go_wp2_with (refine wpList_store_row rfl 24 _ _ rfl (w.heap.size + 1 + 1) _ rfl rfl 24 _ HZ7.out infoSt_size rfl (by simp [Value.oneCell']) ?_)
        exact bodyPost_ret (ret_st2 rfl _ _ (w.heap.size + 1 + 1) rfl (load_st rfl (HZ7.out.rowPut _))) rfl ⟨below_row16 HO7.out.bel (by omega) _, .inl ⟨_, R6, g6, c6, HYES.out, rfl, HO7.out.rowSt HZ7.out (by omega) _, HTB.out⟩⟩
  · have HNO := Lib.hid (apply_bad (e := y.ed) hok)
    cases bb with
    | false =>
      clear hbb e2 hok
      go_wp2_with (refine wpList_store_row rfl 24 _ _ rfl (w.heap.size + 1 + 1) _ rfl rfl 24 _ HZ3.out infoSt_size rfl (by simp [Value.oneCell']) ?_)
      exact bodyPost_ret (ret_st2 rfl _ _ (w.heap.size + 1 + 1) rfl (load_st rfl (HZ3.out.rowPut stZ))) rfl ⟨below_row16 HB3.out (by omega) _, .inr ⟨HNO.out, rfl⟩⟩
    | true =>
      have ho := hbb.1 rfl
      by_cases q1 : y.file < 0
      · have d1 : decide (y.file < 0) = true := decide_eq_true q1
        clear hbb hok ho
        go_wp2_with (refine wpList_store_row rfl 24 _ _ rfl (w.heap.size + 1 + 1) _ rfl rfl 24 _ HZ3.out infoSt_size rfl (by simp [Value.oneCell']) ?_)
        exact bodyPost_ret (ret_st2 rfl _ _ (w.heap.size + 1 + 1) rfl (load_st rfl (HZ3.out.rowPut stZ))) rfl ⟨below_row16 HB3.out (by omega) _, .inr ⟨HNO.out, rfl⟩⟩
      · have d1 : decide (y.file < 0) = false := decide_eq_false q1
        have d2 : decide (2147483647 ≤ y.file) = true := decide_eq_true (by
          rcases Int.lt_or_le y.file 2147483647 with q | q
          · exact absurd ⟨ho, by omega, q⟩ hok
          · exact q)
        clear hbb hok ho
        go_wp2_with (refine wpList_store_row rfl 24 _ _ rfl (w.heap.size + 1 + 1) _ rfl rfl 24 _ HZ3.out infoSt_size rfl (by simp [Value.oneCell']) ?_)
        exact bodyPost_ret (ret_st2 rfl _ _ (w.heap.size + 1 + 1) rfl (load_st rfl (HZ3.out.rowPut stZ))) rfl ⟨below_row16 HB3.out (by omega) _, .inr ⟨HNO.out, rfl⟩⟩

end Go.Proofs.Ytfcmjgcjmldpcaa
