/- Layer 5: Rename. -/
import Derived.Test.YtekmnpmeienhhaaDiskU
namespace Go.Proofs.Ytekmnpmeienhhaa
set_option linter.unusedVariables false
open Go Go.RowKit Go.Maps

namespace Dk
theorem del_del (a b : List UInt8) (L : List Fl) : del a (del b L) = del b (del a L) := by
  unfold del
  rw [List.filter_filter, List.filter_filter]
  congr 1
  funext f
  exact Bool.and_comm _ _
theorem del_idem (a : List UInt8) (L : List Fl) : del a (del a L) = del a L := by
  unfold del
  rw [List.filter_filter]
  congr 1
  funext f
  simp
theorem ren_eq {a b : List UInt8} (L : List Fl) (h : a ≠ b) : put ⟨b, (get a L).dat, (get a L).safe⟩ (del a (del b L)) = ren a b L := by
  unfold ren put
  rw [if_neg h]
  simp only
  rw [del_del a b L, del_idem]
theorem get_del {a b : List UInt8} {L : List Fl} (h : OkL L) (hab : a ≠ b) : get a (del b L) = get a L ∧ has a (del b L) = has a L := by
  have hh : has a (del b L) = has a L := by rw [has_del]; simp [hab]
  refine ⟨?_, hh⟩
  cases hx : has a L with
  | false => rw [get_none hx, get_none (by rw [hh]; exact hx)]
  | true =>
    obtain ⟨h1, h2⟩ := get_mem hx
    have h3 := get_of (h.del b).ne (mem_del.2 ⟨h1, by rw [h2]; exact hab⟩)
    rw [h2] at h3
    exact h3
theorem ren_size {a b : List UInt8} {L : List Fl} (h : OkL L) (hab : a ≠ b) (hh : has a L = true) : size (ren a b L) = size (del b L) := by
  rw [← ren_eq L hab]
  have h1 := size_put ((h.del b).del a) ⟨b, (get a L).dat, (get a L).safe⟩
  have h2 := size_del (nm := a) (h.del b).ne
  rw [(get_del h hab).1] at h2
  have h3 : get b (del a (del b L)) = fl0 := get_none (by rw [has_del, has_del]; simp)
  simp only at h1
  rw [h3] at h1
  simp only [fl0, List.length_nil] at h1
  omega
theorem ren_ok5 {D : St} (h : Ok D) {a b : List UInt8} (hn : named b = true) (hh : has a D.L = true) : Ok { D with L := ren a b D.L } := by
  by_cases hab : a = b
  · unfold ren
    rw [if_pos hab]
    exact with_ok5 h h.l h.few h.room
  · refine with_ok5 h ?_ ?_ ?_
    · rw [← ren_eq D.L hab]
      exact ((h.l.del b).del a).put hn (get_safe h.l a)
    · rw [← ren_eq D.L hab]
      have h1 := len_put ((h.l.del b).del a) ⟨b, (get a D.L).dat, (get a D.L).safe⟩
      have h2 := len_del (nm := a) (h.l.del b).ne
      rw [(get_del h.l hab).2, hh] at h2
      have h3 := len_del (nm := b) h.l.ne
      have h4 : has b (del a (del b D.L)) = false := by rw [has_del, has_del]; simp
      simp only at h1
      rw [h4] at h1
      have h5 := h.few
      simp at h1 h2
      omega
    · rw [ren_size h.l hab hh]
      have h3 := size_del (nm := b) h.l.ne
      have := h.room
      omega
end Dk
section
variable {B d mb : Nat} {V : List UInt8 → Value} {sv : Value} {c : Cs} {D' : Dk.St} {W3 : World} {F : Nat → Prop}
theorem rename_asm5 (hI : DkIn B d mb V sv c D' W3) (hO : Dk.Ok D') {L0 : List Dk.Fl} (hL : D'.L = L0) {nm to : List UInt8} (hne : nm ≠ to) {vo : Option Addr} {vc n : Nat} {w W4 w6 W7 w8 : World} (hvn : V nm = .slice vo (Dk.get nm L0).dat.length vc) (hh : Dk.has nm L0 = true) (hn : Dk.named to = true)
    (hC : DkCo B d mb V sv { D' with L := Dk.del to D'.L } W4) (hw : Wr (fun q => q = d ∨ q = mb) W3 W4) (ht6 : W4.mapTurned w6 mb) (hw7 : Wr (fun _ => False) w6 W7) (ht8 : W7.mapTurned w8 mb)
    (hmap : w8.ownsMap Try.prog 9 heldR mb n (datM (upV V to (.slice vo (Dk.get nm L0).dat.length vc)) (Dk.put ⟨to, (Dk.get nm L0).dat, (Dk.get nm L0).safe⟩ (Dk.del nm (Dk.del to L0)))))
    (hs : w.heap.size ≤ W3.heap.size) (hB : B ≤ w.heap.size) (hF : ∀ b, F b → B ≤ b ∧ b < w.heap.size) (hFt : ∀ b, Ft d mb V c D' b → F b) (hW : Wr F w W3) :
    DkAt B (gr F w w8) d { D' with L := Dk.ren nm to L0 } w8 ∧ Wr F w w8 := by
  subst hL
  have hco := hI.co
  have hw48 : Wr (fun q => q = mb) W4 w8 := ((wr_turned (A := fun q => q = mb) ht6 rfl).step hw7 (fun x hx => hx.elim)).step (wr_turned (A := fun q => q = mb) ht8 rfl) (fun x hx => .inl hx)
  have hw38 : Wr (fun q => q = d ∨ q = mb) W3 w8 := hw.step hw48 (fun x hx => .inl (.inr hx))
  obtain ⟨hg1, hg2⟩ := Dk.get_mem hh
  have hrow := hco.row _ hg1
  rw [hg2, hvn] at hrow
  have hbl : ∀ q, (Value.slice vo (Dk.get nm D'.L).dat.length vc).ownBlock = some q → (V (Dk.get nm D'.L).name).ownBlock = some q := fun q hq => by rw [hg2, hvn]; exact hq
  -- the disk without both
  have hD2 : DkCo B d mb V sv { D' with L := Dk.del to D'.L } W4 := hC
  have hren := Dk.ren_eq D'.L hne
  have hrs := Dk.ren_size hO.l hne hh
  have h1 : DkCo B d mb (upV V to (.slice vo (Dk.get nm D'.L).dat.length vc)) sv { D' with L := Dk.ren nm to D'.L } w8 := by
    refine ⟨?_, ?_, fun g hg => ?_, fun g hg g' hg' hgn q hq hq' => ?_⟩
    · have h2 := hC.box.wr hw48 (fun e => hC.ne e.symm)
      unfold dkC at h2 ⊢
      simp only at h2 ⊢
      rw [hrs]
      exact h2
    · rw [hren] at hmap
      exact map_tight5 hmap (by rw [datM_size]; exact Nat.le_refl _)
    · have hg0 : g ∈ Dk.ren nm to D'.L := hg
      rw [← hren] at hg0
      rcases Dk.mem_put.1 hg0 with rfl | ⟨hm, hn'⟩
      · rw [upV_same]
        exact row_wr hrow hw38 (fun q hq => by
          have h2 := hco.rne hg1 (hbl q hq)
          rintro (e | e)
          · exact h2.1 e
          · exact h2.2.1 e)
      · rw [upV_other V _ hn']
        have hgm := (Dk.mem_del.1 (Dk.mem_del.1 hm).1).1
        exact row_wr (hco.row g hgm) hw38 (fun q hq => by
          have h2 := hco.rne hgm hq
          rintro (e | e)
          · exact h2.1 e
          · exact h2.2.1 e)
    · have hg0 : g ∈ Dk.ren nm to D'.L := hg
      have hg0' : g' ∈ Dk.ren nm to D'.L := hg'
      rw [← hren] at hg0 hg0'
      have key : ∀ x ∈ Dk.del nm (Dk.del to D'.L), ∀ q, (Value.slice vo (Dk.get nm D'.L).dat.length vc).ownBlock = some q → (V x.name).ownBlock ≠ some q := fun x hx q hq => by
        have hx1 := Dk.mem_del.1 hx
        exact hco.ap _ hg1 x (Dk.mem_del.1 hx1.1).1 (fun e => hx1.2 (e.symm.trans hg2)) q (hbl q hq)
      rcases Dk.mem_put.1 hg0 with e1 | ⟨hm, hn1⟩
      · rcases Dk.mem_put.1 hg0' with e2 | ⟨hm', hn2⟩
        · exact hgn (e1.trans e2.symm ▸ rfl)
        · rw [e1, upV_same] at hq
          rw [upV_other V _ hn2] at hq'
          exact key g' hm' q hq hq'
      · rw [upV_other V _ hn1] at hq
        rcases Dk.mem_put.1 hg0' with e2 | ⟨hm', hn2⟩
        · rw [e2, upV_same] at hq'
          exact key g hm q hq' hq
        · rw [upV_other V _ hn2] at hq'
          exact hco.ap g (Dk.mem_del.1 (Dk.mem_del.1 hm).1).1 g' (Dk.mem_del.1 (Dk.mem_del.1 hm').1).1 hgn q hq hq'
  have h2 : DkIn B d mb (upV V to (.slice vo (Dk.get nm D'.L).dat.length vc)) sv c { D' with L := Dk.ren nm to D'.L } w8 := h1.in (hI.setW hw38 (fun q hq => hq.elim .inl (fun e => .inr (.inl e))))
  refine ⟨h2.at (Dk.ren_ok5 hO hn hh) (Nat.le_trans hs hw38.size) hB hF (fun b hb => .inl ?_), hW.step hw38 (fun x hx => .inl (hFt x (hx.elim .inl (fun e => .inr (.inl e)))))⟩
  rcases hb with e | e | ⟨f, hf, hq⟩ | hx
  · exact hFt _ (.inl e)
  · exact hFt _ (.inr (.inl e))
  · have hf0 : f ∈ Dk.ren nm to D'.L := hf
    rw [← hren] at hf0
    rcases Dk.mem_put.1 hf0 with rfl | ⟨hm, hn1⟩
    · rw [upV_same] at hq
      exact hFt _ (.inr (.inr (.inl ⟨_, hg1, hbl b hq⟩)))
    · rw [upV_other V _ hn1] at hq
      exact hFt _ (.inr (.inr (.inl ⟨f, (Dk.mem_del.1 (Dk.mem_del.1 hm).1).1, hq⟩)))
  · exact hFt _ (.inr (.inr (.inr hx)))
end
section
variable {B d mb : Nat} {V : List UInt8 → Value} {sv : Value} {c : Cs} {D : Dk.St} {w : World} {F : Nat → Prop}
set_option maxRecDepth 100000 in
set_option maxHeartbeats 4000000 in
theorem rename_down5 (h : DkAt B F d D w) (hB : B ≤ w.heap.size) (nm to : List UInt8) (hl : nm.length ≤ 140737488351232) (hl2 : to.length ≤ 140737488351232) (hu : D.up = false) : Calls Try.prog 42 #[.pointer (some ⟨d, 0, none⟩), .string (S nm), .string (S to)] w (OpR B F d (Dk.rename nm to D) w) := by
  have HR := Lib.hid (fun w' (hb : Below w.heap.size w w') => show OpR B F d (Dk.rename nm to D) w (.returned (.int .i64 51)) w' from by
    have e : Dk.rename nm to D = (51, D) := by unfold Dk.rename; rw [if_pos hu]
    rw [e]; exact opR_same h hB hb 51)
  obtain ⟨hO, mb, V, sv, c, hI, hFt, hFB⟩ := h
  have CF := Lib.hid (find5 ⟨hO, mb, V, sv, c, hI, hFt, hFB⟩ hI nm hl)
  have hE : fndE nm D = 51 := by unfold fndE; rw [if_pos hu]
  have hV : fndV V nm D = .slice none 0 0 := by unfold fndV; rw [hE]; rfl
  have hS : fndS nm D = 0 := by unfold fndS; rw [hE]; rfl
  rw [hE, hV, hS] at CF
  clear hO hI hFt hFB hB hl hE hV hS hl2 hu
  go_enter Try.func42, Try.ntmps42
  go_wp2_with fail
  with_reducible refine CF.out.mono ?_
  rintro e w1 ⟨rfl, hb⟩
  have HB := Lib.hid hb
  clear hb
  go_wp2_with fail
  go_ret
  exact HR.out _ (HB.out.alloc HB.out.size _)
set_option maxRecDepth 100000 in
set_option maxHeartbeats 4000000 in
theorem rename_none5 (h : DkAt B F d D w) (hB : B ≤ w.heap.size) (nm to : List UInt8) (hl : nm.length ≤ 140737488351232) (hl2 : to.length ≤ 140737488351232) (hu : D.up = true) (hh : Dk.has nm D.L = false) : Calls Try.prog 42 #[.pointer (some ⟨d, 0, none⟩), .string (S nm), .string (S to)] w (OpR B F d (Dk.rename nm to D) w) := by
  have HR := Lib.hid (fun w' (hb : Below w.heap.size w w') => show OpR B F d (Dk.rename nm to D) w (.returned (.int .i64 4)) w' from by
    have e : Dk.rename nm to D = (4, D) := by unfold Dk.rename; rw [if_neg (by rw [hu]; simp), if_pos hh]
    rw [e]; exact opR_same h hB hb 4)
  obtain ⟨hO, mb, V, sv, c, hI, hFt, hFB⟩ := h
  have CF := Lib.hid (find5 ⟨hO, mb, V, sv, c, hI, hFt, hFB⟩ hI nm hl)
  have hE : fndE nm D = 4 := by unfold fndE; rw [if_neg (by rw [hu]; simp), if_pos hh]
  have hV : fndV V nm D = .slice none 0 0 := by unfold fndV; rw [hE]; rfl
  have hS : fndS nm D = 0 := by unfold fndS; rw [hE]; rfl
  rw [hE, hV, hS] at CF
  clear hO hI hFt hFB hB hl hE hV hS hl2 hu hh
  go_enter Try.func42, Try.ntmps42
  go_wp2_with fail
  with_reducible refine CF.out.mono ?_
  rintro e w1 ⟨rfl, hb⟩
  have HB := Lib.hid hb
  clear hb
  go_wp2_with fail
  go_ret
  exact HR.out _ (HB.out.alloc HB.out.size _)
set_option maxRecDepth 100000 in
set_option maxHeartbeats 4000000 in
theorem rename_bad5 (h : DkAt B F d D w) (hB : B ≤ w.heap.size) (nm to : List UInt8) (hl : nm.length ≤ 140737488351232) (hl2 : to.length ≤ 140737488351232) (hu : D.up = true) (hh : Dk.has nm D.L = true) (hn : Dk.named to = false) : Calls Try.prog 42 #[.pointer (some ⟨d, 0, none⟩), .string (S nm), .string (S to)] w (OpR B F d (Dk.rename nm to D) w) := by
  have HR := Lib.hid (fun w' (hb : Below w.heap.size w w') => show OpR B F d (Dk.rename nm to D) w (.returned (.int .i64 2)) w' from by
    have e : Dk.rename nm to D = (2, D) := by unfold Dk.rename; rw [if_neg (by rw [hu]; simp), if_neg (by rw [hh]; simp), if_pos hn]
    rw [e]; exact opR_same h hB hb 2)
  obtain ⟨hO, mb, V, sv, c, hI, hFt, hFB⟩ := h
  have CF := Lib.hid (find5 ⟨hO, mb, V, sv, c, hI, hFt, hFB⟩ hI nm hl)
  have hE : fndE nm D = 0 := by unfold fndE; rw [if_neg (by rw [hu]; simp), if_neg (by rw [hh]; simp)]
  have hV : fndV V nm D = V nm := by unfold fndV; rw [hE]; rfl
  have hS : fndS nm D = (Dk.get nm D.L).safe := by unfold fndS; rw [hE]; rfl
  rw [hE, hV, hS] at CF
  obtain ⟨vo, vc, hv⟩ := row_shape5 (hI.vrow nm)
  have hvr := hI.vrow nm
  rw [hv] at hvr
  have hvn : V nm = .slice vo (Dk.get nm D.L).dat.length vc := by rw [← hv]; exact (if_pos hh).symm
  rw [hvn] at CF
  have HO := Lib.hid hO
  have HI := Lib.hid hI
  have HFT := Lib.hid hFt
  have HFB := Lib.hid hFB
  have HBs := Lib.hid hB
  have HL := Lib.hid hl
  have HVN := Lib.hid hvn
  have HHH := Lib.hid hh
  have HBD := Lib.hid (show B ≤ d from (hFB d (hFt d (.inl rfl))).1)
  have HBM := Lib.hid (show B ≤ mb from (hFB mb (hFt mb (.inr (.inl rfl)))).1)
  have hgz := Dk.get_size hO.l nm
  have hrm := hO.room
  have hms := hO.most
  have hfw := hO.few
  have CN := Lib.hid (fun W => named5 to hl2 W)
  rw [hn] at CN
  clear hO hI hFt hFB hB hv hvr hl hl2 hu hh hE hV hS hvn hn
  go_enter Try.func42, Try.ntmps42
  go_wp2_with fail
  with_reducible refine CF.out.mono ?_
  rintro e w1 ⟨rfl, hb⟩
  have HB1 := Lib.hid hb
  clear hb CF
  go_wp2_with fail
  with_reducible refine (CN.out _).mono ?_
  rintro e w2 ⟨rfl, rfl⟩
  go_wp2_with fail
  go_ret
  exact HR.out _ (HB1.out.alloc HB1.out.size _)
set_option maxRecDepth 100000 in
set_option maxHeartbeats 4000000 in
theorem rename_same5 (h : DkAt B F d D w) (hB : B ≤ w.heap.size) (nm to : List UInt8) (hl : nm.length ≤ 140737488351232) (hl2 : to.length ≤ 140737488351232) (hu : D.up = true) (hh : Dk.has nm D.L = true) (hn : Dk.named to = true) (hsame : nm = to) : Calls Try.prog 42 #[.pointer (some ⟨d, 0, none⟩), .string (S nm), .string (S to)] w (OpR B F d (Dk.rename nm to D) w) := by
  have HE := Lib.hid (show Dk.rename nm to D = if (Dk.struck D).1 then (51, (Dk.struck D).2) else (0, { (Dk.struck D).2 with L := Dk.ren nm to D.L }) from by unfold Dk.rename; rw [if_neg (by rw [hu]; simp), if_neg (by rw [hh]; simp), if_neg (by rw [hn]; simp)])
  obtain ⟨hO, mb, V, sv, c, hI, hFt, hFB⟩ := h
  have CF := Lib.hid (find5 ⟨hO, mb, V, sv, c, hI, hFt, hFB⟩ hI nm hl)
  have hE : fndE nm D = 0 := by unfold fndE; rw [if_neg (by rw [hu]; simp), if_neg (by rw [hh]; simp)]
  have hV : fndV V nm D = V nm := by unfold fndV; rw [hE]; rfl
  have hS : fndS nm D = (Dk.get nm D.L).safe := by unfold fndS; rw [hE]; rfl
  rw [hE, hV, hS] at CF
  obtain ⟨vo, vc, hv⟩ := row_shape5 (hI.vrow nm)
  have hvr := hI.vrow nm
  rw [hv] at hvr
  have hvn : V nm = .slice vo (Dk.get nm D.L).dat.length vc := by rw [← hv]; exact (if_pos hh).symm
  rw [hvn] at CF
  have HO := Lib.hid hO
  have HI := Lib.hid hI
  have HFT := Lib.hid hFt
  have HFB := Lib.hid hFB
  have HBs := Lib.hid hB
  have HL := Lib.hid hl
  have HVN := Lib.hid hvn
  have HHH := Lib.hid hh
  have HBD := Lib.hid (show B ≤ d from (hFB d (hFt d (.inl rfl))).1)
  have HBM := Lib.hid (show B ≤ mb from (hFB mb (hFt mb (.inr (.inl rfl)))).1)
  have hgz := Dk.get_size hO.l nm
  have hrm := hO.room
  have hms := hO.most
  have hfw := hO.few
  have CN := Lib.hid (fun W => named5 to hl2 W)
  rw [hn] at CN
  subst hsame
  have HRN := Lib.hid (show Dk.ren nm nm D.L = D.L from by unfold Dk.ren; rw [if_pos rfl])
  clear hO hI hFt hFB hB hv hvr hl hl2 hu hh hE hV hS hvn hn
  go_enter Try.func42, Try.ntmps42
  go_wp2_with fail
  with_reducible refine CF.out.mono ?_
  rintro e w1 ⟨rfl, hb⟩
  have HB1 := Lib.hid hb
  clear hb CF
  go_wp2_with fail
  with_reducible refine (CN.out _).mono ?_
  rintro e w2 ⟨rfl, rfl⟩
  go_wp2_with fail
  have HX := Lib.hid (bk_new #[.slice vo (Dk.get nm D.L).dat.length vc, .int .i64 (Dk.get nm D.L).safe] 93 w1)
  have HB2 := Lib.hid (show Below w.heap.size w (w1.alloc (.cells #[.slice vo (Dk.get nm D.L).dat.length vc, .int .i64 (Dk.get nm D.L).safe] 93)) from HB1.out.alloc HB1.out.size _)
  have HXW := Lib.hid (show w.heap.size ≤ w1.heap.size from HB1.out.size)
  generalize (w1.alloc (.cells #[.slice vo (Dk.get nm D.L).dat.length vc, .int .i64 (Dk.get nm D.L).safe] 93)) = W2 at *
  generalize w1.heap.size = X at *
  clear HB1
  have CK := Lib.hid (struck5 (HI.out.below HB2.out) HBD.out HBM.out HO.out)
  with_reducible refine CK.out.mono ?_
  rintro e W3 ⟨rfl, hR, hW3⟩
  have HRA := Lib.hid (strR_at ⟨rfl, hR, hW3⟩ HO.out HB2.out.size HBs.out HFB.out (fun b hb => .inl (HFT.out b hb)))
  have HRW := Lib.hid (strR_wr ⟨rfl, hR, hW3⟩ (wr_below HB2.out) (fun b hb => .inl (HFT.out b hb)))
  obtain ⟨V3, sv3, hI3, hV3, hV4⟩ := hR
  have HI3 := Lib.hid hI3
  have HV3 := Lib.hid hV3
  have HV4 := Lib.hid hV4
  have HW3 := Lib.hid hW3
  clear hI3 hV3 hV4 hW3 CK
  have HKP := Lib.hid (fun hq => Dk.struck_keep (D := D) hq)
  generalize hst : (Dk.struck D).1 = bb at *
  clear hst
  cases bb with
  | true =>
    go_wp2_with fail
    go_ret
    refine ⟨?_, ?_, HRW.out⟩
    · rw [HE.out]; rfl
    · rw [HE.out]; exact HRA.out
  | false =>
    have HDL := Lib.hid (HKP.out rfl).1
    go_wp2_with fail
    go_ret
    have HEQ := Lib.hid (show ({ (Dk.struck D).2 with L := Dk.ren nm nm D.L } : Dk.St) = (Dk.struck D).2 from by rw [HRN.out, ← HDL.out])
    refine ⟨?_, ?_, HRW.out⟩
    · rw [HE.out]; rfl
    · rw [HE.out]; show DkAt B (gr F w W3) d { (Dk.struck D).2 with L := Dk.ren nm nm D.L } W3; rw [HEQ.out]; exact HRA.out
set_option maxRecDepth 100000 in
set_option maxHeartbeats 4000000 in
theorem rename_ok5 (h : DkAt B F d D w) (hB : B ≤ w.heap.size) (nm to : List UInt8) (hl : nm.length ≤ 140737488351232) (hl2 : to.length ≤ 140737488351232) (hu : D.up = true) (hh : Dk.has nm D.L = true) (hn : Dk.named to = true) (hne : nm ≠ to) : Calls Try.prog 42 #[.pointer (some ⟨d, 0, none⟩), .string (S nm), .string (S to)] w (OpR B F d (Dk.rename nm to D) w) := by
  have HE := Lib.hid (show Dk.rename nm to D = if (Dk.struck D).1 then (51, (Dk.struck D).2) else (0, { (Dk.struck D).2 with L := Dk.ren nm to D.L }) from by unfold Dk.rename; rw [if_neg (by rw [hu]; simp), if_neg (by rw [hh]; simp), if_neg (by rw [hn]; simp)])
  obtain ⟨hO, mb, V, sv, c, hI, hFt, hFB⟩ := h
  have CF := Lib.hid (find5 ⟨hO, mb, V, sv, c, hI, hFt, hFB⟩ hI nm hl)
  have hE : fndE nm D = 0 := by unfold fndE; rw [if_neg (by rw [hu]; simp), if_neg (by rw [hh]; simp)]
  have hV : fndV V nm D = V nm := by unfold fndV; rw [hE]; rfl
  have hS : fndS nm D = (Dk.get nm D.L).safe := by unfold fndS; rw [hE]; rfl
  rw [hE, hV, hS] at CF
  obtain ⟨vo, vc, hv⟩ := row_shape5 (hI.vrow nm)
  have hvr := hI.vrow nm
  rw [hv] at hvr
  have hvn : V nm = .slice vo (Dk.get nm D.L).dat.length vc := by rw [← hv]; exact (if_pos hh).symm
  rw [hvn] at CF
  have HO := Lib.hid hO
  have HI := Lib.hid hI
  have HFT := Lib.hid hFt
  have HFB := Lib.hid hFB
  have HBs := Lib.hid hB
  have HL := Lib.hid hl
  have HVN := Lib.hid hvn
  have HHH := Lib.hid hh
  have HBD := Lib.hid (show B ≤ d from (hFB d (hFt d (.inl rfl))).1)
  have HBM := Lib.hid (show B ≤ mb from (hFB mb (hFt mb (.inr (.inl rfl)))).1)
  have hgz := Dk.get_size hO.l nm
  have hrm := hO.room
  have hms := hO.most
  have hfw := hO.few
  have CN := Lib.hid (fun W => named5 to hl2 W)
  rw [hn] at CN
  have HNE := Lib.hid hne
  have q1 : (nm == to) = false := by simpa using hne
  have q2 : (nm != to) = true := by simpa using hne
  have HNT := Lib.hid hn
  have HL2 := Lib.hid hl2
  clear hO hI hFt hFB hB hv hvr hl hl2 hu hh hE hV hS hvn hn hne
  go_enter Try.func42, Try.ntmps42
  go_wp2_with fail
  with_reducible refine CF.out.mono ?_
  rintro e w1 ⟨rfl, hb⟩
  have HB1 := Lib.hid hb
  clear hb CF
  go_wp2_with fail
  with_reducible refine (CN.out _).mono ?_
  rintro e w2 ⟨rfl, rfl⟩
  go_wp2_with fail
  have HX := Lib.hid (bk_new #[.slice vo (Dk.get nm D.L).dat.length vc, .int .i64 (Dk.get nm D.L).safe] 93 w1)
  have HB2 := Lib.hid (show Below w.heap.size w (w1.alloc (.cells #[.slice vo (Dk.get nm D.L).dat.length vc, .int .i64 (Dk.get nm D.L).safe] 93)) from HB1.out.alloc HB1.out.size _)
  have HXW := Lib.hid (show w.heap.size ≤ w1.heap.size from HB1.out.size)
  generalize (w1.alloc (.cells #[.slice vo (Dk.get nm D.L).dat.length vc, .int .i64 (Dk.get nm D.L).safe] 93)) = W2 at *
  generalize w1.heap.size = X at *
  clear HB1
  have CK := Lib.hid (struck5 (HI.out.below HB2.out) HBD.out HBM.out HO.out)
  with_reducible refine CK.out.mono ?_
  rintro e W3 ⟨rfl, hR, hW3⟩
  have HRA := Lib.hid (strR_at ⟨rfl, hR, hW3⟩ HO.out HB2.out.size HBs.out HFB.out (fun b hb => .inl (HFT.out b hb)))
  have HRW := Lib.hid (strR_wr ⟨rfl, hR, hW3⟩ (wr_below HB2.out) (fun b hb => .inl (HFT.out b hb)))
  obtain ⟨V3, sv3, hI3, hV3, hV4⟩ := hR
  have HI3 := Lib.hid hI3
  have HV3 := Lib.hid hV3
  have HV4 := Lib.hid hV4
  have HW3 := Lib.hid hW3
  clear hI3 hV3 hV4 hW3 CK
  have HKP := Lib.hid (fun hq => Dk.struck_keep (D := D) hq)
  generalize hst : (Dk.struck D).1 = bb at *
  clear hst
  cases bb with
  | true =>
    go_wp2_with fail
    go_ret
    refine ⟨?_, ?_, HRW.out⟩
    · rw [HE.out]; rfl
    · rw [HE.out]; exact HRA.out
  | false =>
    have HV5 := Lib.hid (HV4.out rfl)
    rw [HV5.out] at HI3
    clear HV4 HV5 HV3 HRA
    have HDL := Lib.hid (HKP.out rfl).1
    have HDR := Lib.hid (HKP.out rfl).2
    have HOK3 := Lib.hid (Dk.struck_ok5 HO.out)
    have HFT3 := Lib.hid (show ∀ b, Ft d mb V c (Dk.struck D).2 b → F b from fun b hb => HFT.out b (ft_struck (fun _ => rfl) hb))
    have HSZ3 := Lib.hid (show w.heap.size ≤ W3.heap.size from Nat.le_trans HB2.out.size HW3.out.size)
    have HX3 := Lib.hid (HX.out.wr HW3.out (fun hq => by
      rcases hq with e | e | ⟨h1, e⟩
      · have := HI.out.box.lt; have := HXW.out; omega
      · have := HI.out.map.lt; have := HXW.out; omega
      · have h2 := HI.out.set
        cases hs : D.set with
        | none => exact h1 hs
        | some p =>
          rw [hs] at h2
          have := h2.2.1.lt; have := HXW.out; omega))
    go_wp2_with fail
    have CD := Lib.hid (drop5 HI3.out.co HOK3.out.l (by rw [HDL.out]; omega) to HL2.out)
    with_reducible refine CD.out.mono ?_
    rintro e W4 ⟨rfl, hC, hW4⟩
    have HC4 := Lib.hid hC
    have HW4 := Lib.hid hW4
    have HX4 := Lib.hid (HX3.out.wr hW4 (fun hq => by
      have := HI.out.box.lt; have := HI.out.map.lt; have := HXW.out
      rcases hq with e | e <;> omega))
    clear hC hW4 CD
    have m2 : W4.cell? ⟨d, 2, none⟩ = some (.map (some mb)) := HC4.out.box.cell 2
    have HM4 := Lib.hid HC4.out.map
    go_wp2_with (at_delete; refine wpList_delete_own _ rfl _ _ 41 9 rfl 93 law5 Try.underlying41 heldR mb _ _ rfl HM4.out _ _ rfl (key5 HL.out) ?_; intro w6 hm6 ht6; rw [datM_del] at hm6; have HM6 := Lib.hid hm6; have HT6 := Lib.hid ht6; clear hm6 ht6)
    have HX6 := Lib.hid (HX4.out.wr (wr_turned (A := fun q => q = mb) HT6.out rfl) (fun e => map_bk5 HC4.out.map HX4.out e.symm))
    have HB6 := Lib.hid (HC4.out.box.wr (wr_turned (A := fun q => q = mb) HT6.out rfl) (fun e => HC4.out.ne e.symm))
    have HS2 := Lib.hid (show w6.cell? ⟨d, 2, none⟩ = some (.map (some mb)) from HB6.out.cell 2)
    have HS0 := Lib.hid (show w6.cell? ⟨X, 0, none⟩ = some (.slice vo (Dk.get nm D.L).dat.length vc) from HX6.out.cell 0)
    have HS1 := Lib.hid (show w6.cell? ⟨X, 1, none⟩ = some (.int .i64 (Dk.get nm D.L).safe) from HX6.out.cell 1)
    refine wp_region_Z (S := fun V => V.cell? ⟨d, 2, none⟩ = some (.map (some mb)) ∧ V.cell? ⟨X, 0, none⟩ = some (.slice vo (Dk.get nm D.L).dat.length vc) ∧ V.cell? ⟨X, 1, none⟩ = some (.int .i64 (Dk.get nm D.L).safe)) 6 (by kernel_rfl) ?_ (fun hHeld => ?_)
    · exact ⟨HS2.out, HS0.out, HS1.out⟩
    have HM7 := Lib.hid HM6.out.drew
    have HW7 := Lib.hid (show Wr (fun _ => False) w6 w6.drew from (Wr.refl _ _).drew)
    obtain ⟨W7, hW7⟩ : ∃ x, x = World.drew w6 := ⟨_, rfl⟩
    rw [← hW7] at HM7 HW7 hHeld ⊢
    clear hW7 m2
    have HLEN := Lib.hid (show (Dk.del to (Dk.struck D).2.L).length ≤ 100000 from by have h1 := Dk.len_del (nm := to) HOK3.out.l.ne; have h2 := HOK3.out.few; omega)
    refine wpAnyZ_takeY (i := 0) (oi := { dst := some 34, op := Op.move (Operand.tmp 0), type := 24, pos := "disk.go:115", after := #[], guard := none }) (v := ?_) rfl (by kernel_rfl) (by kernel_rfl) (by kernel_rfl) (by rfl) (fun _ _ _ h => h) (Or.inl ⟨by rfl, ?_⟩) (by assumption) ?_
    rotate_left
    · (intro w; go_simp); (first | done | with_reducible rfl)
    try simp only [Act.put, List.setIfInBounds_toArray, List.set_cons_zero, List.set_cons_succ]
    refine wpAnyZ_takeY (i := 1) (oi := { dst := some 35, op := Op.nilCheck (Operand.tmp 34), type := 0, pos := "disk.go:115", after := #[{ on := 0, ground := Ground.data }], guard := none }) (v := ?_) rfl (by kernel_rfl) (by kernel_rfl) (by kernel_rfl) (by rfl) (fun _ _ _ h => h) (Or.inl ⟨by rfl, ?_⟩) (by assumption) ?_
    rotate_left
    · (intro w; go_simp); (first | done | with_reducible rfl)
    try simp only [Act.put, List.setIfInBounds_toArray, List.set_cons_zero, List.set_cons_succ]
    refine wpAnyZ_takeY (i := 2) (oi := { dst := some 36, op := Op.fieldAddr 43 (Operand.tmp 35) 2, type := 0, pos := "disk.go:115", after := #[{ on := 1, ground := Ground.data }], guard := none }) (v := ?_) rfl (by kernel_rfl) (by kernel_rfl) (by kernel_rfl) (by rfl) (fun _ _ _ h => h) (Or.inl ⟨by rfl, ?_⟩) (by assumption) ?_
    rotate_left
    · (intro w; go_simp); (first | done | with_reducible rfl)
    try simp only [Act.put, List.setIfInBounds_toArray, List.set_cons_zero, List.set_cons_succ]
    refine wpAnyZ_take (i := 3) (oi := { dst := some 37, op := Op.load 41 (Operand.tmp 36), type := 41, pos := "disk.go:115", after := #[{ on := 2, ground := Ground.data }], guard := none }) (v := ?_) [6] rfl (by kernel_rfl) (by kernel_rfl) (by kernel_rfl) (by kernel_rfl) (fun _ _ _ h => h) (Or.inl ⟨by rfl, ?_⟩) (by assumption) ?_
    rotate_left
    · (intro w hSw; (try dsimp only at hSw); go_simp); (first | done | with_reducible rfl)
    try simp only [Act.put, List.setIfInBounds_toArray, List.set_cons_zero, List.set_cons_succ]
    refine wpAnyZ_takeY (i := 4) (oi := { dst := some 38, op := Op.move (Operand.tmp 2), type := 9, pos := "disk.go:115", after := #[], guard := none }) (v := ?_) rfl (by kernel_rfl) (by kernel_rfl) (by kernel_rfl) (by rfl) (fun _ _ _ h => h) (Or.inl ⟨by rfl, ?_⟩) (by assumption) ?_
    rotate_left
    · (intro w; go_simp); (first | done | with_reducible rfl)
    try simp only [Act.put, List.setIfInBounds_toArray, List.set_cons_zero, List.set_cons_succ]
    refine wpAnyZ_take (i := 5) (oi := { dst := some 39, op := Op.load 93 (Operand.tmp 7), type := 93, pos := "disk.go:115", after := #[], guard := none }) (v := ?_) [6] rfl (by kernel_rfl) (by kernel_rfl) (by kernel_rfl) (by kernel_rfl) (fun _ _ _ h => h) (Or.inl ⟨by rfl, ?_⟩) (by assumption) ?_
    rotate_left
    · (intro w hSw; (try dsimp only at hSw); go_simp); (first | done | with_reducible rfl)
    try simp only [Act.put, List.setIfInBounds_toArray, List.set_cons_zero, List.set_cons_succ]
    refine wpAnyZ_ready (rs := [6]) (by kernel_rfl) (by simp) ?_
    refine AllReadyZ.last (o := { dst := none, op := Op.mapUpdate 41 (Operand.tmp 37) (Operand.tmp 38) (Operand.tmp 39), type := 0, pos := "disk.go:115", after := #[{ on := 3, ground := Ground.data }, { on := 4, ground := Ground.data }, { on := 5, ground := Ground.data }, { on := 0, ground := Ground.phase }, { on := 1, ground := Ground.phase }, { on := 2, ground := Ground.phase }, { on := 3, ground := Ground.phase }, { on := 4, ground := Ground.phase }, { on := 5, ground := Ground.phase }], guard := none }) rfl (fun K hK => ?_) AllReadyZ.nil
    refine step_put5 (f := (⟨to, (Dk.get nm D.L).dat, (Dk.get nm D.L).safe⟩ : Dk.Fl)) (u := .slice vo (Dk.get nm D.L).dat.length vc) (by rfl) _ _ _ (by rfl) (by rfl) (by rfl) (by rfl) HM7.out HLEN.out HL2.out ?_
    intro w8 hm8 ht8
    refine hK.out _ _ ?_
    clear hK K
    refine wpAny_done (by kernel_rfl) ?_ _
    have hm9 := hm8
    simp only [HDL.out] at hm9
    have HFIN := Lib.hid (rename_asm5 HI3.out HOK3.out HDL.out HNE.out HVN.out HHH.out HNT.out HC4.out HW4.out HT6.out HW7.out ht8 hm9 HSZ3.out HBs.out HFB.out HFT3.out HRW.out)
    clear hm8 hm9 ht8 hHeld
    go_wp2_with fail
    go_ret
    refine ⟨?_, ?_, HFIN.out.2⟩
    · rw [HE.out]; rfl
    · rw [HE.out]; exact HFIN.out.1
theorem rename5 (h : DkAt B F d D w) (hB : B ≤ w.heap.size) (nm to : List UInt8) (hl : nm.length ≤ 140737488351232) (hl2 : to.length ≤ 140737488351232) : Calls Try.prog 42 #[.pointer (some ⟨d, 0, none⟩), .string (S nm), .string (S to)] w (OpR B F d (Dk.rename nm to D) w) := by
  cases hu : D.up with
  | false => exact rename_down5 h hB nm to hl hl2 hu
  | true =>
    cases hh : Dk.has nm D.L with
    | false => exact rename_none5 h hB nm to hl hl2 hu hh
    | true =>
      cases hn : Dk.named to with
      | false => exact rename_bad5 h hB nm to hl hl2 hu hh hn
      | true =>
        by_cases e : nm = to
        · exact rename_same5 h hB nm to hl hl2 hu hh hn e
        · exact rename_ok5 h hB nm to hl hl2 hu hh hn e
end

end Go.Proofs.Ytekmnpmeienhhaa
