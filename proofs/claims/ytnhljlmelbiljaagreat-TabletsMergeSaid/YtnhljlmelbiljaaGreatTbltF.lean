/- Layer 19: a tablet's stretch, and its tables as one row, by contracts. -/
import Derived.Test.YtnhljlmelbiljaaGreatTbltD
import Derived.Test.YtnhljlmelbiljaaGreatZQ
import Derived.Test.YtnhljlmelbiljaaGreatZS
import Derived.Laws.OwnMore
import Derived.Test.YtnhljlmelbiljaaGreatZF
namespace Go.Proofs.YtnhljlmelbiljaaGreat
set_option linter.unusedVariables false
set_option linter.unusedSimpArgs false
open Go Go.RowKit
attribute [local go_sem ↓] run_index_S
attribute [local go_sem] S_append S_extract

theorem M.srt_filter {L : List M.Cl} (h : M.srt none L = true) (p : M.Cl → Bool) : M.srt none (L.filter p) = true :=
  M.srt_of _ none (fun c hc => M.srt_may h c (List.mem_filter.1 hc).1) (fun q e => by cases e) ((M.srt_pw h).filter _)
theorem M.srt_stt {L : List M.Cl} (h : M.Stt L) (hm : ∀ c, c ∈ L → M.mayC c = true) : M.srt none L = true := M.srt_of _ none hm (fun q e => by cases e) h
def NewR19 (K : List M.Cl) (w : World) (e : Ending) (w' : World) : Prop := ∃ ao c, e = .returned (.tuple #[.slice ao K.length c, .int .i64 0]) ∧ w'.ownsRow w.heap.size 38 3 (.slice ao K.length c) K.length (cls K) ∧ Below w.heap.size w w'
theorem newO11 (Rs : List M.Rw) (hR : RsOk Rs) (hm : M.mayR Rs = true) (ao : Option Addr) (cap : Nat) (w : World) (h : RwsAt w ao Rs) (n : Nat) (hn : Rs.length = n) :
    Calls Tryz.prog 33 #[.slice ao n cap] w (NewR19 (M.newR (M.rls Rs)) w) := by
  subst hn
  refine (newest11_any Rs hR ao cap w h).mono ?_
  rintro e w' ⟨a, c, e1, h1, h2⟩
  rw [if_pos hm] at e1 h1
  rw [if_pos hm] at e1
  exact ⟨a, c, e1, h1, h2⟩
theorem rsOk_of19 {Rs : List M.Rw} {R : List (List M.Cl)} (lo hi : List UInt8) (he : M.rls Rs = R.map (M.rangeL lo hi)) (hn : R.length ≤ 101) (hl : ∀ l, l ∈ R → M.srt none l = true ∧ l.length ≤ 4096 ∧ ∀ c, c ∈ l → ClOk c) : RsOk Rs ∧ M.mayR Rs = true := by
  have hlen : Rs.length = R.length := by
    have := congrArg List.length he
    simpa [M.rls] using this
  have hmem : ∀ r, r ∈ Rs → ∃ l, l ∈ R ∧ r.l = M.rangeL lo hi l := fun r hr => by
    have : r.l ∈ M.rls Rs := List.mem_map.2 ⟨r, hr, rfl⟩
    rw [he] at this
    obtain ⟨l, h1, h2⟩ := List.mem_map.1 this
    exact ⟨l, h1, h2.symm⟩
  have h1 : ∀ r, r ∈ Rs → r.l.length ≤ 4096 := fun r hr => by
    obtain ⟨l, h1, h2⟩ := hmem r hr
    rw [h2]
    exact Nat.le_trans (M.range_len lo hi l) (hl l h1).2.1
  refine ⟨⟨by omega, fun r hr => by have := h1 r hr; omega, fun r hr c hc => ?_, ?_⟩, ?_⟩
  · obtain ⟨l, h3, h2⟩ := hmem r hr
    rw [h2] at hc
    exact (hl l h3).2.2 c (List.mem_filter.1 hc).1
  · have h2 : ∀ (A : List M.Rw), (∀ r, r ∈ A → r.l.length ≤ 4096) → ((A.map (fun r => r.l)).map List.length).sum ≤ A.length * 4096 := fun A => by
      induction A with
      | nil => intro _; simp
      | cons r A ih =>
        intro h
        have i1 := ih (fun r hr => h r (List.mem_cons_of_mem _ hr))
        have i2 := h r (by simp)
        simp only [List.map_cons, List.sum_cons, List.length_cons, Nat.add_mul]
        omega
    have := h2 Rs h1
    have h3 : Rs.length * 4096 ≤ 101 * 4096 := Nat.mul_le_mul_right _ (by omega)
    omega
  · unfold M.mayR
    rw [List.all_eq_true]
    intro r hr
    obtain ⟨l, h3, h2⟩ := hmem r hr
    rw [h2]
    exact M.srt_filter (hl l h3).1 _
/-- Rows that may be merged. -/
def OkL (l : List M.Cl) : Prop := M.srt none l = true ∧ l.length ≤ 4096 ∧ ∀ c, c ∈ l → ClOk c
theorem TpsAt.okL {w : World} {ao : Option Addr} {Ts : List M.Tp} (h : TpsAt w ao Ts) : ∀ l, l ∈ M.tls Ts → OkL l := fun l hl => by
  obtain ⟨t, ht, rfl⟩ := List.mem_map.1 hl
  obtain ⟨i, hi, rfl⟩ := List.getElem_of_mem ht
  obtain ⟨g, off, _, _, hok⟩ := h.off i hi
  have e : Ts.getD i M.tp0 = Ts[i] := by simp [List.getD, hi]
  rw [e] at hok
  exact ⟨hok.srt, hok.len, hok.ok⟩
theorem MmAt.okL {w : World} {mv : Value} {L : List M.Cl} (h : MmAt w mv L) (hl : L.length ≤ 4096) : OkL L :=
  ⟨M.srt_stt h.is.1 (fun c hc => (h.is.2.2 c hc).2), hl, fun c hc => (h.is.2.2 c hc).1⟩
theorem OkL.stt {l : List M.Cl} (h : OkL l) : M.Stt l := M.srt_pw h.1
theorem okL_pw {R : List (List M.Cl)} (h : ∀ l, l ∈ R → OkL l) : M.PW R := fun i l hl => (h l (List.mem_of_getElem? hl)).stt
set_option maxHeartbeats 4000000 in
set_option maxRecDepth 100000 in
theorem range19_any (f t : List UInt8) (mv : Value) (ao : Option Addr) (cap : Nat) (L : List M.Cl) (Ts : List M.Tp) (a b : List UInt8) (w : World) (h : TtAt w mv ao L Ts) (hL : L.length ≤ 4096) (hf : f.length ≤ 1000000) (ht : t.length ≤ 1000000) (ha : a.length ≤ 1000000) (hb : b.length ≤ 1000000) :
    Calls Tryz.prog 14 #[.agg (tbV f t mv ao Ts.length cap), .string (S a), .string (S b)] w (NewR19 (M.rangeT f t (L :: M.tls Ts) a b) w) := by
  obtain ⟨i0, z0, hi, hz0, hz1, hz2, hz3⟩ := infoRw_parts
  have hla : (M.winA f a).length ≤ 140737488351232 := by have := M.winA_len f a; omega
  have hlb : (M.winB t b).length ≤ 140737488351232 := by have := M.winB_len t b; omega
  have hn := h.n
  have HB := Lib.hid ((Below.refl w.heap.size w).alloc (Nat.le_refl _) (.cells (tbV f t mv ao Ts.length cap) 32))
  have HR := Lib.hid (rowIn_new (tbV f t mv ao Ts.length cap) 32 w)
  have HT := Lib.hid h
  have CW := Lib.hid (fun w => within19_any f t mv ao Ts.length cap a b w)
  have HOK := Lib.hid (show ∀ l, l ∈ L :: M.tls Ts → OkL l from fun l hl => by
    rcases List.mem_cons.1 hl with rfl | hl
    · exact h.mem.okL hL
    · exact h.tabs.okL l hl)
  have CRS := Lib.hid (fun W (hb0 : Below w.heap.size w W) => rows19_any f t mv ao cap L Ts a b W (h.below hb0) hf ht ha hb)
  have HLN := Lib.hid (show (L :: M.tls Ts).length ≤ 101 ∧ ((M.tls Ts).map (M.rangeL (M.winA f a) (M.winB t b))).length ≤ 100 from by simp [M.tls]; omega)
  unfold RowsR19 at CRS
  have CMM := Lib.hid (fun W (hb0 : Below w.heap.size w W) => mrange_any (M.winA f a) (M.winB t b) W (h.below hb0).mem hla hlb)
  unfold RangeR10 at CMM
  clear h
  have HQ := Lib.hid (show M.rangeT f t (L :: M.tls Ts) a b = M.newR (M.rangeL (M.winA f a) (M.winB t b) L :: (M.tls Ts).map (M.rangeL (M.winA f a) (M.winB t b))) from rfl)
  generalize M.rangeT f t (L :: M.tls Ts) a b = res at *
  have HRL := Lib.hid (show ∀ Rs, M.rls Rs = M.rangeL (M.winA f a) (M.winB t b) L :: (M.tls Ts).map (M.rangeL (M.winA f a) (M.winB t b)) → RsOk Rs ∧ M.mayR Rs = true from fun Rs he => rsOk_of19 (R := L :: M.tls Ts) _ _ he HLN.out.1 HOK.out)
  generalize M.rangeL (M.winA f a) (M.winB t b) L = l0 at *
  generalize (M.tls Ts).map (M.rangeL (M.winA f a) (M.winB t b)) = R0 at *
  generalize M.winA f a = lo at *
  generalize M.winB t b = hi' at *
  unfold tbV at *
  go_enter Tryz.func14, Tryz.ntmps14
  go_wp2_with fail
  generalize w.alloc (.cells #[.string (S f), .string (S t), mv, .slice ao Ts.length cap] 32) = W0 at *
  with_reducible refine (CW.out _).mono ?_
  rintro e w1 ⟨rfl, hbq⟩
  replace HB := carry hbq HB
  replace HR := carry hbq HR
  clear hbq CW
  have r2 := HR.out.cell 2
  simp at r2
  have CM1 := Lib.hid (CMM.out w1 HB.out)
  clear CMM
  go_wp2_with fail
  with_reducible refine (CM1.out).mono ?_
  rintro e w2 ⟨ar, cr, rfl, hor, hbq⟩
  have hs1 : w.heap.size ≤ w1.heap.size := HB.out.size
  replace HB := carry hbq HB
  replace HR := carry hbq HR
  clear hbq CM1 r2
  have hs12 : w.heap.size ≤ w2.heap.size := HB.out.size
  have hal := (Below.refl w2.heap.size w2).alloc (Nat.le_refl _) (.cells #[.slice ar l0.length cr] 22)
  have HO1 := Lib.hid (ownP_below (ownP_mono hor hs1) hal)
  replace HB := carry hal HB
  replace HR := carry hal HR
  have HH := Lib.hid (World.ownsRow_lit (base := w.heap.size) (e := 22) (size := 1) w2 #[.slice ar l0.length cr] 1 hs12 (by unfold maxLen; omega) rfl)
  have r0 := HR.out.cell 0
  have r1 := HR.out.cell 1
  have r2 := HR.out.cell 2
  have r3 := HR.out.cell 3
  simp at r0 r1 r2 r3
  have CR1 := Lib.hid (CRS.out _ HB.out)
  clear hor hal CRS
  go_wp2_with fail
  obtain ⟨bh, hbh⟩ : ∃ x, x = w2.heap.size := ⟨_, rfl⟩
  rw [← hbh] at HH ⊢
  clear hbh
  generalize w2.alloc (.cells #[.slice ar l0.length cr] 22) = W2 at *
  with_reducible refine (CR1.out).mono ?_
  rintro e w3 ⟨Rs, ro, rc, rfl, hls, hro, hbq⟩
  have hs2 : w.heap.size ≤ W2.heap.size := HB.out.size
  replace HB := carry hbq HB
  replace HO1 := carry hbq HO1
  replace HH := carry hbq HH
  have HRO := Lib.hid (hro.mono hs2)
  have HLS := Lib.hid hls
  have hlen : Rs.length = R0.length := by
    have := congrArg List.length hls
    simpa [M.rls] using this
  have hl0 : R0.length ≤ 100 := HLN.out.2
  have HRow := Lib.hid (show w3.ownsRow w.heap.size 22 1 (.slice ro R0.length rc) R0.length (rwsV Rs) from by have := HRO.out.row; rwa [hlen] at this)
  clear hbq hro hls CR1 r0 r1 r2 r3 HR
  go_wp2_with (at_builtin; refine wpList_append_rows _ rfl _ _ 23 rfl w.heap.size 22 i0 z0 1 24 Tryz.underlying23 hi hz0 hz1 hz2 hz3 (by decide) (.slice (some ⟨bh, 0, none⟩) 1 1) 1 _ rfl HH.out w.heap.size _ R0.length (rwsV Rs) rfl HRow.out (rwsV_one _) (by unfold maxLen; omega) (by omega) HB.out.size ?_; intro v' w5 ho5 hg5; obtain ⟨ao5, cap5, rfl⟩ := ownP_shape ho5; have HO5 := Lib.hid ho5; have HG5 := Lib.hid hg5; clear ho5 hg5)
  have HB5 := Lib.hid (HB.out.grown HG5.out HB.out.size (fun q hq => (HH.out.lt q hq).1))
  have HRA := Lib.hid (show RwO w.heap.size w5 ao5 cap5 ([⟨l0, ar, cr⟩] ++ Rs) from
    RwO.app (Rs := [⟨l0, ar, cr⟩]) ⟨HH.out, fun r hr => by rw [List.mem_singleton] at hr; subst hr; exact HO1.out⟩ (fun r hr => HRO.out.each r hr) (by rw [hlen]; exact HO5.out) HG5.out)
  have HLA := Lib.hid (show M.rls ([⟨l0, ar, cr⟩] ++ Rs) = l0 :: R0 from by rw [← HLS.out]; rfl)
  have CN := Lib.hid (newO11 _ (HRL.out _ HLA.out).1 (HRL.out _ HLA.out).2 ao5 cap5 w5 HRA.out.at_ (1 + R0.length) (by rw [List.length_append, hlen]; rfl))
  rw [HLA.out, ← HQ.out] at CN
  unfold NewR19 at CN
  clear HO5 HG5 HRA HRow HRO HO1 HH
  with_reducible refine (CN.out).mono ?_
  rintro e w6 ⟨aN, cN, rfl, hoN, hbN⟩
  have HBN := Lib.hid (HB5.out.trans (hbN.mono HB5.out.size))
  have HON := Lib.hid (ownP_mono hoN HB5.out.size)
  clear hoN hbN CN
  go_wp2_with fail
  go_ret2
  exact ⟨aN, cN, rfl, HON.out, HBN.out⟩
theorem run_equalIn_nil_nil19 {P : Program} (w : World) (d : Nat) (t : TypeId) {ps rs : Array TypeId} {v : Bool} (h : P.underlying t = some (.func ps rs v)) :
    (Op.equalIn (d + 1) t .nilFunc .nilFunc).run P w = .ok true w := by
  simp [Op.equalIn, run_underlying h]
theorem run_equalIn_func_nil19 {P : Program} (w : World) (d : Nat) (t : TypeId) {ps rs : Array TypeId} {v : Bool} (h : P.underlying t = some (.func ps rs v)) (f : Fn) (a c : Array Value) :
    (Op.equalIn (d + 1) t (.func f a c) .nilFunc).run P w = .ok false w := by
  simp [Op.equalIn, run_underlying h]
/-- 'f != nil'. -/
theorem run_neq_nil_nil19 {P : Program} (w : World) (t : TypeId) {ps rs : Array TypeId} {v : Bool} (h : P.underlying t = some (.func ps rs v)) : (binOp .neq t .nilFunc .nilFunc).run P w = .ok (.bool false) w := by
  simp only [binOp]
  simp [Op.equal, Op.maxDepth, run_equalIn_nil_nil19 w 9999 t h]
theorem run_neq_func_nil19 {P : Program} (w : World) (t : TypeId) {ps rs : Array TypeId} {v : Bool} (h : P.underlying t = some (.func ps rs v)) (f : Fn) (a c : Array Value) : (binOp .neq t (.func f a c) .nilFunc).run P w = .ok (.bool true) w := by
  simp only [binOp]
  simp [Op.equal, Op.maxDepth, run_equalIn_func_nil19 w 9999 t h]
set_option maxHeartbeats 4000000 in
set_option maxRecDepth 100000 in
theorem merge19_nil (f t : List UInt8) (mv : Value) (ao : Option Addr) (cap : Nat) (L : List M.Cl) (Ts : List M.Tp) (w : World) (h : TtAt w mv ao L Ts) (hf : f.length ≤ 1000000) (ht : t.length ≤ 1000000) :
    Calls Tryz.prog 19 #[.agg (tbV f t mv ao Ts.length cap), .nilFunc] w (NewR19 (M.rangeT f t (M.tls Ts) [] []) w) := by
  have hn := h.n
  have hfn := fun (W : World) => run_neq_nil_nil19 (P := Tryz.prog) W _ Tryz.underlying52
  have HB := Lib.hid ((Below.refl w.heap.size w).alloc (Nat.le_refl _) (.cells (tbV f t mv ao Ts.length cap) 32))
  have CRS := Lib.hid (rows19_any f t mv ao cap L Ts [] [] _ (h.below HB.out) hf ht (by simp) (by simp))
  unfold RowsR19 at CRS
  have HLN := Lib.hid (show (M.tls Ts).length ≤ 101 from by simp [M.tls]; omega)
  have HOK := Lib.hid (h.tabs.okL)
  clear h
  have HQ := Lib.hid (show M.rangeT f t (M.tls Ts) [] [] = M.newR ((M.tls Ts).map (M.rangeL (M.winA f []) (M.winB t []))) from rfl)
  generalize M.rangeT f t (M.tls Ts) [] [] = res at *
  have HRL := Lib.hid (show ∀ Rs, M.rls Rs = (M.tls Ts).map (M.rangeL (M.winA f []) (M.winB t [])) → RsOk Rs ∧ M.mayR Rs = true from fun Rs he => rsOk_of19 (R := M.tls Ts) _ _ he HLN.out HOK.out)
  generalize (M.tls Ts).map (M.rangeL (M.winA f []) (M.winB t [])) = R0 at *
  unfold tbV at *
  go_enter Tryz.func19, Tryz.ntmps19
  go_wp2_with fail
  generalize w.alloc (.cells #[.string (S f), .string (S t), mv, .slice ao Ts.length cap] 32) = W0 at *
  with_reducible refine (CRS.out).mono ?_
  rintro e w3 ⟨Rs, ro, rc, rfl, hls, hro, hbq⟩
  have hs0 : w.heap.size ≤ W0.heap.size := HB.out.size
  replace HB := carry hbq HB
  have hlen : Rs.length = R0.length := by
    have := congrArg List.length hls
    simpa [M.rls] using this
  have CN := Lib.hid (newO11 Rs (HRL.out _ hls).1 (HRL.out _ hls).2 ro rc w3 hro.at_ R0.length hlen)
  rw [hls, ← HQ.out] at CN
  unfold NewR19 at CN
  clear hbq hro hls CRS hlen
  go_wp2_with fail
  with_reducible refine (CN.out).mono ?_
  rintro e w6 ⟨aN, cN, rfl, hoN, hbN⟩
  have HON := Lib.hid (ownP_mono hoN HB.out.size)
  have HBN := Lib.hid (HB.out.trans (hbN.mono HB.out.size))
  clear hoN hbN CN
  go_wp2_with fail
  go_ret2
  exact ⟨aN, cN, rfl, HON.out, HBN.out⟩

end Go.Proofs.YtnhljlmelbiljaaGreat
