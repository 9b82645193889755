/- Layer 19: what of a stretch lies in a tablet's; tables and memories, none among them; the tables' rows, by contracts. -/
import Derived.Test.YtnhljlmelbiljaaGreatTbltC
namespace Go.Proofs.YtnhljlmelbiljaaGreat
set_option linter.unusedVariables false
set_option linter.unusedSimpArgs false
open Go Go.RowKit
attribute [local go_sem ↓] run_index_S
attribute [local go_sem] S_append S_extract

theorem clOk_seq {L : List M.Cl} (h : ∀ c, c ∈ L → ClOk c) : ∀ c ∈ L, c.seq ≤ 9223372036854775807 := fun c hc => (h c hc).2.2.h2
theorem trange_any (t : M.Tp) (lo hi : List UInt8) (w : World) (h : TpOk w t) (h1 : lo.length ≤ 140737488351232) (h2 : hi.length ≤ 140737488351232) :
    Calls Tryz.prog 63 #[ptrT t.p, .string (S lo), .string (S hi)] w fun e w' => RangeR10 (M.rangeL lo hi t.l) w e w' := by
  cases hp : t.p with
  | none =>
    refine (range10_nil lo hi w).mono ?_
    rintro e w' ⟨rfl, rfl⟩
    rw [h.nil hp]
    exact ⟨none, 0, rfl, World.ownsRow_nil _ _ _ _, Below.refl _ _⟩
  | some p => exact range10_any t.l p lo hi w (h.at_ p hp) h.srt h.len (clOk_seq h.ok) h1 h2
theorem tget_any (t : M.Tp) (key : List UInt8) (w : World) (h : TpOk w t) (h1 : key.length ≤ 140737488351232) :
    Calls Tryz.prog 30 #[ptrT t.p, .string (S key)] w fun e w' => FindR9 (M.findL key t.l) w e w' := by
  cases hp : t.p with
  | none =>
    rw [h.nil hp]
    exact get10_nil key w
  | some p => exact get10_any t.l p key w (h.at_ p hp) h.srt h.len (clOk_seq h.ok) h1
set_option maxHeartbeats 1000000 in
theorem range15_nil (lo hi : List UInt8) (w : World) : Calls Tryz.prog 32 #[.pointer none, .string (S lo), .string (S hi)] w fun e w' => e = .returned (.slice none 0 0) ∧ w = w' := by
  go_enter Tryz.func32, Tryz.ntmps32
  go_wp2_with fail
  go_ret
  exact ⟨rfl, rfl⟩
set_option maxHeartbeats 2000000 in
set_option maxRecDepth 100000 in
theorem get15_nil (key : List UInt8) (w : World) : Calls Tryz.prog 29 #[.pointer none, .string (S key)] w fun e w' => FindR9 none w e w' := by
  have HB := Lib.hid ((Below.refl w.heap.size w).alloc (Nat.le_refl _) (.cells clZ9 38))
  have HR := Lib.hid (rowIn_new clZ9 38 w)
  go_enter Tryz.func29, Tryz.ntmps29
  go_wp2_with ((refine wpList_store_hid rfl 38 _ _ rfl w.heap.size _ rfl rfl 38 clZ9 HR.out ?_ rfl (by simp [Value.oneCell']) ?_; kernel_rfl; intro w3 hrQ hbelQ hothQ hszQ; have HXE := Lib.hid hrQ; have HBE := Lib.hid (hbelQ w.heap.size w (Nat.le_refl _) HB.out); clear hrQ hbelQ hothQ hszQ))
  try simp only [Exit.inBlock, Exit.then]
  exact bodyPost_ret (ret_rowP2 rfl _ _ w.heap.size rfl (load_struct Tryz.underlying38 (by kernel_rfl) HXE.out)) rfl (show FindR9 none w _ _ from ⟨rfl, HBE.out⟩)
theorem mrange_any {mv : Value} {L : List M.Cl} (lo hi : List UInt8) (w : World) (h : MmAt w mv L) (h1 : lo.length ≤ 140737488351232) (h2 : hi.length ≤ 140737488351232) :
    Calls Tryz.prog 32 #[mv, .string (S lo), .string (S hi)] w fun e w' => RangeR10 (M.rangeL lo hi L) w e w' := by
  rcases h with ⟨rfl, rfl⟩ | ⟨B, b, rfl, pa, pc, Ps, hm, _, _⟩
  · refine (range15_nil lo hi w).mono ?_
    rintro e w' ⟨rfl, rfl⟩
    exact ⟨none, 0, rfl, World.ownsRow_nil _ _ _ _, Below.refl _ _⟩
  · exact range15_any B b pa pc Ps L lo hi w hm h1 h2
theorem mget_any {mv : Value} {L : List M.Cl} (key : List UInt8) (w : World) (h : MmAt w mv L) :
    Calls Tryz.prog 29 #[mv, .string (S key)] w fun e w' => FindR9 (M.findL key L) w e w' := by
  rcases h with ⟨rfl, rfl⟩ | ⟨B, b, rfl, hm⟩
  · exact get15_nil key w
  · exact getX15 key hm
theorem run_max_str19 (w : World) (ts : Array TypeId) (t : TypeId) (a f : List UInt8) : (Builtin.max_ ts t #[.string (S a), .string (S f)]).run Tryz.prog w = .ok (.string (S (M.winA f a))) w := by
  have hd : ∀ l : List UInt8, (S l).toList = l := fun l => by simp [Lib.toList_data]
  cases h : Op.bytesLess a f <;> simp [Builtin.max_, Builtin.max2, Op.stringOp, asBool, M.winA, hd, h]
set_option maxHeartbeats 2000000 in
theorem within19_any (f t : List UInt8) (mv : Value) (ao : Option Addr) (n cap : Nat) (a b : List UInt8) (w : World) :
    Calls Tryz.prog 31 #[.agg (tbV f t mv ao n cap), .string (S a), .string (S b)] w fun e w' => e = .returned (.tuple #[.string (S (M.winA f a)), .string (S (M.winB t b))]) ∧ Below w.heap.size w w' := by
  have HB := Lib.hid ((Below.refl w.heap.size w).alloc (Nat.le_refl _) (.cells (tbV f t mv ao n cap) 32))
  have HW := Lib.hid (show M.winB t b = if b = [] ∨ (t ≠ [] ∧ Op.bytesLess t b = true) then t else b from rfl)
  have hmx := fun w ts t => run_max_str19 w ts t a f
  unfold tbV at *
  generalize M.winA f a = ra at *
  generalize M.winB t b = rb at *
  go_enter Tryz.func31, Tryz.ntmps31
  cases b with
  | nil =>
    go_wp2_with fail
    go_ret2
    exact ⟨by rw [HW.out]; simp, HB.out⟩
  | cons y b =>
    cases t with
    | nil =>
      go_wp2_with fail
      go_ret2
      exact ⟨by rw [HW.out]; simp, HB.out⟩
    | cons x t =>
      cases q2 : Op.bytesLess (x :: t) (y :: b)
      · go_wp2_with fail
        go_ret2
        exact ⟨by rw [HW.out, q2]; simp, HB.out⟩
      · go_wp2_with fail
        go_ret2
        exact ⟨by rw [HW.out, q2]; simp, HB.out⟩
theorem M.winA_len (f a : List UInt8) : (M.winA f a).length ≤ f.length + a.length := by unfold M.winA; split <;> omega
theorem M.winB_len (t b : List UInt8) : (M.winB t b).length ≤ t.length + b.length := by unfold M.winB; split <;> omega
def RowsR19 (R : List (List M.Cl)) (w : World) (e : Ending) (w' : World) : Prop := ∃ Rs ao cap, e = .returned (.slice ao R.length cap) ∧ M.rls Rs = R ∧ RwO w.heap.size w' ao cap Rs ∧ Below w.heap.size w w'
set_option maxHeartbeats 4000000 in
set_option maxRecDepth 100000 in
theorem rows19_any (f t : List UInt8) (mv : Value) (ao : Option Addr) (cap : Nat) (L : List M.Cl) (Ts : List M.Tp) (a b : List UInt8) (w : World) (h : TtAt w mv ao L Ts) (hf : f.length ≤ 1000000) (ht : t.length ≤ 1000000) (ha : a.length ≤ 1000000) (hb : b.length ≤ 1000000) :
    Calls Tryz.prog 34 #[.agg (tbV f t mv ao Ts.length cap), .string (S a), .string (S b)] w (RowsR19 ((M.tls Ts).map (M.rangeL (M.winA f a) (M.winB t b))) w) := by
  obtain ⟨i0, z0, hi, hz0, hz1, hz2, hz3⟩ := infoRw_parts
  have hla : (M.winA f a).length ≤ 140737488351232 := by have := M.winA_len f a; omega
  have hlb : (M.winB t b).length ≤ 140737488351232 := by have := M.winB_len t b; omega
  have hal := (Below.refl w.heap.size w).alloc (Nat.le_refl _) (.cells (tbV f t mv ao Ts.length cap) 32)
  have HB0 := Lib.hid hal
  have HT := Lib.hid h.tabs
  have hn := h.n
  have HR0 := Lib.hid (rowIn_new (tbV f t mv ao Ts.length cap) 32 w)
  have CW := Lib.hid (fun w => within19_any f t mv ao Ts.length cap a b w)
  clear h hal
  generalize hlo : M.winA f a = lo at *
  generalize hhi : M.winB t b = hi' at *
  clear hlo hhi
  unfold tbV at *
  go_enter Tryz.func34, Tryz.ntmps34
  go_wp2_with fail
  generalize w.alloc (.cells #[.string (S f), .string (S t), mv, .slice ao Ts.length cap] 32) = W0 at *
  with_reducible refine (CW.out _).mono ?_
  rintro e w1 ⟨rfl, hbq⟩
  replace HB0 := carry hbq HB0
  replace HR0 := carry hbq HR0
  clear hbq
  have r3 := HR0.out.cell 3
  simp at r3
  go_wp2_with fail
  have HO0 := Lib.hid (show RwO w.heap.size w1 none 0 [] from ⟨World.ownsRow_nil _ _ _ _, fun r hr => by cases hr⟩)
  go_loopw [7, 20] (fun ov i wr => ∃ (k : Nat) (Rs : List M.Rw) (to : Option Addr) (tc : Nat), k ≤ Ts.length ∧ Rs.length = k ∧ i = .int .i64 k ∧ ov = .slice to k tc ∧ Hid (M.rls Rs = (M.tls (Ts.take k)).map (M.rangeL lo hi')) ∧ Hid (RwO w.heap.size wr to tc Rs) ∧ Hid (Below w.heap.size w wr)) (fun _ i _ => Ts.length - (intOf i).toNat)
  case atStart => exact ⟨0, [], none, 0, Nat.zero_le _, rfl, rfl, rfl, Lib.hid rfl, HO0, HB0⟩
  case round =>
    clear HO0 HB0 HR0 CW r3
    obtain ⟨k, Rs, to, tc, hk, hTl, rfl, rfl, HQ, HO, HB⟩ := hrel
    by_cases hlt : k < Ts.length
    · have hki : (k : Int) < (Ts.length : Int) := by omega
      have d1 : decide ((k : Int) < (Ts.length : Int)) = true := by simp; omega
      have d2 : decide (k < Ts.length) = true := by simp; omega
      obtain ⟨g, off, eao, x0, hok⟩ := (HT.out.below HB.out).off k hlt
      subst eao
      have HTK := Lib.hid (M.tls_snoc hlt)
      generalize Ts.getD k M.tp0 = tp at *
      have CR := Lib.hid (trange_any tp lo hi' wr hok hla hlb)
      unfold RangeR10 at CR
      clear hok
      generalize ptrT tp.p = pv at *
      go_wp2_with fail
      with_reducible refine (CR.out).mono ?_
      rintro e w2 ⟨ar, cr, rfl, hor, hbq⟩
      clear CR
      obtain ⟨l, hl⟩ : ∃ l, l = M.rangeL lo hi' tp.l := ⟨_, rfl⟩
      rw [← hl] at hor ⊢
      have HLL := Lib.hid hl
      clear hl
      have hgw : w.heap.size ≤ wr.heap.size := HB.out.size
      have HBn := Lib.hid (HB.out.trans (hbq.mono HB.out.size))
      have hal := (Below.refl w2.heap.size w2).alloc (Nat.le_refl _) (.cells #[.slice ar l.length cr] 22)
      have HX := Lib.hid (And.intro (ownP_below (ownP_mono hor hgw) hal) ((HO.out.below hbq).below hal))
      have HXX := Lib.hid (rowIn_new #[.slice ar l.length cr] 22 w2)
      have HBA := Lib.hid (HBn.out.alloc HBn.out.size (.cells #[.slice ar l.length cr] 22))
      have hgA : w.heap.size ≤ (w2.alloc (.cells #[.slice ar l.length cr] 22)).heap.size := Nat.le_trans hgw (Nat.le_trans hbq.size hal.size)
      have HRow := Lib.hid (show ((w2.alloc (.cells #[.slice ar l.length cr] 22))).ownsRow w.heap.size 22 1 (.slice to k tc) k (rwsV Rs) from by have := HX.out.2.row; rwa [hTl] at this)
      clear hbq x0 hal hor
      go_wp2_with (at_builtin; refine wpList_append_own _ rfl _ _ 23 rfl w.heap.size 22 i0 z0 1 24 Tryz.underlying23 hi hz0 hz1 hz2 hz3 (by decide) (.slice to k tc) k (rwsV Rs) rfl HRow.out ⟨w2.heap.size, 0, none⟩ 1 1 (rwsV [⟨l, ar, cr⟩]) rfl rfl ?c1 (rwsV_one _) ?c2 ?c3 ?c4 ?_)
      case c1 =>
        intro j u hu
        match j with
        | 0 => simp [rwsV] at hu; subst hu; exact HXX.out.cell 0
        | j + 1 => simp [rwsV] at hu
      case c2 => unfold maxLen; omega
      case c3 => omega
      case c4 => exact hgA
      intro v' w5 ho5 hg5 hat5
      obtain ⟨ao5, cap5, rfl⟩ := ownP_shape ho5
      have HB5 := Lib.hid (show Below w.heap.size w w5 from HBA.out.grown hg5 HBA.out.size (fun q hq => (HRow.out.lt q hq).1))
      have HQ5 := Lib.hid (show M.rls (Rs ++ [⟨l, ar, cr⟩]) = (M.tls (Ts.take (k + 1))).map (M.rangeL lo hi') from by
        rw [HTK.out, List.map_append, ← HQ.out, List.map_cons, ← HLL.out]
        simp [M.rls])
      have HO5 := Lib.hid (show RwO w.heap.size w5 ao5 cap5 (Rs ++ [⟨l, ar, cr⟩]) from by
        subst hTl
        exact HX.out.2.app (fun r hr => by rw [List.mem_singleton] at hr; subst hr; exact HX.out.1) ho5 hg5)
      clear ho5 hg5 hat5 HX HXX HBA HRow HB HBn HQ HO HTK HLL
      go_wp2_with fail
      go_roundw
      case rel => exact ⟨k + 1, _, ao5, cap5, by omega, by simp; omega, by go_num, rfl, HQ5, HO5, HB5⟩
      case measure => simp [intOf]; omega
    · obtain rfl : k = Ts.length := by omega
      have d1 : decide ((Ts.length : Int) < (Ts.length : Int)) = false := by simp
      have d2 : decide (Ts.length < Ts.length) = false := by simp
      have HQ1 := Lib.hid (show M.rls Rs = (M.tls Ts).map (M.rangeL lo hi') from by have := HQ.out; rwa [List.take_length] at this)
      go_wp2_with fail
      go_ret
      refine ⟨Rs, to, tc, ?_, HQ1.out, HO.out, HB.out⟩
      simp [M.tls]

end Go.Proofs.YtnhljlmelbiljaaGreat
