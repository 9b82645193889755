import Derived.Test.YtmammmjmipgmoaaGreatDoorZI
import Derived.Test.YtmammmjmipgmoaaGreatDoorZJa
import Derived.BigQuiet
import Derived.Test.YtmammmjmipgmoaaGreatDoorZQh
set_option linter.unusedVariables false
set_option maxRecDepth 100000
set_option maxHeartbeats 16000000
namespace Go.Proofs.YtmammmjmipgmoaaGreatDoor
section
open Go Go.RowKit Go.Maps
theorem Jol : (Tryz.prog.info? 9).map (fun i => (i.zero, i.size, i.bytes)) = some (some (.string ⟨#[]⟩), 1, 16) := by kernel_rfl
theorem Jom (a b : List (List UInt8)) : txs5 (a ++ b) = txs5 a ++ txs5 b := by simp [txs5]
section
variable {B r : Nat} {c : Rc} {D : Dk.St} {w : World}
theorem Jkp (h : RfIn B r c D w) : Calls Tryz.prog 103 #[.pointer (some ⟨r, 0, none⟩)] w (RowT (Dk.names D.L) w) := by
 obtain ⟨j0, hj, hy0, hy1, hy2⟩ := info_parts Jol;have HI := Qh h;have hfew := h.few;have HN := Qh (show (Dk.names D.L).length = D.L.length from by simp [Dk.names]);clear h;go_enter Tryz.func103, Tryz.ntmps103;go_wp2_with fail;go_loopw [3, 4] (fun v i wr => ∃ (k : Nat) (bo : Option Addr) (bc : Nat), k ≤ D.L.length ∧ i = .int .i64 k ∧ v = .slice bo k bc ∧ Hid (wr.ownsRow w.heap.size 9 1 (.slice bo k bc) k (txs5 ((Dk.names D.L).take k)) ∧ Below w.heap.size w wr)) (fun _ i _ => D.L.length - (intOf i).toNat)
 case atStart => exact ⟨0, none, 0, Nat.zero_le _, rfl, rfl, Qh ⟨World.ownsRow_nil _ _ _ _, Below.refl _ _⟩⟩
 case round =>
  rename_i wr
  obtain ⟨k, bo, bc, hk, rfl, rfl, HH⟩ := hrel;have HI2 := Qh (HI.o.below HH.o.2);obtain ⟨-, -, -, -, x4, -, -⟩ := HI2.o.s;by_cases hlt : k < D.L.length
  ·have d1 : decide ((k : Int) < (D.L.length : Int)) = true := by simp; omega
   have d1' : decide (k < D.L.length) = true := by simp; omega
   obtain ⟨g, hg, y0, -, -⟩ := Ja4 HI2.o.row rfl hlt;rw [hg] at x4;have hi1 : (0 : Int) ≤ (k : Int) := by omega
   have hi2 : (k : Int) < (D.L.length : Int) := by omega
   have HTK := Qh (show txs5 ((Dk.names D.L).take (k + 1)) = txs5 ((Dk.names D.L).take k) ++ [.string (S (D.L[k]).name)] from by
    rw [Jcs _ k (by rw [HN.o]; exact hlt), Jom]
    simp [txs5, Dk.names])
   clear HI2;generalize (D.L[k]).name = u at *;go_wp2_with (at_builtin; refine wpList_append_own _ rfl _ _ 74 rfl w.heap.size 9 j0 (.string ⟨#[]⟩) 1 16 Tryz.underlying74 hj hy0 hy1 hy2 rfl (by decide) (.slice bo k bc) k _ rfl (HH.o.1.alloc _) ⟨wr.heap.size, 0, none⟩ 1 1 [.string (S u)] rfl rfl (cell_one_new wr (.string (S u)) 9) (by simp [Value.oneCell']) (by unfold maxLen; omega) (by omega) (by have := HH.o.2.size; simp; omega) ?_; intro v8 w8 ho8 hg8 hn8; obtain ⟨a8, c8, rfl⟩ := Jac ho8; have HO8 := Qh (show w8.ownsRow w.heap.size 9 1 (.slice a8 (k + 1) c8) (k + 1) (txs5 ((Dk.names D.L).take (k + 1))) ∧ Below w.heap.size w w8 from ⟨by rw [HTK.o]; exact ho8, (HH.o.2.alloc HH.o.2.size _).grown hg8 (by have := HH.o.2.size; simp; omega) (fun q hq => (HH.o.1.lt q hq).1)⟩); clear ho8 hg8 hn8)
   go_roundw
   case rel => exact ⟨k + 1, a8, c8, by omega, by go_num, rfl, HO8⟩
   case measure => simp [intOf]; omega
  ·have d1 : decide ((k : Int) < (D.L.length : Int)) = false := by simp; omega
   have d1' : decide (k < D.L.length) = false := by simp; omega
   obtain rfl : k = D.L.length := by omega
   have HFIN := Qh (show (Dk.names D.L).take D.L.length = Dk.names D.L from by rw [← HN.o, List.take_length]);go_wp2_with fail;go_ret;refine ⟨bo, bc, by rw [HN.o]; rfl, ?_, HH.o.2⟩;have := HH.o.1;rw [HFIN.o] at this;rw [HN.o];exact this
theorem Jlg (h : RfIn B r c D w) : Calls Tryz.prog 104 #[.pointer (some ⟨r, 0, none⟩)] w (RowN (Dk.unsynced D.L) w) := by
 obtain ⟨j0, hj, hy0, hy1, hy2⟩ := info_parts Jcw;have HI := Qh h;have hfew := h.few;have HN := Qh (show (Dk.unsynced D.L).length = D.L.length from by simp [Dk.unsynced]);have HS := Qh (fun f hf => h.ok.safe f hf);have HZ := Qh (fun f (hf : f ∈ D.L) => Nat.le_trans (Dk.mem_size h.ok hf) h.small);clear h;go_enter Tryz.func104, Tryz.ntmps104;go_wp2_with fail;go_loopw [3, 4] (fun v i wr => ∃ (k : Nat) (bo : Option Addr) (bc : Nat), k ≤ D.L.length ∧ i = .int .i64 k ∧ v = .slice bo k bc ∧ Hid (wr.ownsRow w.heap.size 3 1 (.slice bo k bc) k (Jap ((Dk.unsynced D.L).take k)) ∧ Below w.heap.size w wr)) (fun _ i _ => D.L.length - (intOf i).toNat)
 case atStart => exact ⟨0, none, 0, Nat.zero_le _, rfl, rfl, Qh ⟨World.ownsRow_nil _ _ _ _, Below.refl _ _⟩⟩
 case round =>
  rename_i wr
  obtain ⟨k, bo, bc, hk, rfl, rfl, HH⟩ := hrel;have HI2 := Qh (HI.o.below HH.o.2);obtain ⟨-, -, -, -, x4, -, -⟩ := HI2.o.s;by_cases hlt : k < D.L.length
  ·have d1 : decide ((k : Int) < (D.L.length : Int)) = true := by simp; omega
   have d1' : decide (k < D.L.length) = true := by simp; omega
   obtain ⟨g, hg, -, y1, y2⟩ := Ja4 HI2.o.row rfl hlt;rw [hg] at x4;have hi1 : (0 : Int) ≤ (k : Int) := by omega
   have hi2 : (k : Int) < (D.L.length : Int) := by omega
   have hs := HS.o _ (List.getElem_mem hlt);have hz := HZ.o _ (List.getElem_mem hlt)
   have HTK := Qh (show Jap ((Dk.unsynced D.L).take (k + 1)) = Jap ((Dk.unsynced D.L).take k) ++ [.int .i64 (((D.L[k]).dat.length : Int) - ((D.L[k]).safe : Int))] from by
    rw [Jcs _ k (by rw [HN.o]; exact hlt), Jha]
    simp [Jap, Dk.unsynced])
   clear HI2;generalize D.L[k] = fl at *;have HCE := Qh (show wr.cell? ⟨r, 4, none⟩ = some (.slice (some ⟨g, 0, none⟩) D.L.length c.c) ∧ wr.cell? ⟨g, k * 3 + 1, none⟩ = some (.string (S fl.dat)) ∧ wr.cell? ⟨g, k * 3 + 2, none⟩ = some (.int .i64 fl.safe) from ⟨x4, y1, y2⟩);have HSH := Qh (show ∀ wx, Below wr.heap.size wr wx → wx.cell? ⟨r, 4, none⟩ = some (.slice (some ⟨g, 0, none⟩) D.L.length c.c) ∧ wx.cell? ⟨g, k * 3 + 1, none⟩ = some (.string (S fl.dat)) ∧ wx.cell? ⟨g, k * 3 + 2, none⟩ = some (.int .i64 fl.safe) from fun wx hx => ⟨(hx.cell (p := ⟨r, 4, none⟩) (Jaz HCE.o.1)).trans HCE.o.1, (hx.cell (p := ⟨g, k * 3 + 1, none⟩) (Jaz HCE.o.2.1)).trans HCE.o.2.1, (hx.cell (p := ⟨g, k * 3 + 2, none⟩) (Jaz HCE.o.2.2)).trans HCE.o.2.2⟩);have e0 : IntKind.i64.wrap ((fl.dat.length : Int) - (fl.safe : Int)) = (fl.dat.length : Int) - (fl.safe : Int) := IntWalk.i64_in _ (by omega);go_upto_region 5 with fail
   have HB := Qh (Below.refl wr.heap.size wr).drew;have HO := Qh (Jaf HH.o.1 HB.o);refine Jaj (S := fun V => V.cell? ⟨r, 4, none⟩ = some (.slice (some ⟨g, 0, none⟩) D.L.length c.c) ∧ V.cell? ⟨g, k * 3 + 1, none⟩ = some (.string (S fl.dat)) ∧ V.cell? ⟨g, k * 3 + 2, none⟩ = some (.int .i64 fl.safe)) 20 (by kernel_rfl) ?_ (fun hQ => ?_)
   ·exact HSH.o _ HB.o
   obtain ⟨wd, hwd⟩ : ∃ x, x = World.drew wr := ⟨_, rfl⟩
   rw [← hwd] at HB HO hQ ⊢;clear hwd x4 y1 y2;refine tkY 0 ?_;refine tkY 1 ?_;refine tkY 2 ?_;refine tkY 3 ?_;refine tkZ 4 [6, 7, 8, 9, 18, 19, 20, 21] ?_;refine tkY 5 ?_;refine tkY 6 ?_;refine tkY 7 ?_;refine tkZ 8 [9, 18, 19, 20, 21] ?_;refine tkY 9 ?_;refine tkY 10 ?_;refine tkY 11 ?_;refine tkY 12 ?_;refine tkZ 13 [15, 16, 17, 18, 19, 20, 21] ?_;refine tkY 14 ?_;refine tkY 15 ?_;refine tkY 16 ?_;refine tkZ 17 [18, 19, 20, 21] ?_;refine tkY 18 ?_;refine tqZ 19 fun K hK => ?_
   go_simp;have HX := Qh (cell_one_new wd (.int .i64 ((fl.dat.length : Int) - (fl.safe : Int))) 3);replace HO := Qh (HO.o.alloc (.cells #[(.int .i64 ((fl.dat.length : Int) - (fl.safe : Int)))] 3));replace HB := Qh (HB.o.alloc HB.o.size (.cells #[(.int .i64 ((fl.dat.length : Int) - (fl.safe : Int)))] 3));generalize hq9 : wd.heap.size = q9 at *;generalize hw9 : wd.alloc (.cells #[(.int .i64 ((fl.dat.length : Int) - (fl.safe : Int)))] 3) = w9 at *;clear hq9 hw9;refine hK.out _ _ ?_ (fun hQ => ?_)
   ·exact HSH.o _ HB.o
   clear hK K;refine tqL 20 fun K hK => ?_
   refine Jag (by rfl) _ _ 40 (by rfl) w.heap.size 3 j0 (.int .i64 0) 1 8 Tryz.underlying40 hj hy0 hy1 hy2 rfl (by decide) (.slice bo k bc) k _ (by rfl) HO.o ⟨q9, 0, none⟩ 1 1 [(.int .i64 ((fl.dat.length : Int) - (fl.safe : Int)))] (by rfl) rfl HX.o (by simp [Value.oneCell']) (by unfold maxLen; omega) (by omega) (Nat.le_trans HH.o.2.size HB.o.size) ?_;intro v8 w8 ho8 hg8 _;obtain ⟨a8, c8, rfl⟩ := Jac ho8;have HO8 := Qh (show w8.ownsRow w.heap.size 3 1 (.slice a8 (k + 1) c8) (k + 1) (Jap ((Dk.unsynced D.L).take (k + 1))) ∧ Below w.heap.size w w8 from ⟨by rw [HTK.o]; exact ho8, (Jaa HH.o.2 HB.o).grown hg8 (Nat.le_trans HH.o.2.size HB.o.size) (fun q hq => (HO.o.lt q hq).1)⟩);clear ho8 hg8 HO HX;refine hK.out _ _ ?_;clear hK K;refine tkA 21 ?_;refine wpAny_done (by kernel_rfl) ?_ _;go_wp2_with fail;go_roundw
   case rel => exact ⟨k + 1, a8, c8, by omega, by go_num, rfl, HO8⟩
   case measure => simp [intOf]; omega
  ·have d1 : decide ((k : Int) < (D.L.length : Int)) = false := by simp; omega
   have d1' : decide (k < D.L.length) = false := by simp; omega
   obtain rfl : k = D.L.length := by omega
   have HFIN := Qh (show (Dk.unsynced D.L).take D.L.length = Dk.unsynced D.L from by rw [← HN.o, List.take_length]);go_wp2_with fail;go_ret;refine ⟨bo, bc, by rw [HN.o]; rfl, ?_, HH.o.2⟩;have := HH.o.1;rw [HFIN.o] at this;rw [HN.o];exact this
end
end
section
open Go Go.RowKit Go.Maps
theorem Jlh (w : World) (base : Nat) (t ty : TypeId) (i : TypeInfo) (ht : Tryz.prog.underlying t = some (.slice 3)) (hi : Tryz.prog.info? 3 = some i) (hz : i.zero = some (.int .i64 0)) (h1 : i.size = 1) (h2 : i.bytes = 8)
  (v : Value) (n : Nat) (xs : List Value) (ho : w.ownsRow base 3 1 v n xs) (ao : Option Addr) (c : Nat) (L : List Int) (hs : NsA5 w ao L) (h63 : n + L.length ≤ 2000000) (hbase : base ≤ w.heap.size) :
  ∃ v' w', (Builtin.append_ #[t, t] ty #[v, .slice ao L.length c]).run Tryz.prog w = .ok v' w' ∧ w'.ownsRow base 3 1 v' (n + L.length) (xs ++ Jap L) ∧ w.grownBy w' v.ownBlock ∧ (v'.ownBlock = v.ownBlock ∨ v'.ownBlock = some w.heap.size) := by
 cases ao with
 | none =>
  have hL : L = [] := by
   rcases L with _ | ⟨y, L⟩
   ·rfl
   ·obtain ⟨g, off, e, _⟩ := hs (by simp)
    cases e
  subst hL;exact ⟨v, w, Jev w base t ty _ i 1 ht hi ho c, by simpa [Jap] using ho, World.grownBy.refl w _, .inl rfl⟩
 | some ad =>
  obtain ⟨v', w', hrun, h5, h6, h7, h8⟩ := run_append_own_at (P := Tryz.prog) w base t ty _ i _ 1 8 ht hi hz h1 h2 rfl (by decide) v n xs ho ad L.length c (Jap L) (by simp [Jap]) (fun j u hu => by
   have hn : L ≠ [] := fun e => by rw [e] at hu; simp [Jap] at hu
   obtain ⟨g, off, e, hc⟩ := hs hn;cases e
   have hj : j < L.length := by
    rcases Nat.lt_or_ge j L.length with q | q
    ·exact q
    ·rw [List.getElem?_eq_none (by simpa [Jap] using q)] at hu; cases hu
   have := hc j hj;rw [Addr.add_lit];rw [this, ← hu]
   simp [Jap, List.getD, hj]) (fun u hu => by
   unfold Jap at hu;obtain ⟨y, _, rfl⟩ := List.mem_map.1 hu
   rfl) (by unfold maxLen; omega) (by omega) hbase
  exact ⟨v', w', hrun, h5, h6, h8⟩
theorem Jfc {w : World} {ops : Array Oper} {rest : List Oper} {o : Oper} {a : Act} {Q : Exit → Act → World → Prop} (hgd : o.guard = none) (s x : Operand) (t : TypeId)
  (hop : o.op = .call { callee := .builtin .append, args := #[s, x], argTypes := #[t, t] })
  (base : Nat) (i : TypeInfo) (ht : Tryz.prog.underlying t = some (.slice 3)) (hi : Tryz.prog.info? 3 = some i) (hz : i.zero = some (.int .i64 0)) (h1 : i.size = 1) (h2 : i.bytes = 8)
  (v : Value) (n : Nat) (xs : List Value) (hv : a.eval s = v) (ho : w.ownsRow base 3 1 v n xs) (ao : Option Addr) (c : Nat) (L : List Int) (hx : a.eval x = .slice ao L.length c) (hs : NsA5 w ao L) (h63 : n + L.length ≤ 2000000) (hbase : base ≤ w.heap.size)
  (h : ∀ v' w', w'.ownsRow base 3 1 v' (n + L.length) (xs ++ Jap L) → w.grownBy w' v.ownBlock → (v'.ownBlock = v.ownBlock ∨ v'.ownBlock = some w.heap.size) → wpList Tryz.prog ops Q rest (a.put o.dst v') w') :
  wpList Tryz.prog ops Q (o :: rest) a w := by
 refine wpList_plain hgd fun K hK => ?_
 obtain ⟨v', w', hrun, h5, h6, h7⟩ := Jlh w base t o.type i ht hi hz h1 h2 v n xs ho ao c L hs h63 hbase;unfold Oper.wp execOp;simp only [hop, resolve, invoke, builtin, Sem.run_bind, Sem.run_pure, Result.andThen_ok, List.map_toArray, List.map_cons, List.map_nil, hv, hx, hrun];exact hK _ _ (h v' w' h5 h6 h7)
structure RfW (B r : Nat) (c : Rc) (sb : Bool) (D : Dk.St) (w : World) : Prop where
 box : Bk #[.int .i64 D.room, .int .i64 D.starts, .bool (!D.up), .bool sb, .slice c.a D.L.length c.c, .int .i64 c.n, .slice c.ka c.ks.length c.kc] 83 w r
 row : w.ownsRow B 130 3 (.slice c.a D.L.length c.c) D.L.length (flsV D.L)
 krow : w.ownsRow B 3 1 (.slice c.ka c.ks.length c.kc) c.ks.length (Jap c.ks)
 ok : Dk.OkL D.L
 few : D.L.length ≤ 1024
 small : Dk.size D.L ≤ 1048576
section
variable {B r : Nat} {c : Rc} {D : Dk.St} {w w' : World}
theorem RfIn.weak (h : RfIn B r c D w) : RfW B r c D.set.isSome D w := ⟨h.box, h.row, h.krow, h.ok, h.few, h.small⟩
theorem RfW.rebox {sb : Bool} (h : RfW B r c sb D w) {w' : World} (n' : Int) (D' : Dk.St) (hL : D'.L = D.L) (v : Value) (hbx : Bk (rfC { c with n := n' } D') 83 w' r) (hw : Wr (fun k => k = r) w w') (hset : ∀ p, D'.set = some p → n' = (p.1 : Int) ∧ c.ks = p.2) : OpI B r c v D' w (.returned v) w' := by
 have e1 := Jal h.row hw (fun q hq e => Jao h.box h.row (by decide) q hq e);have e2 := Jal h.krow hw (fun q hq e => Jao h.box h.krow (by decide) q hq e);refine ⟨rfl, { c with n := n' }, ⟨hbx, by rw [hL]; exact e1, e2, hset, by rw [hL]; exact h.ok, by rw [hL]; exact h.few, by rw [hL]; exact h.small⟩, fun b hb => .inl hb, hw.mono (fun k hk => .inl (.inl hk))⟩
theorem OpI.same {v : Value} (h : RfIn B r c D w) : OpI B r c v D w (.returned v) w := ⟨rfl, c, h, fun b hb => .inl hb, Wr.refl _ _⟩
theorem Jpz (h : RfIn B r c D w) (hs : D.starts ≤ 1000000000) : Calls Tryz.prog 47 #[.pointer (some ⟨r, 0, none⟩)] w (OpI B r c (.int .i64 (Dk.start D).1) (Dk.start D).2 w) := by
 obtain ⟨x0, x1, x2, x3, x4, x5, x6⟩ := h.s;have f1 := h.box.free 1;have f2 := h.box.free 2;cases hu : D.up with
 | true =>
  have HQ := Qh (show OpI B r c (.int .i64 (Dk.start D).1) (Dk.start D).2 w (.returned (.int .i64 2)) w from by
   rw [show Dk.start D = (2, D) from by unfold Dk.start; rw [hu]; rfl]; exact OpI.same h)
  rw [hu] at x2;clear h;go_enter Tryz.func47, Tryz.ntmps47;go_wp2_with fail;go_ret;exact HQ.o
 | false =>
  have HQ := Qh (show OpI B r c (.int .i64 (Dk.start D).1) (Dk.start D).2 w (.returned (.int .i64 0)) ((w.setCell ⟨r, 2, none⟩ (.bool false)).setCell ⟨r, 1, none⟩ (.int .i64 ((D.starts : Int) + 1))) from by
   rw [Dk.start_down hu];refine h.weak.rebox c.n (Dk.woke D) rfl _ ?_ ((Jai (A := fun k => k = r) w ⟨r, 2, none⟩ _ rfl).trans (Jai (A := fun k => k = r) _ ⟨r, 1, none⟩ _ rfl)) h.set;have := (h.box.set 2 (.bool false)).set 1 (.int .i64 ((D.starts : Int) + 1))
   exact this)
  have HN := Qh ((h.box.set 2 (.bool false)).cell 1);have hn1 : (w.setCell ⟨r, 2, none⟩ (.bool false)).cell? ⟨r, 1, none⟩ = some (.int .i64 D.starts) := HN.o;have fn1 := (h.box.set 2 (.bool false)).free 1;rw [hu] at x2;clear h;go_enter Tryz.func47, Tryz.ntmps47;go_wp2_with fail;go_ret;exact HQ.o
def LastR5 (B r : Nat) (c : Rc) (D : Dk.St) (w : World) (e : Ending) (w' : World) : Prop :=
 (D.set = none ∧ e = .returned (.bool false) ∧ w = w') ∨
 (∃ n ks, D.set = some (n + 1, ks) ∧ e = .returned (.bool false) ∧ OpI B r c (.bool false) { D with set := some (n, ks) } w e w') ∨
 (∃ ks, D.set = some (0, ks) ∧ e = .returned (.bool true) ∧ c.ks = ks ∧ RfW B r { c with n := -1 } true D w' ∧ Wr (Fr r c) w w')
theorem Ji0 (h : RfIn B r c D w) (hn : ∀ p, D.set = some p → (p.1 : Int) ≤ 9223372036854775807) : Calls Tryz.prog 149 #[.pointer (some ⟨r, 0, none⟩)] w (LastR5 B r c D w) := by
 obtain ⟨x0, x1, x2, x3, x4, x5, x6⟩ := h.s;have f5 := h.box.free 5;cases hse : D.set with
 | none =>
  rw [hse] at x3;have x3' : w.cell? ⟨r, 3, none⟩ = some (.bool false) := x3;clear x3;go_enter Tryz.func149, Tryz.ntmps149;go_wp2_with fail;go_ret;exact .inl ⟨hse, rfl, rfl⟩
 | some p =>
  obtain ⟨n, ks⟩ := p;obtain ⟨h1, h2⟩ := h.set _ hse;have hnn := hn _ hse;simp only at h1 hnn;rw [hse] at x3;have x3' : w.cell? ⟨r, 3, none⟩ = some (.bool true) := x3;rw [h1] at x5;clear x3;obtain ⟨nv, hnv⟩ : ∃ x : Int, x = (n : Int) - 1 := ⟨_, rfl⟩
  have e1 : IntKind.i64.wrap ((n : Int) - 1) = nv := by rw [IntWalk.i64_in _ (by omega)]; exact hnv.symm
  have hb5 := h.box.set 5 (.int .i64 nv);have hc5 : (w.setCell ⟨r, 5, none⟩ (.int .i64 nv)).cell? ⟨r, 5, none⟩ = some (.int .i64 nv) := hb5.cell 5
  have HQ := Qh (show ∀ m, n = m + 1 → OpI B r c (.bool false) { D with set := some (m, ks) } w (.returned (.bool false)) (w.setCell ⟨r, 5, none⟩ (.int .i64 nv)) from fun m hm => by
   refine h.weak.rebox nv { D with set := some (m, ks) } rfl _ ?_ (Jai (A := fun k => k = r) w ⟨r, 5, none⟩ _ rfl) (fun p hp => by cases hp; exact ⟨by simp only; omega, h2⟩);have e9 : rfC { c with n := nv } { D with set := some (m, ks) } = (rfC c D).setIfInBounds 5 (.int .i64 nv) := by unfold rfC; rw [hse]; rfl
   rw [e9]
   exact hb5)
  have HQ0 := Qh (show n = 0 → RfW B r { c with n := -1 } true D (w.setCell ⟨r, 5, none⟩ (.int .i64 nv)) from fun hm => by
   have hw := Jai (A := fun k => k = r) w ⟨r, 5, none⟩ (.int .i64 nv) rfl;refine ⟨?_, Jal h.row hw (fun q hq e => Jao h.box h.row (by decide) q hq e), Jal h.krow hw (fun q hq e => Jao h.box h.krow (by decide) q hq e), h.ok, h.few, h.small⟩;have e9 : (#[.int .i64 D.room, .int .i64 D.starts, .bool (!D.up), .bool true, .slice c.a D.L.length c.c, .int .i64 (-1), .slice c.ka c.ks.length c.kc] : Array Value) = (rfC c D).setIfInBounds 5 (.int .i64 nv) := by unfold rfC; rw [hse, hnv, hm]; rfl
   rw [e9]
   exact hb5)
  have HW := Qh (show Wr (Fr r c) w (w.setCell ⟨r, 5, none⟩ (.int .i64 nv)) from Jai _ _ _ (.inl rfl));have HNV := Qh hnv;clear h hb5 hn h1 hnv;go_enter Tryz.func149, Tryz.ntmps149;by_cases hz : n = 0
  ·have d1 : decide (nv < (0 : Int)) = true := decide_eq_true (by have := HNV.o; omega)
   have HZ := Qh hz;clear hz;go_wp2_with fail;go_ret;exact .inr (.inr ⟨ks, by rw [hse, HZ.o], rfl, h2, HQ0.o HZ.o, HW.o⟩)
  ·have d1 : decide (nv < (0 : Int)) = false := decide_eq_false (by have := HNV.o; omega)
   obtain ⟨m, hm⟩ : ∃ m, n = m + 1 := ⟨n - 1, by omega⟩
   have HM := Qh hm;clear hm;go_wp2_with fail;go_ret;exact .inr (.inl ⟨m, ks, by rw [hse, HM.o], rfl, HQ.o m HM.o⟩)
theorem rFail5 (h : RfIn B r c D w) (hB : B ≤ w.heap.size) (n : Int) (hn : n ≤ 9223372036854775807) (ks : List Int) (ao : Option Addr) (cap : Nat) (hK : Dk.KsOk ks) (hk : NsA5 w ao ks) (hkr : ∀ x, ks ≠ [] → ao = some x → x.block ≠ r) : Calls Tryz.prog 48 #[.pointer (some ⟨r, 0, none⟩), .int .i64 n, .slice ao ks.length cap] w (OpI B r c (.int .i64 (Dk.fail n ks D).1) (Dk.fail n ks D).2 w) := by
 obtain ⟨j0, hj, hy0, hy1, hy2⟩ := info_parts Jcw;obtain ⟨x0, x1, x2, x3, x4, x5, x6⟩ := h.s;have f3 := h.box.free 3;cases hu : D.up with
 | false =>
  have HQ := Qh (show OpI B r c (.int .i64 (Dk.fail n ks D).1) (Dk.fail n ks D).2 w (.returned (.int .i64 51)) w from by
   rw [show Dk.fail n ks D = (51, D) from by unfold Dk.fail; rw [if_pos hu]]; exact OpI.same h)
  rw [hu] at x2;clear h hk;go_enter Tryz.func48, Tryz.ntmps48;go_wp2_with fail;go_ret;exact HQ.o
 | true =>
  by_cases hn0 : n < 0
  ·have HQ := Qh (show OpI B r c (.int .i64 (Dk.fail n ks D).1) (Dk.fail n ks D).2 w (.returned (.int .i64 2)) w from by
    rw [show Dk.fail n ks D = (2, D) from by unfold Dk.fail; rw [if_neg (by rw [hu]; decide), if_pos hn0]]; exact OpI.same h)
   rw [hu] at x2;have d1 : decide (n < (0 : Int)) = true := decide_eq_true hn0;clear h hk;go_enter Tryz.func48, Tryz.ntmps48;go_wp2_with fail;go_ret;exact HQ.o
  ·have d1 : decide (n < (0 : Int)) = false := decide_eq_false hn0
   have hkl := hK.len;have hbx := (h.box.set 3 (.bool true)).set 5 (.int .i64 n);have hf5 := (h.box.set 3 (.bool true)).free 5;obtain ⟨w2, hw2⟩ : ∃ x, x = (w.setCell ⟨r, 3, none⟩ (.bool true)).setCell ⟨r, 5, none⟩ (.int .i64 n) := ⟨_, rfl⟩
   have hwr := (Jai (A := fun k => k = r) w ⟨r, 3, none⟩ (.bool true) rfl).trans (Jai (A := fun k => k = r) _ ⟨r, 5, none⟩ (.int .i64 n) rfl);rw [← hw2] at hbx hwr;have ha := (Below.refl w2.heap.size w2).alloc (Nat.le_refl _) (.cells #[] 3);have HKS := Qh ((hk.wr hwr (fun x hx hax e => hkr x hx hax e)).below ha);have HBX := Qh (hbx.below ha);have HSZ := Qh (show w.heap.size ≤ w2.heap.size from hwr.size);have HOo := Qh (World.ownsRow_made (base := w2.heap.size) (e := 3) (size := 1) w2 #[] 0 (Nat.le_refl _) (by unfold maxLen; omega) rfl)
   have HQ := Qh (show ∀ w5 a5 c5, Below w2.heap.size w2 w5 → w5.ownsRow w2.heap.size 3 1 (.slice a5 ks.length c5) ks.length (Jap ks) → OpI B r c (.int .i64 (Dk.fail n ks D).1) (Dk.fail n ks D).2 w (.returned (.int .i64 0)) (w5.setCell ⟨r, 6, none⟩ (.slice a5 ks.length c5)) from fun w5 a5 c5 hb5 ho => by
    rw [show Dk.fail n ks D = (0, { D with set := some (n.toNat, ks) }) from by unfold Dk.fail; rw [if_neg (by rw [hu]; decide), if_neg hn0]];have hbx5 := (hbx.below hb5).set 6 (.slice a5 ks.length c5);have hw5 : Wr (fun k => k = r) w w5 := hwr.trans (Jad hb5);refine ⟨rfl, ⟨c.a, c.c, n, a5, c5, ks⟩, ⟨?_, ?_, ?_, fun p hp => by cases hp; exact ⟨by simp only; omega, rfl⟩, h.ok, h.few, h.small⟩, fun b hb => ?_, (hw5.trans (Jai (A := fun k => k = r) _ ⟨r, 6, none⟩ _ rfl)).mono (fun k hk => .inl (.inl hk))⟩
    ·exact hbx5
    ·exact Jaw (Jal h.row hw5 (fun q hq e => Jao h.box h.row (by decide) q hq e)) (Jao h.box h.row (by decide))
    ·exact Jaw (Jaq ho (Nat.le_trans hB hwr.size)) (Jao (hbx.below hb5) ho (by decide))
    ·rcases hb with hb | hb | ⟨x, hx, rfl⟩
     ·exact .inl (.inl hb)
     ·exact .inl (.inr (.inl hb))
     ·have := ho.lt x.block (by rw [show a5 = some x from hx]; rfl)
      exact .inr (Nat.le_trans hwr.size this.1))
   rw [hu] at x2;clear h hk hbx hwr;go_enter Tryz.func48, Tryz.ntmps48;go_upto_region 7 with fail
   rw [← hw2];clear hw2;go_wp2_with (at_builtin; refine Jfc rfl _ _ 40 rfl w2.heap.size j0 Tryz.underlying40 hj hy0 hy1 hy2 (.slice (some ⟨w2.heap.size, 0, none⟩) 0 0) 0 [] rfl HOo.o ao cap ks rfl HKS.o (by omega) (by simp) ?_; intro v5 w5 ho5 hg5 _; rw [Nat.zero_add, List.nil_append] at ho5; obtain ⟨a5, c5, rfl⟩ := Jac ho5; have HB5 := Qh (show Below w2.heap.size w2 w5 from ((Below.refl w2.heap.size w2).alloc (Nat.le_refl _) _).grown hg5 (by simp) (fun q hq => (HOo.o.lt q hq).1)); have HO5 := Qh ho5; have y6 := (HBX.o.grown hg5 (fun e => by have h1 := HOo.o; have h2 := Jao HBX.o h1 (by decide) r e.symm; exact h2 rfl)).cell 6; have g6 := (HBX.o.grown hg5 (fun e => by have h1 := HOo.o; have h2 := Jao HBX.o h1 (by decide) r e.symm; exact h2 rfl)).free 6; clear ho5 hg5)
   go_ret;exact HQ.o w5 a5 c5 HB5.o HO5.o
end
end
section
open Go Go.RowKit Go.Maps
theorem Jbr {w : World} {B sz : Nat} {e : TypeId} {g n cap : Nat} {xs : List Value} (h : w.ownsRow B e sz (.slice (some ⟨g, 0, none⟩) n cap) n xs) (j : Nat) (v : Value) :
  (w.setCell ⟨g, j, none⟩ v).ownsRow B e sz (.slice (some ⟨g, 0, none⟩) n cap) n (xs.set j v) ∧ w.frozen? ⟨g, j, none⟩ = false := by
 rcases h.2 with ⟨e', _⟩ | ⟨g', cap', cur, e', hB, hg, hc, hm, hs, ht⟩
 ·cases e'
 ·injection e' with e1 e2 e3
  injection e1 with e1
  injection e1 with e1
  subst e1; subst e3;have hr : Bk cur e w g := hg;refine ⟨⟨by rw [List.length_set]; exact h.1, .inr ⟨g, cap, cur.setIfInBounds j v, rfl, hB, hr.set j v, hc, hm, by simpa using hs, ?_⟩⟩, hr.free j⟩;rw [← ht, Array.toList_setIfInBounds, List.take_set]
theorem Jgq {w : World} {a b : Addr} {v u : Value} (h : w.cell? b = some u) (hne : b.block ≠ a.block) : (w.setCell a v).cell? b = some u := by
 rw [← h];exact World.cell?_of_block (a := b) (Below.heap_setCell _ _ _ _ hne)
structure CwI (w : World) (B r : Nat) (c : Rc) (D : Dk.St) (ks : List Int) (ao : Option Addr) (k : Nat) (wr : World) : Prop where
 box : Bk (rfC c (Dk.fall ks D)) 83 wr r
 row : wr.ownsRow B 130 3 (.slice c.a D.L.length c.c) D.L.length (flsV (Dk.mix ks D.L k))
 krow : wr.ownsRow B 3 1 (.slice c.ka c.ks.length c.kc) c.ks.length (Jap c.ks)
 wro : Wr (Fr r c) w wr
 keep : NsA5 wr ao ks
section
variable {w wr wr' : World} {B r k : Nat} {c : Rc} {D : Dk.St} {ks : List Int} {ao : Option Addr}
theorem CwI.below (h : CwI w B r c D ks ao k wr) (hb : Below wr.heap.size wr wr') : CwI w B r c D ks ao k wr' := ⟨h.box.below hb, Jaf h.row hb, Jaf h.krow hb, h.wro.trans (Jad hb), h.keep.below hb⟩
theorem CwI.file (h : CwI w B r c D ks ao k wr) (hk : k < D.L.length) : ∃ g, c.a = some ⟨g, 0, none⟩ ∧ wr.cell? ⟨g, k * 3, none⟩ = some (.string (S (D.L[k]).name)) ∧ wr.cell? ⟨g, k * 3 + 1, none⟩ = some (.string (S (D.L[k]).dat)) ∧ wr.cell? ⟨g, k * 3 + 2, none⟩ = some (.int .i64 (D.L[k]).safe) := by
 obtain ⟨h1, h2⟩ := Dk.mix_at ks D.L hk;have := Ja4 h.row (Dk.mix_len ks D.L k) h1;rw [h2] at this;exact this
theorem CwI.next (h : CwI w B r c D ks ao k wr) (hk : k < D.L.length) {g : Nat} (hg : c.a = some ⟨g, 0, none⟩) (hkg : ∀ x, ks ≠ [] → ao = some x → x.block ≠ g) (st : Nat) (hst : Dk.left D.L[k] (ks.getD k 0) = ⟨(D.L[k]).name, (D.L[k]).dat.take st, st⟩) :
  CwI w B r c D ks ao (k + 1) ((wr.setCell ⟨g, k * 3 + 1, none⟩ (.string (S ((D.L[k]).dat.take st)))).setCell ⟨g, k * 3 + 2, none⟩ (.int .i64 (st : Int))) := by
 obtain ⟨h1, h2⟩ := Dk.mix_at ks D.L hk;have hr := h.row;rw [hg] at hr;have s1 := (Jbr (Jbr hr (k * 3 + 1) (.string (S ((D.L[k]).dat.take st)))).1 (k * 3 + 2) (.int .i64 (st : Int))).1
 have e1 : ((flsV (Dk.mix ks D.L k)).set (k * 3 + 1) (.string (S ((D.L[k]).dat.take st)))).set (k * 3 + 2) (.int .i64 (st : Int)) = flsV (Dk.mix ks D.L (k + 1)) := by
  rw [Jfo _ k h1 1 (by decide) _ ⟨(D.L[k]).name, (D.L[k]).dat.take st, (D.L[k]).safe⟩ (by rw [h2]; rfl)];rw [Jfo _ k (by rw [List.length_set]; exact h1) 2 (by decide) _ ⟨(D.L[k]).name, (D.L[k]).dat.take st, st⟩ (by rw [List.getElem_set_self]; rfl)];rw [List.set_set, ← hst, Dk.mix_set ks D.L hk]
 rw [e1] at s1;have hne := fun (q : Nat) (hq : (Value.slice (some ⟨g, 0, none⟩) D.L.length c.c).ownBlock = some q) => Jao h.box hr (by decide) q hq
 have hgr : r ≠ g := fun e => hne g rfl e.symm
 have hw := (Jai (A := fun x => x = g) wr ⟨g, k * 3 + 1, none⟩ (.string (S ((D.L[k]).dat.take st))) rfl).trans (Jai (A := fun x => x = g) _ ⟨g, k * 3 + 2, none⟩ (.int .i64 (st : Int)) rfl);refine ⟨(h.box.other hgr _ _).other hgr _ _, by rw [hg]; exact s1, Jal h.krow hw (fun q hq e => ?_), h.wro.trans (hw.mono (fun x hx => .inl (.inr (.inl ⟨_, hg, hx⟩)))), h.keep.wr (A := fun x => x = g) hw (fun x hn hx e => hkg x hn hx e)⟩;rcases hr.2 with ⟨e', _⟩ | ⟨g', cap', cur, e', hB, hgg, _⟩
 ·cases e'
 ·injection e' with e1 _ _
  injection e1 with e1
  injection e1 with e1
  have hbk : Bk cur 130 wr g := by rw [e1]; exact hgg
  exact Jao hbk h.krow (by decide) q hq e
end
theorem Jec {B r : Nat} {c : Rc} {sb : Bool} {D : Dk.St} {w : World} (h : RfW B r c sb D w) (hu : D.up = true) (ks : List Int) (ao : Option Addr) (cap : Nat) (hK : Dk.KsOk ks) (hk : NsA5 w ao ks) (hkr : ∀ x, ks ≠ [] → ao = some x → x.block ≠ r ∧ ∀ y, c.a = some y → x.block ≠ y.block) :
  Calls Tryz.prog 46 #[.pointer (some ⟨r, 0, none⟩), .slice ao ks.length cap] w (OpI B r c (.int .i64 0) (Dk.fall ks D) w) := by
 have x2 : w.cell? ⟨r, 2, none⟩ = some (.bool (!D.up)) := h.box.cell 2;rw [hu] at x2;have f2 := h.box.free 2;have f3 := (h.box.set 2 (.bool true)).free 3;have x3 : (w.setCell ⟨r, 2, none⟩ (.bool true)).cell? ⟨r, 3, none⟩ = some (.bool sb) := (h.box.set 2 (.bool true)).cell 3
 have hbx : Bk (rfC c (Dk.fall ks D)) 83 ((w.setCell ⟨r, 2, none⟩ (.bool true)).setCell ⟨r, 3, none⟩ (.bool false)) r := by
  have := (h.box.set 2 (.bool true)).set 3 (.bool false)
  have e9 : rfC c (Dk.fall ks D) = (#[.int .i64 D.room, .int .i64 D.starts, .bool (!D.up), .bool sb, .slice c.a D.L.length c.c, .int .i64 c.n, .slice c.ka c.ks.length c.kc].setIfInBounds 2 (.bool true)).setIfInBounds 3 (.bool false) := by
   unfold rfC Dk.fall;simp only [Dk.cut_len];rfl
  rw [e9]; exact this
 have hw := (Jai (A := fun k => k = r) w ⟨r, 2, none⟩ (.bool true) rfl).trans (Jai (A := fun k => k = r) _ ⟨r, 3, none⟩ (.bool false) rfl);obtain ⟨w2, hw2⟩ : ∃ x, x = (w.setCell ⟨r, 2, none⟩ (.bool true)).setCell ⟨r, 3, none⟩ (.bool false) := ⟨_, rfl⟩
 rw [← hw2] at hbx hw;have H0 := Qh (show CwI w B r c D ks ao 0 w2 from ⟨hbx, Jal (by rw [Dk.mix_zero]; exact h.row) hw (fun q hq e => Jao h.box h.row (by decide) q hq e), Jal h.krow hw (fun q hq e => Jao h.box h.krow (by decide) q hq e), hw.mono (fun x hx => .inl (.inl hx)), hk.wr (A := fun x => x = r) hw (fun x hn hx e => (hkr x hn hx).1 e)⟩);have HO := Qh h.ok;have hfew := h.few;have HZ := Qh h.small;have HKR := Qh hkr;have hkl := hK.len;have HKO := Qh hK.at_;clear h hk hkr hbx hw hK;go_enter Tryz.func46, Tryz.ntmps46;go_upto_region 5 with fail
 rw [← hw2];clear hw2 x2 x3 f2 f3;go_wp2_with fail;go_loopw [5] (fun v wr => ∃ k : Nat, k ≤ D.L.length ∧ v = .int .i64 k ∧ Hid (CwI w B r c D ks ao k wr)) (fun v _ => D.L.length - (intOf v).toNat)
 case atStart => exact ⟨0, Nat.zero_le _, rfl, H0⟩
 case round =>
  clear H0;obtain ⟨wz, rfl⟩ : ∃ x, x = wr := ⟨_, rfl⟩
  obtain ⟨k, hk, rfl, HH⟩ := hrel;have x4 : wz.cell? ⟨r, 4, none⟩ = some (.slice c.a (Dk.cut ks D.L).length c.c) := HH.o.box.cell 4;rw [Dk.cut_len] at x4;by_cases hlt : k < D.L.length
  ·have d1 : decide ((k : Int) < (D.L.length : Int)) = true := decide_eq_true (by omega)
   have d1' : decide (k < D.L.length) = true := decide_eq_true hlt;obtain ⟨g, hg, -, y1, y2⟩ := HH.o.file hlt;rw [hg] at x4;have hi1 : (0 : Int) ≤ (k : Int) := by omega
   have hi2 : (k : Int) < (D.L.length : Int) := by omega
   have hs := HO.o.safe _ (List.getElem_mem hlt);have hz := Nat.le_trans (Dk.mem_size HO.o (List.getElem_mem hlt)) HZ.o;have HNX := Qh (fun wx (hx : CwI w B r c D ks ao k wx) st hst => hx.next hlt hg (fun x hn hx2 => (HKR.o x hn hx2).2 _ hg) st hst)
   have HFR := Qh (fun wx (hx : CwI w B r c D ks ao k wx) => (show wx.frozen? ⟨g, k * 3 + 1, none⟩ = false ∧ (∀ v, (wx.setCell ⟨g, k * 3 + 1, none⟩ v).frozen? ⟨g, k * 3 + 2, none⟩ = false ∧ (wx.setCell ⟨g, k * 3 + 1, none⟩ v).cell? ⟨r, 4, none⟩ = some (.slice (some ⟨g, 0, none⟩) D.L.length c.c)) from by
    have hr := hx.row;rw [hg] at hr;have hne : r ≠ g := fun e => Jao hx.box hr (by decide) g rfl e.symm
    have hx4 : wx.cell? ⟨r, 4, none⟩ = some (.slice c.a (Dk.cut ks D.L).length c.c) := hx.box.cell 4;rw [Dk.cut_len, hg] at hx4
    exact ⟨(Jbr hr (k * 3 + 1) (.int .i64 0)).2, fun v => ⟨(Jbr (Jbr hr (k * 3 + 1) v).1 (k * 3 + 2) (.int .i64 0)).2, Jgq hx4 hne⟩⟩))
   have HCE := Qh (fun wx (hx : CwI w B r c D ks ao k wx) => (show wx.cell? ⟨r, 4, none⟩ = some (.slice (some ⟨g, 0, none⟩) D.L.length c.c) ∧ wx.cell? ⟨g, k * 3 + 1, none⟩ = some (.string (S (D.L[k]).dat)) ∧ wx.cell? ⟨g, k * 3 + 2, none⟩ = some (.int .i64 (D.L[k]).safe) from by
    have hx4 : wx.cell? ⟨r, 4, none⟩ = some (.slice c.a (Dk.cut ks D.L).length c.c) := hx.box.cell 4;rw [Dk.cut_len, hg] at hx4;obtain ⟨g', hg', -, q1, q2⟩ := hx.file hlt;rw [hg] at hg';cases hg'
    exact ⟨hx4, q1, q2⟩))
   have HC2 := Qh (fun wx (hx : CwI w B r c D ks ao k wx) v => (show ∃ u, (wx.setCell ⟨g, k * 3 + 1, none⟩ v).cell? ⟨g, k * 3 + 2, none⟩ = some u from by
    have hr := hx.row;rw [hg] at hr;have h2 := (Jbr hr (k * 3 + 1) v).1;have hlen : k * 3 + 2 < ((flsV (Dk.mix ks D.L k)).set (k * 3 + 1) v).length := by rw [List.length_set, Ja1, Dk.mix_len]; omega
    have := h2.cells (g := g) rfl (k * 3 + 2) _ (List.getElem?_eq_getElem hlen);rw [Addr.add_lit, Nat.zero_add] at this
    exact ⟨_, this⟩))
   have HLF := Qh (fun (st : Nat) (e : st = (D.L[k]).safe + min (ks.getD k 0).toNat ((D.L[k]).dat.length - (D.L[k]).safe)) => (show Dk.left D.L[k] (ks.getD k 0) = ⟨(D.L[k]).name, (D.L[k]).dat.take st, st⟩ from by rw [e]; rfl));clear hg;obtain ⟨fl, hfl⟩ : ∃ x, x = D.L[k] := ⟨_, rfl⟩
   rw [← hfl] at HNX HCE HLF y1 y2 hs hz;clear hfl;obtain ⟨fnm, dt, sf⟩ := fl;simp only at y1 y2 hs hz;by_cases hkk : k < ks.length
   ·have d2 : decide ((k : Int) < (ks.length : Int)) = true := decide_eq_true (by omega)
    have d2' : decide (k < ks.length) = true := decide_eq_true hkk;obtain ⟨g5, o5, rfl, hc5⟩ := HH.o.keep (fun e => by rw [e] at hkk; simp at hkk);have y5 := hc5 k hkk;have hi5 : (k : Int) < (ks.length : Int) := by omega
    have hkb := HKO.o (ks.getD k 0) (by rw [show ks.getD k 0 = ks[k] from by simp [List.getD, hkk]]; exact List.getElem_mem hkk);clear hc5;generalize ks.getD k 0 = kk at *;by_cases hp : 0 < kk
    ·have d3 : decide ((0 : Int) < kk) = true := decide_eq_true hp
     obtain ⟨nn, hnn⟩ : ∃ nn : Nat, nn = min kk.toNat (dt.length - sf) := ⟨_, rfl⟩
     obtain ⟨st, hst⟩ : ∃ x, x = sf + nn := ⟨_, rfl⟩
     have e1 : IntKind.i64.wrap ((dt.length : Int) - (sf : Int)) = (dt.length : Int) - (sf : Int) := IntWalk.i64_in _ (by omega);have e2 : min kk ((dt.length : Int) - (sf : Int)) = (nn : Int) := by omega
     have e3 : IntKind.i64.wrap ((sf : Int) + (nn : Int)) = (st : Int) := by rw [IntWalk.i64_in _ (by omega)]; omega
     have hle : st ≤ dt.length := by omega
     have HL2 := Qh (HLF.o st (by rw [hst, hnn]));clear hst hnn;go_wp2_with fail;go_quiet (fail)
     replace HH := Qh (HH.o.below (below_drewN (Below.refl _ _) nq));generalize wz.drewN nq = wz at *;clear e1 e2 e3 y5;have RP := Jat (P := Tryz.prog) 9 Tryz.underlying9 dt (st : Int) st rfl hle;go_upto_region 11 with fail
     replace HH := Qh (HH.o.below (Below.refl _ _).drew);refine Jaj (S := fun V => V.cell? ⟨r, 4, none⟩ = some (.slice (some ⟨g, 0, none⟩) D.L.length c.c) ∧ V.cell? ⟨g, k * 3 + 1, none⟩ = some (.string (S dt))) 17 (by kernel_rfl) ?_ (fun hQ => ?_)
     ·exact ⟨(HCE.o _ HH.o).1, (HCE.o _ HH.o).2.1⟩
     obtain ⟨wd, hwd⟩ : ∃ x, x = World.drew wz := ⟨_, rfl⟩
     rw [← hwd] at HH hQ ⊢;clear hwd x4 y1 y2;have q1 : (st : Int) ≤ (dt.length : Int) := by omega
     have q0 : (0 : Int) ≤ (st : Int) := by omega
     refine tkY 0 ?_;refine tkY 1 ?_;refine tkY 2 ?_;refine tkZ 3 [15, 16, 17] ?_;refine tkY 4 ?_;refine tkY 5 ?_;refine tkY 6 ?_;refine tkY 7 ?_;refine tkZ 8 [10, 11, 12, 14, 15, 16, 17] ?_;refine tkY 9 ?_;refine tkY 10 ?_;refine tkY 11 ?_;refine tkZ 12 [14, 15, 16, 17] ?_;refine tkY 13 ?_;refine tkY 14 ?_;refine tkY 15 ?_;refine tkY 16 ?_;refine tqL 17 fun K hK => ?_
     have f0 := (HFR.o _ HH.o).1;have m0 := (HCE.o _ HH.o).2.1;go_simp;refine hK.out _ _ ?_;clear hK K;refine wpAny_done (by kernel_rfl) ?_ _;obtain ⟨u2, hu2⟩ := HC2.o _ HH.o (.string (S (dt.take st)));obtain ⟨f3, x4⟩ := (HFR.o _ HH.o).2 (.string (S (dt.take st)));clear RP hQ f0 m0;go_wp2_with fail;go_roundw
     case rel => exact ⟨k + 1, by omega, by go_num, Qh (HNX.o _ HH.o st HL2.o)⟩
     case measure => simp [intOf]; omega
    ·have d3 : decide ((0 : Int) < kk) = false := decide_eq_false hp
     have hle : sf ≤ dt.length := hs;have HL2 := Qh (HLF.o sf (by rw [Int.toNat_of_nonpos (by omega)]; simp));go_wp2_with fail;have RP := Jat (P := Tryz.prog) 9 Tryz.underlying9 dt (sf : Int) sf rfl hle;go_upto_region 11 with fail
     replace HH := Qh (HH.o.below (Below.refl _ _).drew);refine Jaj (S := fun V => V.cell? ⟨r, 4, none⟩ = some (.slice (some ⟨g, 0, none⟩) D.L.length c.c) ∧ V.cell? ⟨g, k * 3 + 1, none⟩ = some (.string (S dt))) 17 (by kernel_rfl) ?_ (fun hQ => ?_)
     ·exact ⟨(HCE.o _ HH.o).1, (HCE.o _ HH.o).2.1⟩
     obtain ⟨wd, hwd⟩ : ∃ x, x = World.drew wz := ⟨_, rfl⟩
     rw [← hwd] at HH hQ ⊢;clear hwd x4 y1 y2;have q1 : (sf : Int) ≤ (dt.length : Int) := by omega
     have q0 : (0 : Int) ≤ (sf : Int) := by omega
     refine tkY 0 ?_;refine tkY 1 ?_;refine tkY 2 ?_;refine tkZ 3 [15, 16, 17] ?_;refine tkY 4 ?_;refine tkY 5 ?_;refine tkY 6 ?_;refine tkY 7 ?_;refine tkZ 8 [10, 11, 12, 14, 15, 16, 17] ?_;refine tkY 9 ?_;refine tkY 10 ?_;refine tkY 11 ?_;refine tkZ 12 [14, 15, 16, 17] ?_;refine tkY 13 ?_;refine tkY 14 ?_;refine tkY 15 ?_;refine tkY 16 ?_;refine tqL 17 fun K hK => ?_
     have f0 := (HFR.o _ HH.o).1;have m0 := (HCE.o _ HH.o).2.1;go_simp;refine hK.out _ _ ?_;clear hK K;refine wpAny_done (by kernel_rfl) ?_ _;obtain ⟨u2, hu2⟩ := HC2.o _ HH.o (.string (S (dt.take sf)));obtain ⟨f3, x4⟩ := (HFR.o _ HH.o).2 (.string (S (dt.take sf)));clear RP hQ f0 m0;go_wp2_with fail;go_roundw
     case rel => exact ⟨k + 1, by omega, by go_num, Qh (HNX.o _ HH.o sf HL2.o)⟩
     case measure => simp [intOf]; omega
   ·have d2 : decide ((k : Int) < (ks.length : Int)) = false := decide_eq_false (by omega)
    have d2' : decide (k < ks.length) = false := decide_eq_false hkk;have hle : sf ≤ dt.length := hs;have HL2 := Qh (HLF.o sf (by rw [show ks.getD k 0 = 0 from by simp [List.getD, List.getElem?_eq_none (Nat.le_of_not_lt hkk)]]; simp));go_wp2_with fail;have RP := Jat (P := Tryz.prog) 9 Tryz.underlying9 dt (sf : Int) sf rfl hle;go_upto_region 11 with fail
    replace HH := Qh (HH.o.below (Below.refl _ _).drew);refine Jaj (S := fun V => V.cell? ⟨r, 4, none⟩ = some (.slice (some ⟨g, 0, none⟩) D.L.length c.c) ∧ V.cell? ⟨g, k * 3 + 1, none⟩ = some (.string (S dt))) 17 (by kernel_rfl) ?_ (fun hQ => ?_)
    ·exact ⟨(HCE.o _ HH.o).1, (HCE.o _ HH.o).2.1⟩
    obtain ⟨wd, hwd⟩ : ∃ x, x = World.drew wz := ⟨_, rfl⟩
    rw [← hwd] at HH hQ ⊢;clear hwd x4 y1 y2;have q1 : (sf : Int) ≤ (dt.length : Int) := by omega
    have q0 : (0 : Int) ≤ (sf : Int) := by omega
    refine tkY 0 ?_;refine tkY 1 ?_;refine tkY 2 ?_;refine tkZ 3 [15, 16, 17] ?_;refine tkY 4 ?_;refine tkY 5 ?_;refine tkY 6 ?_;refine tkY 7 ?_;refine tkZ 8 [10, 11, 12, 14, 15, 16, 17] ?_;refine tkY 9 ?_;refine tkY 10 ?_;refine tkY 11 ?_;refine tkZ 12 [14, 15, 16, 17] ?_;refine tkY 13 ?_;refine tkY 14 ?_;refine tkY 15 ?_;refine tkY 16 ?_;refine tqL 17 fun K hK => ?_
    have f0 := (HFR.o _ HH.o).1;have m0 := (HCE.o _ HH.o).2.1;go_simp;refine hK.out _ _ ?_;clear hK K;refine wpAny_done (by kernel_rfl) ?_ _;obtain ⟨u2, hu2⟩ := HC2.o _ HH.o (.string (S (dt.take sf)));obtain ⟨f3, x4⟩ := (HFR.o _ HH.o).2 (.string (S (dt.take sf)));clear RP hQ f0 m0;go_wp2_with fail;go_roundw
    case rel => exact ⟨k + 1, by omega, by go_num, Qh (HNX.o _ HH.o sf HL2.o)⟩
    case measure => simp [intOf]; omega
  ·have d1 : decide ((k : Int) < (D.L.length : Int)) = false := decide_eq_false (by omega)
   have d1' : decide (k < D.L.length) = false := decide_eq_false hlt;obtain rfl : k = D.L.length := by omega
   have HFIN := Qh (show OpI B r c (.int .i64 0) (Dk.fall ks D) w (.returned (.int .i64 0)) wz from by
    have h1 := HH.o;have hrow := h1.row;rw [Dk.mix_all] at hrow;refine ⟨rfl, c, ⟨h1.box, ?_, h1.krow, fun p hp => (by cases hp), HO.o.cut ks, by show (Dk.cut ks D.L).length ≤ _; rw [Dk.cut_len]; exact hfew, Nat.le_trans (Dk.size_cut ks HO.o.safe) HZ.o⟩, fun b hb => .inl hb, h1.wro⟩;show wz.ownsRow B _ 3 (.slice c.a (Dk.cut ks D.L).length c.c) (Dk.cut ks D.L).length (flsV (Dk.cut ks D.L))
    rw [Dk.cut_len]
    exact hrow)
   go_wp2_with fail;go_ret;exact HFIN.o
theorem Jp0 {B r : Nat} {c : Rc} {D : Dk.St} {w : World} (h : RfIn B r c D w) (ks : List Int) (ao : Option Addr) (cap : Nat) (hK : Dk.KsOk ks) (hk : NsA5 w ao ks) (hkr : ∀ x, ks ≠ [] → ao = some x → x.block ≠ r ∧ ∀ y, c.a = some y → x.block ≠ y.block) :
  Calls Tryz.prog 46 #[.pointer (some ⟨r, 0, none⟩), .slice ao ks.length cap] w (OpI B r c (.int .i64 (Dk.crash ks D).1) (Dk.crash ks D).2 w) := by
 cases hu : D.up with
 | true =>
  rw [Dk.crash_up ks hu];exact Jec h.weak hu ks ao cap hK hk hkr
 | false =>
  rw [Dk.crash_down ks hu];have x2 : w.cell? ⟨r, 2, none⟩ = some (.bool (!D.up)) := h.box.cell 2;rw [hu] at x2;have HQ := Qh (OpI.same (v := .int .i64 51) h);clear h hk hkr;go_enter Tryz.func46, Tryz.ntmps46;go_wp2_with fail;go_ret;exact HQ.o
end
section
open Go Go.RowKit Go.Maps
def Dk.chg (D : Dk.St) : Int := if (Dk.struck D).1 then 51 else 0
theorem Jff {w : World} {B B' n cap m cap' : Nat} {ao bo : Option Addr} {xs ys : List Value} (h : w.ownsRow B 130 3 (.slice ao n cap) n xs) (k : w.ownsRow B' 3 1 (.slice bo m cap') m ys) :
  ∀ x y, ao = some x → bo = some y → y.block ≠ x.block := fun x y hx hy e => by
 subst hx hy;rcases h.2 with ⟨e', _⟩ | ⟨g', cp, cur, e', hB, hgg, _⟩
 ·cases e'
 ·injection e' with e1 _ _
  injection e1 with e1
  have hbk : Bk cur 130 w x.block := by rw [e1]; exact hgg
  exact Jao hbk k (by decide) y.block rfl e
section
variable {B r : Nat} {c : Rc} {D : Dk.St} {w w' : World}
theorem RfW.keepAt {sb : Bool} (h : RfW B r c sb D w) : NsA5 w c.ka c.ks ∧ ∀ x, c.ks ≠ [] → c.ka = some x → x.block ≠ r ∧ ∀ y, c.a = some y → x.block ≠ y.block :=
 ⟨(Jgl h.krow).1, fun x _ hx => ⟨fun e => Jao h.box h.krow (by decide) x.block (by rw [hx]; rfl) e, fun y hy => Jff h.row h.krow y x hy hx⟩⟩
theorem Jew (h : RfIn B r c D w) (hu : D.up = true) (hn : ∀ p, D.set = some p → (p.1 : Int) ≤ 9223372036854775807) (hks : ∀ p, D.set = some p → Dk.KsOk p.2) :
  Calls Tryz.prog 140 #[.pointer (some ⟨r, 0, none⟩)] w (OpI B r c (.int .i64 (Dk.chg D)) (Dk.struck D).2 w) := by
 have CL := Qh (Ji0 h hn);have HI := Qh h;have HK := Qh hks;clear h hn hks;go_enter Tryz.func140, Tryz.ntmps140;go_wp2_with fail;with_reducible refine CL.o.mono ?_
 rintro e w1 (⟨hs, rfl, rfl⟩ | ⟨n, ks, hs, rfl, ho⟩ | ⟨ks, hs, rfl, hck, hW, hwr⟩)
 ·have HQ := Qh (show OpI B r c (.int .i64 (Dk.chg D)) (Dk.struck D).2 w (.returned (.int .i64 0)) w from by unfold Dk.chg; rw [Dk.struck_no hs]; exact OpI.same HI.o)
  go_wp2_with fail;go_ret;exact HQ.o
 ·have HQ := Qh (show OpI B r c (.int .i64 (Dk.chg D)) (Dk.struck D).2 w (.returned (.int .i64 0)) w1 from by
   have e1 : Dk.struck D = (false, { D with set := some (n, ks) }) := by unfold Dk.struck; rw [hs]
   unfold Dk.chg; rw [e1]; exact ⟨rfl, ho.2⟩)
  clear ho;go_wp2_with fail;go_ret;exact HQ.o
 ·obtain ⟨hk1, hk2⟩ := hW.keepAt
  simp only at hk1 hk2;rw [hck] at hk1 hk2;have x6 : w1.cell? ⟨r, 6, none⟩ = some (.slice c.ka c.ks.length c.kc) := hW.box.cell 6;rw [hck] at x6;have CC := Qh (Jec hW hu ks c.ka c.kc (HK.o _ hs) hk1 hk2)
  have HQ := Qh (show ∀ e w2, OpI B r { c with n := -1 } (.int .i64 0) (Dk.fall ks D) w1 e w2 → OpI B r c (.int .i64 (Dk.chg D)) (Dk.struck D).2 w (.returned (.int .i64 51)) w2 from fun e w2 ⟨_, c2, q1, q2, q3⟩ => by
   have e1 : Dk.struck D = (true, Dk.fall ks D) := by unfold Dk.struck; rw [hs]
   unfold Dk.chg; rw [e1];refine ⟨rfl, c2, q1, fun b hb => ?_, hwr.step q3 (fun x hx => .inl hx)⟩;rcases q2 b hb with h | h
   ·exact .inl h
   ·exact .inr (Nat.le_trans hwr.size h))
  clear hW hwr hk1 hk2;go_wp2_with fail;with_reducible refine CC.o.mono ?_
  rintro e w2 ho;have HQ2 := Qh (HQ.o _ _ ho);obtain ⟨rfl, -⟩ := ho;go_wp2_with fail;go_ret;exact HQ2.o
theorem RfIn.setFile (h : RfIn B r c D w) {k : Nat} (hk : k < D.L.length) {g : Nat} (hg : c.a = some ⟨g, 0, none⟩) (j : Nat) (hj : j < 3) (u : Value) (f' : Dk.Fl) (hf : (fl3 D.L[k]).set j u = fl3 f') (v : Value) (hok : Dk.OkL (D.L.set k f')) (hz : Dk.size (D.L.set k f') ≤ 1048576) :
  OpI B r c v { D with L := D.L.set k f' } w (.returned v) (w.setCell ⟨g, k * 3 + j, none⟩ u) ∧ w.frozen? ⟨g, k * 3 + j, none⟩ = false := by
 have hr := h.row;rw [hg] at hr;obtain ⟨s1, s2⟩ := Jbr hr (k * 3 + j) u;rw [Jfo D.L k hk j hj u f' hf] at s1;have hw := Jai (A := fun x => x = g) w ⟨g, k * 3 + j, none⟩ u rfl;have hgr : r ≠ g := fun e => Jao h.box hr (by decide) g rfl e.symm
 refine ⟨⟨rfl, c, ⟨?_, ?_, Jal h.krow hw (fun q hq e => ?_), h.set, hok, by show (D.L.set k f').length ≤ _; rw [List.length_set]; exact h.few, hz⟩, fun b hb => .inl hb, hw.mono (fun x hx => .inl (.inr (.inl ⟨_, hg, hx⟩)))⟩, s2⟩
 ·have e9 : rfC c { D with L := D.L.set k f' } = rfC c D := by unfold rfC; simp only [List.length_set]
  rw [e9]; exact h.box.other hgr _ _
 ·show (w.setCell _ _).ownsRow B _ 3 (.slice c.a (D.L.set k f').length c.c) (D.L.set k f').length (flsV (D.L.set k f'))
  rw [List.length_set, hg]; exact s1
 ·cases hka : c.ka with
  | none => rw [hka] at hq; cases hq
  | some x =>
   rw [hka] at hq;simp only [Value.ownBlock, Option.some.injEq] at hq;exact Jff h.row h.krow _ x hg hka (by rw [hq]; exact e)
theorem Jex {D : Dk.St} (h : (Dk.struck D).1 = false) : (Dk.struck D).2.L = D.L := by
 rcases Dk.struck_cases D with ⟨_, e⟩ | ⟨_, _, e⟩ | ⟨_, _, _, e⟩
 ·rw [e]
 ·rw [e] at h; cases h
 ·rw [e]
theorem Ji1 (h : RfIn B r c D w) (nm : List UInt8) (hn : ∀ p, D.set = some p → (p.1 : Int) ≤ 9223372036854775807) (hks : ∀ p, D.set = some p → Dk.KsOk p.2) :
  Calls Tryz.prog 96 #[.pointer (some ⟨r, 0, none⟩), .string (S nm)] w (OpI B r c (.int .i64 (Dk.sync nm D).1) (Dk.sync nm D).2 w) := by
 have CA := Qh (Jf3 h nm);have CC := Qh (fun hu => Jew h hu hn hks);have HI := Qh h;have hfew := h.few;clear h hn hks;go_enter Tryz.func96, Tryz.ntmps96;go_wp2_with fail;with_reducible refine CA.o.mono ?_
 rintro e w1 ⟨⟨hu, rfl⟩ | ⟨hu, hh, rfl⟩ | ⟨k, hk, hu, he, rfl⟩, rfl⟩
 ·have HQ := Qh (show OpI B r c (.int .i64 (Dk.sync nm D).1) (Dk.sync nm D).2 w (.returned (.int .i64 51)) w from by
   rw [show Dk.sync nm D = (51, D) from by unfold Dk.sync; rw [if_pos hu]]; exact OpI.same HI.o)
  go_wp2_with fail;go_ret;exact HQ.o
 ·have HQ := Qh (show OpI B r c (.int .i64 (Dk.sync nm D).1) (Dk.sync nm D).2 w (.returned (.int .i64 4)) w from by
   rw [show Dk.sync nm D = (4, D) from by unfold Dk.sync; rw [if_neg (by rw [hu]; decide), if_pos hh]]; exact OpI.same HI.o)
  go_wp2_with fail;go_ret;exact HQ.o
 ·obtain ⟨q1, q2⟩ := Jb2 HI.o.ok hk he
  have HD := Qh (show Dk.sync nm D = if (Dk.struck D).1 = true then (51, (Dk.struck D).2) else (0, { (Dk.struck D).2 with L := Dk.put ⟨nm, (D.L[k]).dat, (D.L[k]).dat.length⟩ D.L }) from by
   unfold Dk.sync; rw [if_neg (by rw [hu]; decide), if_neg (by rw [q2]; decide), q1])
  replace CC := Qh (CC.o hu);have HHE := Qh he;clear he q1 q2;go_wp2_with fail;with_reducible refine CC.o.mono ?_
  rintro e w2 ho;have HO := Qh ho;obtain ⟨rfl, c2, hI2, hF2, hW2⟩ := ho;cases hst : (Dk.struck D).1 with
  | true =>
   have hch : Dk.chg D = 51 := by unfold Dk.chg; rw [hst]; rfl
   rw [hch]
   have HQ := Qh (show OpI B r c (.int .i64 (Dk.sync nm D).1) (Dk.sync nm D).2 w (.returned (.int .i64 51)) w2 from by
    rw [HD.o, if_pos hst]; have := HO.o; exact ⟨rfl, this.2⟩)
   clear hI2 hF2 hW2;go_wp2_with fail;go_ret;exact HQ.o
  | false =>
   have hch : Dk.chg D = 0 := by unfold Dk.chg; rw [hst]; rfl
   rw [hch];have hL := Jex hst;obtain ⟨D1, hD1⟩ : ∃ x, x = (Dk.struck D).2 := ⟨_, rfl⟩
   rw [← hD1] at hI2 hL;have hk1 : k < D1.L.length := by rw [hL]; exact hk
   have hget : D1.L[k] = D.L[k] := by simp only [hL]
   obtain ⟨g, hg, -, y1, y2⟩ := Ja4 hI2.row rfl hk1;rw [hget] at y1 y2;have x4 : w2.cell? ⟨r, 4, none⟩ = some (.slice c2.a D1.L.length c2.c) := hI2.box.cell 4;rw [hg] at x4;have hput : Dk.put ⟨nm, (D.L[k]).dat, (D.L[k]).dat.length⟩ D.L = D.L.set k ⟨nm, (D.L[k]).dat, (D.L[k]).dat.length⟩ := Dk.put_at HI.o.ok.up hk (by exact HHE.o.symm)
   have HFIN := Qh (fun wx (hb : Below w2.heap.size w2 wx) => (show OpI B r c (.int .i64 (Dk.sync nm D).1) (Dk.sync nm D).2 w (.returned (.int .i64 0)) (wx.setCell ⟨g, k * 3 + 2, none⟩ (.int .i64 ((D.L[k]).dat.length : Int))) ∧ wx.frozen? ⟨g, k * 3 + 2, none⟩ = false from by
    have hIx := hI2.below hb;have hnmd := HI.o.ok.named _ (List.getElem_mem hk);rw [HHE.o] at hnmd
    have hs := hIx.setFile hk1 hg 2 (by decide) (.int .i64 ((D.L[k]).dat.length : Int)) ⟨nm, (D.L[k]).dat, (D.L[k]).dat.length⟩ (by rw [hget]; simp [fl3, HHE.o]) (.int .i64 0) (by rw [hL, ← hput]; exact HI.o.ok.put (by exact hnmd) (Nat.le_refl _)) (by
     rw [hL, ← hput];have h1 := Dk.size_put HI.o.ok ⟨nm, (D.L[k]).dat, (D.L[k]).dat.length⟩;simp only at h1;rw [(Jb2 HI.o.ok hk HHE.o).1] at h1;have := HI.o.small
     omega)
    refine ⟨?_, hs.2⟩;obtain ⟨_, c3, p1, p2, p3⟩ := hs.1;rw [HD.o, if_neg (by rw [hst]; decide), hput, ← hD1];rw [hL] at p1;refine ⟨rfl, c3, p1, fun b hb' => ?_, (hW2.trans (Jad hb)).step p3 (fun x hx => hF2 x hx)⟩;rcases p2 b hb' with h | h
    ·exact hF2 b h
    ·exact .inr (Nat.le_trans hW2.size (Nat.le_trans hb.size h))))
   have HSH := Qh (fun wx (hb : Below w2.heap.size w2 wx) => (show wx.cell? ⟨r, 4, none⟩ = some (.slice (some ⟨g, 0, none⟩) D1.L.length c2.c) ∧ wx.cell? ⟨g, k * 3 + 1, none⟩ = some (.string (S (D.L[k]).dat)) ∧ wx.cell? ⟨g, k * 3 + 2, none⟩ = some (.int .i64 (D.L[k]).safe) from ⟨(hb.cell (p := ⟨r, 4, none⟩) (Jaz x4)).trans x4, (hb.cell (p := ⟨g, k * 3 + 1, none⟩) (Jaz y1)).trans y1, (hb.cell (p := ⟨g, k * 3 + 2, none⟩) (Jaz y2)).trans y2⟩));have hdl := Nat.le_trans (Dk.mem_size HI.o.ok (List.getElem_mem hk)) HI.o.small;have hi1 : (0 : Int) ≤ (k : Int) := by omega
   have hi2 : (k : Int) < (D1.L.length : Int) := by omega
   clear hI2 hF2 hW2 hL hget hput hg x4 y1 y2 HD hD1 hch;generalize D.L[k] = fl at *;obtain ⟨fnm, dt, sf⟩ := fl;simp only at HFIN HSH hdl;go_upto_region 5 with fail
   have HB := Qh (Below.refl w2.heap.size w2).drew;refine Jaj (S := fun V => V.cell? ⟨r, 4, none⟩ = some (.slice (some ⟨g, 0, none⟩) D1.L.length c2.c) ∧ V.cell? ⟨g, k * 3 + 1, none⟩ = some (.string (S dt))) 16 (by kernel_rfl) ?_ (fun hQ => ?_)
   ·exact ⟨(HSH.o _ HB.o).1, (HSH.o _ HB.o).2.1⟩
   obtain ⟨wd, hwd⟩ : ∃ x, x = World.drew w2 := ⟨_, rfl⟩
   rw [← hwd] at HB hQ ⊢;clear hwd;refine tkY 0 ?_;refine tkY 1 ?_;refine tkY 2 ?_;refine tkZ 3 [14, 15, 16] ?_;refine tkY 4 ?_;refine tkY 5 ?_;refine tkY 6 ?_;refine tkY 7 ?_;refine tkZ 8 [10, 11, 12, 13, 14, 15, 16] ?_;refine tkY 9 ?_;refine tkY 10 ?_;refine tkY 11 ?_;refine tkZ 12 [13, 14, 15, 16] ?_;refine tkY 13 ?_;refine tkY 14 ?_;refine tkY 15 ?_;refine tqL 16 fun K hK => ?_
   have f0 := (HFIN.o _ HB.o).2;have m0 := (HSH.o _ HB.o).2.2;go_simp;refine hK.out _ _ ?_;clear hK K;refine wpAny_done (by kernel_rfl) ?_ _;go_wp2_with fail;go_ret;exact (HFIN.o _ HB.o).1
end
end
end Go.Proofs.YtmammmjmipgmoaaGreatDoor
