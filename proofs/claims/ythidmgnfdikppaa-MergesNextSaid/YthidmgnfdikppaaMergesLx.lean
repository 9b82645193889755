/- Layer 11: MergesNext, walked. -/
import Derived.Test.YthidmgnfdikppaaMergesLa
import Derived.BigQuiet
namespace Go.Proofs.Ythidmgnfdikppaa
set_option linter.unusedVariables false
open Go Go.RowKit
attribute [local go_sem ↓] run_index_S
attribute [local go_sem] S_append S_extract

theorem ItO.keepB {B N : Nat} {p : Option Nat} {L : List M.Cl} {w w' : World} (h : ItO B N p L w) (hs : w.heap.size ≤ w'.heap.size) (k : ∀ b, B ≤ b → w'.heap[b]? = w.heap[b]?) : ItO B N p L w' := by
  cases p with
  | none => exact h
  | some bi =>
    obtain ⟨ao, n, cap, H, R, h⟩ := h
    refine ⟨ao, n, cap, H, R, ⟨(k bi h.bb).trans h.hq.row, ?_, h.hq.len, Nat.le_trans h.hq.base hs⟩, h.hp, h.hof, h.mrg, h.rl, fun x hx hb => ?_, h.bb, Nat.le_trans h.nl hs⟩
    · have ho := h.hq.own
      refine ⟨ho.1, ?_⟩
      rcases ho.2 with h0 | ⟨g, cap', cur, hv, hB, hg, r⟩
      · exact .inl h0
      · exact .inr ⟨g, cap', cur, hv, hB, by rw [k g hB]; exact hg, r⟩
    · obtain ⟨q, off, e, hB, hN, hC, hcl, hl⟩ := h.beh x hx hb
      have hk := k q hB
      exact ⟨q, off, e, hB, hN, by rw [hk]; exact hC, fun j hj => clOff_blk (hcl j hj) hk, hl⟩
theorem RoomC.setAny {M : Nat} {w : World} {g : Nat} (h : RoomC M w g) (q i : Nat) (v : Value) : RoomC M (w.setCell ⟨q, i, none⟩ v) g := by
  by_cases e : g = q
  · subst e; exact h.set i v
  · obtain ⟨C, h1, h2⟩ := h
    exact ⟨C, h1.other e i v, h2⟩
/-- What is known while the rows are written over. -/
structure Nx11 (W : World) (z2 z3 N : Nat) (p : Option Nat) (K : List M.Cl) (Ts : List M.Rw) (to aK : Option Addr) (tc cK n : Nat) (w : World) : Prop where
  tw : w.ownsRow W.heap.size 22 1 (.slice to n tc) n (rwsV Ts)
  room : ∀ r, r ∈ Ts → ∃ q, r.o = some ⟨q, 0, none⟩ ∧ W.heap.size ≤ q ∧ q < z2 ∧ RoomC ((r.l.length + 1) * 3) w q
  it : ItO z2 N p K w
  k : w.ownsRow z3 38 3 (.slice aK K.length cK) K.length (cls K)
  b : Below W.heap.size W w
  z : z2 ≤ z3 ∧ z3 ≤ w.heap.size
theorem Nx11.set {W : World} {z2 z3 N : Nat} {p : Option Nat} {K : List M.Cl} {Ts : List M.Rw} {to aK : Option Addr} {tc cK n : Nat} {w : World} (h : Nx11 W z2 z3 N p K Ts to aK tc cK n w) {m q : Nat} (hr : RoomC m w q) (h1 : W.heap.size ≤ q) (h2 : q < z2) (i : Nat) (v : Value) : Nx11 W z2 z3 N p K Ts to aK tc cK n (w.setCell ⟨q, i, none⟩ v) := by
  obtain ⟨C, hC, _⟩ := hr
  refine ⟨ownsRow_setCell_other h.tw (fun e => row_apart hC h.tw (by decide) q e rfl) v, fun r hr => ?_, h.it.keepB (by simp [World.setCell]) (fun b hb => Below.heap_setCell _ _ _ _ (show b ≠ q from by omega)), ownsRow_setCell_other h.k (fun e => by have := (h.k.lt q e).1; have := h.z.1; omega) v, h.b.setCell (p := ⟨q, i, none⟩) h1 v, h.z.1, by simpa [World.setCell] using h.z.2⟩
  obtain ⟨q', e, h3, h4, h5⟩ := h.room r hr
  exact ⟨q', e, h3, h4, h5.setAny q i v⟩
theorem Nx11.addr {W : World} {z2 z3 N : Nat} {p : Option Nat} {K : List M.Cl} {Ts : List M.Rw} {to aK : Option Addr} {tc cK n : Nat} {w : World} (h : Nx11 W z2 z3 N p K Ts to aK tc cK n w) {k : Nat} (hk : k < n) : ∃ g, to = some ⟨g, 0, none⟩ := by
  obtain ⟨g, cap', e, _, hc⟩ := own_slice10 h.tw (by omega)
  injection e with e1 e2 e3
  exact ⟨g, e1⟩
theorem Nx11.cell {W : World} {z2 z3 N : Nat} {p : Option Nat} {K : List M.Cl} {Ts : List M.Rw} {g : Nat} {aK : Option Addr} {tc cK n : Nat} {w : World} (h : Nx11 W z2 z3 N p K Ts (some ⟨g, 0, none⟩) aK tc cK n w) (hl : Ts.length = n) {k : Nat} (hk : k < n) :
    w.cell? ⟨g, k, none⟩ = some (.slice (Ts.getD k M.rw0).o (Ts.getD k M.rw0).l.length (Ts.getD k M.rw0).k) := by
  obtain ⟨g', cap', e, _, hc⟩ := own_slice10 h.tw (by omega)
  injection e with e1 e2 e3
  injection e1 with e1
  injection e1 with e1
  subst e1
  exact hc k _ (rwsV_get (by omega))
set_option maxRecDepth 100000 in
theorem run_neq_cl (c : M.Cl) (w : World) : Sem.run Try.prog (binOp .neq 38 (.agg (clA c)) (.agg (clA c))) w = .ok (.bool false) w := by
  go_simp
theorem new11_E (Rs : List M.Rw) (hR : RsOk Rs) (n : Nat) (hn : Rs.length = n) (ao : Option Addr) (cap : Nat) (w : World) (h : RwsAt w ao Rs) {R : List (List M.Cl)} (e : M.rls Rs = R) {may : Bool} (em : M.mayR Rs = may) {K : List M.Cl} {er : Int} (ho : Out11 id R may K er) :
    Calls Try.prog 47 #[.slice ao n cap] w fun e w' => Below w.heap.size w w' ∧ ∃ p, e = .returned (.tuple #[pv11 p, .int .i64 er]) ∧ ItO w.heap.size w'.heap.size p K w' ∧ (p = none ∧ er = 2 ∨ (∃ bi, p = some bi) ∧ er = 0) := by
  subst hn
  refine (new11_any Rs hR ao cap w h).mono ?_
  rintro x w' ⟨hb, hh⟩
  refine ⟨hb, ?_⟩
  subst e
  cases q : may with
  | false =>
    rw [q] at em ho
    obtain ⟨e3, e4⟩ := ho.no rfl
    rw [if_neg (by rw [em]; simp)] at hh
    subst e3 e4
    exact ⟨none, hh, rfl, .inl ⟨rfl, rfl⟩⟩
  | true =>
    rw [q] at em ho
    obtain ⟨e3, e4⟩ := ho.yes rfl
    rw [if_pos em] at hh
    subst e3 e4
    obtain ⟨bi, hx, hy⟩ := hh
    exact ⟨some bi, hx, hy, .inr ⟨⟨bi, rfl⟩, rfl⟩⟩
theorem nextZero11_any (W w : World) (hB : Below W.heap.size W w) :
    Calls Try.prog 48 #[.pointer (some ⟨w.heap.size, 0, none⟩)] (w.alloc (.cells #[.slice none 0 0] 71)) fun e w' => e = .returned (.tuple #[.agg (clA M.cl0), .bool false]) ∧ Below W.heap.size W w' := by
  have hI : It11 w.heap.size (w.alloc (.cells #[.slice none 0 0] 71)).heap.size w.heap.size [] (w.alloc (.cells #[.slice none 0 0] 71)) :=
    ⟨none, 0, 0, [], [], ⟨⟨rowIn_new _ _ _, World.ownsRow_nil _ _ _ _, rfl, by simp⟩, (fun i h0 hi => by omega), M.Hof.nil, M.Mrg.done (by simp), by simp, (fun x hx => by cases hx), Nat.le_refl _, Nat.le_refl _⟩⟩
  refine (nextNil11_any w.heap.size _ w.heap.size _ hI).mono ?_
  rintro e w' ⟨h1, _, h2, _⟩
  exact ⟨h1, (hB.alloc hB.size _).trans (h2.mono hB.size)⟩
theorem out11_own {f : List M.Cl → List M.Cl} {Rs : List M.Rw} {w w' : World} {e : Ending} {K : List M.Cl} {er : Int} (h : AllR f Rs w e w') {R : List (List M.Cl)} (hR : M.rls Rs = R) {may : Bool} (hm : M.mayR Rs = may) (ho : Out11 f R may K er) :
    ∃ a c, e = .returned (.tuple #[.slice a K.length c, .int .i64 er]) ∧ w'.ownsRow w.heap.size 38 3 (.slice a K.length c) K.length (cls K) ∧ Below w.heap.size w w' := by
  obtain ⟨a, c, e1, h1, h2⟩ := h
  subst hR
  cases hb : may with
  | false =>
    rw [hb] at hm ho
    obtain ⟨e3, e4⟩ := ho.no rfl
    subst e3 e4
    rw [if_neg (by rw [hm]; simp), if_neg (by rw [hm]; simp)] at e1
    rw [if_neg (by rw [hm]; simp)] at h1
    exact ⟨a, c, e1, h1, h2⟩
  | true =>
    rw [hb] at hm ho
    obtain ⟨e3, e4⟩ := ho.yes rfl
    subst e3 e4
    rw [if_pos hm, if_pos hm] at e1
    rw [if_pos hm] at h1
    exact ⟨a, c, e1, h1, h2⟩
/-- What is known while cells are taken. -/
structure Nj11 (W : World) (z2 N : Nat) (p : Option Nat) (K : List M.Cl) (aK : Option Addr) (cK : Nat) (L : List M.Cl) (w : World) : Prop where
  it : ItO z2 N p L w
  k : w.ownsRow N 38 3 (.slice aK K.length cK) K.length (cls K)
  b : Below W.heap.size W w
  z1 : z2 ≤ N
  z2 : N ≤ w.heap.size
theorem Nj11.below {W : World} {z2 N : Nat} {p : Option Nat} {K : List M.Cl} {aK : Option Addr} {cK : Nat} {L : List M.Cl} {w w' : World} (h : Nj11 W z2 N p K aK cK L w) (hb : Below w.heap.size w w') : Nj11 W z2 N p K aK cK L w' :=
  ⟨h.it.below hb, ownP_below h.k hb, h.b.trans (hb.mono h.b.size), h.z1, Nat.le_trans h.z2 hb.size⟩
def Nr11 (W : World) (z2 N : Nat) (p : Option Nat) (K : List M.Cl) (aK : Option Addr) (cK : Nat) (c : M.Cl) (ok : Bool) (L : List M.Cl) (e : Ending) (w' : World) : Prop := e = .returned (.tuple #[.agg (clA c), .bool ok]) ∧ Nj11 W z2 N p K aK cK L w'
theorem Nj11.next {W : World} {z2 N : Nat} {p : Option Nat} {K : List M.Cl} {aK : Option Addr} {cK : Nat} {L : List M.Cl} {w : World} (h : Nj11 W z2 N p K aK cK L w) (hW : W.heap.size ≤ z2 := by assumption) :
    Calls Try.prog 48 #[pv11 p] w (Nr11 W z2 N p K aK cK (L.headD M.cl0) (!L.isEmpty) L.tail) :=
  (nextO_any z2 N p L w h.it (Nat.le_trans h.z1 h.z2)).mono fun e w' ⟨h1, h2, h3, h4⟩ => ⟨h1, h2, h4.own h.k (by decide) (by decide), h.b.trans (h3.mono hW), h.z1, Nat.le_trans h.z2 h4.size⟩
set_option maxHeartbeats 8000000 in
set_option maxRecDepth 100000 in
theorem mergesNext_calls (W : World) (v : Value) (o : URs W v) : Calls Try.prog 12 #[v] W fun e w' => e = .returned (.bool true) ∧ Below W.heap.size W w' := by
  obtain ⟨Rs, ao, cap, rfl, hn, hi, hcap, hA⟩ := o
  have CG := Lib.hid (great11_any Rs ao cap W hA hn hi)
  have CD := Lib.hid (fun V => does11_any V)
  have HA := Lib.hid hA
  have HI := Lib.hid hi
  clear hA hi
  go_enter Try.func12, Try.ntmps12
  go_wp2_with fail
  with_reducible refine (CG.out).mono ?_
  rintro e w1 ⟨he, rfl⟩
  rcases he with rfl | ⟨rfl, hsm⟩
  · go_wp2_with fail
    go_ret
    exact ⟨rfl, Below.refl _ _⟩
  have CT := Lib.hid (twins11_any Rs hsm ao cap W HA.out)
  have HSM := Lib.hid hsm
  have HOK := Lib.hid (hsm.ok HI.out)
  have hn20 := hsm.n
  clear hsm CG
  obtain ⟨may, hmay⟩ : ∃ b, b = M.mayR Rs := ⟨_, rfl⟩
  obtain ⟨R, hR⟩ : ∃ R, R = M.rls Rs := ⟨_, rfl⟩
  obtain ⟨K, er, hK⟩ := out11_ex id R may
  have hKl : K.length ≤ 300 := by
    cases hb : may with
    | false => rw [(hK.no hb).1]; simp
    | true => rw [(hK.yes hb).1, hR]; show (M.mrg (M.rls Rs)).length ≤ 300; rw [M.mrg_len]; exact HSM.out.tot
  go_wp2_with fail
  with_reducible refine (CT.out).mono ?_
  rintro e w2 ⟨Ts, to, tc, rfl, hTl, hT, hb⟩
  have hW2 : W.heap.size ≤ w2.heap.size := hb.size
  have HB := Lib.hid hb
  have HT := Lib.hid hT
  have HA2 := Lib.hid (HA.out.below hb)
  have HTL := Lib.hid hTl
  have HTS := Lib.hid hT.same
  have HTOK := Lib.hid (HOK.out.same hT.same)
  clear hb hT hTl CT
  have HKK := Lib.hid (And.intro hK (And.intro hR hmay))
  clear hK hR hmay
  have C := Lib.hid (new11_E Ts HTOK.out Rs.length HTL.out to tc w2 HT.out.at_ (HTS.out.trans HKK.out.2.1.symm) ((M.mayR_same HTS.out).trans HKK.out.2.2.symm) HKK.out.1)
  have HTlen := Lib.hid (show ∀ r, r ∈ Ts → r.l.length ≤ 200 from fun r hr => by
    have h := rls_mem hr
    rw [HTS.out] at h
    obtain ⟨q, hq, e⟩ := List.mem_map.1 h
    rw [← e]
    exact (HSM.out.each q hq).1)
  go_wp2_with fail
  refine (C.out).mono ?_
  rintro e w3 ⟨hb, p, rfl, hI, hpe⟩
  replace HB := Lib.hid (HB.out.trans (hb.mono HB.out.size))
  replace HA2 := Lib.hid (HA2.out.below hb)
  have HRm := Lib.hid (show ∀ r, r ∈ Ts → ∃ q, r.o = some ⟨q, 0, none⟩ ∧ W.heap.size ≤ q ∧ q < w2.heap.size ∧ RoomC ((r.l.length + 1) * 3) w2 q from fun r hr => by
    obtain ⟨q, e, ho⟩ := HT.out.each r hr
    have h1 := roomC_own ho
    exact ⟨q, e, h1.2.1, (ho.lt q rfl).2, h1.1⟩)
  have HT3 := Lib.hid (show w3.ownsRow W.heap.size 22 1 (.slice to Rs.length tc) Rs.length (rwsV Ts) from by have := (HT.out.below hb).row; rwa [HTL.out] at this)
  have HZ := Lib.hid hb.size
  replace HRm := Lib.hid (show ∀ r, r ∈ Ts → ∃ q, r.o = some ⟨q, 0, none⟩ ∧ W.heap.size ≤ q ∧ q < w2.heap.size ∧ RoomC ((r.l.length + 1) * 3) w3 q from fun r hr => by
    obtain ⟨q, e, h1, h2, h3⟩ := HRm.out r hr
    exact ⟨q, e, h1, h2, h3.below hb⟩)
  have HIt := Lib.hid hI
  clear hI hb C HT
  have C := Lib.hid (refAll11_any Rs HOK.out ao cap w3 HA2.out)
  go_wp2_with fail
  refine (C.out).mono ?_
  intro e w4 hh
  obtain ⟨aK, cK, rfl, ho, hb⟩ := out11_own hh HKK.out.2.1.symm HKK.out.2.2.symm HKK.out.1
  have HN := Lib.hid (show Nx11 W w2.heap.size w3.heap.size w3.heap.size p K Ts to aK tc cK Rs.length w4 from
    ⟨ownP_below HT3.out hb, fun r hr => by
      obtain ⟨q, e, h1, h2, h3⟩ := HRm.out r hr
      exact ⟨q, e, h1, h2, h3.below hb⟩, HIt.out.below hb, ho, HB.out.trans (hb.mono HB.out.size), HZ.out, hb.size⟩)
  clear ho hb C hh HB HT3 HRm HIt HZ
  rcases hpe with ⟨rfl, rfl⟩ | ⟨⟨bi, rfl⟩, rfl⟩
  · have epv : pv11 none = .pointer none := rfl
    rw [epv]
    clear epv
    go_wp2_with fail
    go_loopw [8] (fun i wr => ∃ k : Nat, k ≤ Rs.length ∧ i = .int .i64 k ∧ Hid (Nx11 W w2.heap.size w3.heap.size w3.heap.size none K Ts to aK tc cK Rs.length wr)) (fun i _ => Rs.length - (intOf i).toNat)
    case atStart => exact ⟨0, Nat.zero_le _, rfl, HN⟩
    case round =>
      clear HN
      obtain ⟨k, hk, rfl, HN⟩ := hrel
      by_cases hlt : k < Rs.length
      · have hki : (k : Int) < (Rs.length : Int) := by omega
        obtain ⟨g, rfl⟩ := HN.out.addr hlt
        have hkt : k < Ts.length := by rw [HTL.out]; exact hlt
        have HMR := Lib.hid (M.getD_memR hkt)
        have HC := Lib.hid (fun V (h : Nx11 W w2.heap.size w3.heap.size w3.heap.size none K Ts (some ⟨g, 0, none⟩) aK tc cK Rs.length V) => h.cell HTL.out hlt)
        have HRQ := Lib.hid (fun V (h : Nx11 W w2.heap.size w3.heap.size w3.heap.size none K Ts (some ⟨g, 0, none⟩) aK tc cK Rs.length V) => h.room _ HMR.out)
        have hlen := HTlen.out _ HMR.out
        generalize Ts.getD k M.rw0 = r at *
        obtain ⟨l, o, kc⟩ := r
        simp only at HC HRQ hlen
        obtain ⟨q, eq, hq1, hq2, _⟩ := HRQ.out _ HN.out
        subst eq
        replace HRQ := Lib.hid (show ∀ V, Nx11 W w2.heap.size w3.heap.size w3.heap.size none K Ts (some ⟨g, 0, none⟩) aK tc cK Rs.length V → RoomC ((l.length + 1) * 3) V q from fun V h => by
          obtain ⟨q', e, _, _, h3⟩ := HRQ.out V h
          injection e with e
          injection e with e
          subst e
          exact h3)
        go_wp2_with fail
        go_loopw [9] (fun i wr => ∃ j : Nat, j ≤ l.length ∧ i = .int .i64 j ∧ Hid (Nx11 W w2.heap.size w3.heap.size w3.heap.size none K Ts (some ⟨g, 0, none⟩) aK tc cK Rs.length wr)) (fun i _ => l.length - (intOf i).toNat)
        case atStart => exact ⟨0, Nat.zero_le _, rfl, HN⟩
        case round =>
          clear HN
          obtain ⟨j, hj, rfl, HN⟩ := hrel
          have x0 := HC.out _ HN.out
          by_cases hjl : j < l.length
          · have hji : (j : Int) < (l.length : Int) := by omega
            have HRM := Lib.hid (HRQ.out _ HN.out)
            obtain ⟨v0, c0⟩ := HRM.out.cell (j * 3) (by omega)
            obtain ⟨v1, c1⟩ := HRM.out.cell (j * 3 + 1) (by omega)
            obtain ⟨v2, c2⟩ := HRM.out.cell (j * 3 + 2) (by omega)
            have n0 := HRM.out.free (j * 3)
            have n1 := HRM.out.free (j * 3 + 1)
            have n2 := HRM.out.free (j * 3 + 2)
            go_wp2_with fail
            go_roundw
            case rel => exact ⟨j + 1, by omega, by go_num, Lib.hid (((HN.out.set HRM.out hq1 hq2 _ _).set (HRM.out.setAny _ _ _) hq1 hq2 _ _).set ((HRM.out.setAny _ _ _).setAny _ _ _) hq1 hq2 _ _)⟩
            case measure => simp [intOf]; omega
          · obtain rfl : j = l.length := by omega
            go_wp2_with fail
            go_roundw
            case rel => exact ⟨k + 1, by omega, by go_num, HN⟩
            case measure => simp [intOf]; omega
      · obtain rfl : k = Rs.length := by omega
        go_wp2_with fail
        have HZ3 := Lib.hid HN.out.z
        obtain ⟨wo, hwo⟩ : ∃ x, x = wr := ⟨_, rfl⟩
        rw [← hwo] at HN
        have HJ0 := Lib.hid (show Nj11 W w2.heap.size w3.heap.size none K aK cK (K.drop 0) wo from ⟨HN.out.it, HN.out.k, HN.out.b, HN.out.z.1, HN.out.z.2⟩)
        rw [hwo] at HJ0
        clear hwo HN
        go_loopw [10] (fun i wr => ∃ k : Nat, k ≤ K.length ∧ i = .int .i64 k ∧ Hid (Nj11 W w2.heap.size w3.heap.size none K aK cK (K.drop k) wr)) (fun i _ => K.length - (intOf i).toNat)
        case atStart => exact ⟨0, Nat.zero_le _, rfl, HJ0⟩
        case round =>
          clear HJ0
          obtain ⟨k, hk, rfl, HJ⟩ := hrel
          by_cases hlt : k < K.length
          · have hki : (k : Int) < (K.length : Int) := by omega
            have HDr := Lib.hid (show K.drop k = K.getD k M.cl0 :: K.drop (k + 1) from by rw [List.drop_eq_getElem_cons hlt]; simp [List.getD, hlt])
            have CN := Lib.hid (show Calls Try.prog 48 #[.pointer none] wr (Nr11 W w2.heap.size w3.heap.size none K aK cK (K.getD k M.cl0) true (K.drop (k + 1))) from by have := HJ.out.next; rw [HDr.out] at this; exact this)
            clear HDr
            go_wp2_with fail
            refine (CN.out).mono ?_
            rintro e w5 ⟨rfl, hj⟩
            obtain ⟨g, off, rfl, hc⟩ := (clsAt_own hj.k rfl).off k hlt
            have HJ5 := Lib.hid hj
            have HC := Lib.hid hc
            generalize K.getD k M.cl0 = c at *
            clear hc hj CN HJ
            have HXX := Lib.hid (rowIn_new (clA c) 38 w5)
            have hal := (Below.refl w5.heap.size w5).alloc (Nat.le_refl _) (.cells (clA c) 38)
            have HJ6 := Lib.hid (HJ5.out.below hal)
            obtain ⟨y0, y1, y2⟩ := HC.out.below hal
            have hq := fun w => run_neq_cl c w
            clear hal
            go_wp2_with fail
            have e0 := HXX.out.cell 0
            have e1 := HXX.out.cell 1
            have e2 := HXX.out.cell 2
            generalize (w5.alloc (.cells #[Value.string (S c.key), Value.int IntKind.i64 c.seq, Value.string (S c.val)] 38)) = wz at *
            go_quiet (fail)
            have hbq : Below wz.heap.size wz (wz.drewN nq) := below_drewN (Below.refl _ _) nq
            replace HJ6 := Lib.hid (HJ6.out.below hbq)
            clear hbq e0 e1 e2 y0 y1 y2
            go_wp2_with fail
            go_roundw
            case rel => exact ⟨k + 1, by omega, by go_num, HJ6⟩
            case measure => simp [intOf]; omega
          · obtain rfl : k = K.length := by omega
            replace HJ := Lib.hid (show Nj11 W w2.heap.size w3.heap.size none K aK cK [] wr from by have := HJ.out; rwa [List.drop_length] at this)
            go_wp2_with fail
            go_loopw [13] (fun i wr => ∃ k : Nat, k ≤ 3 ∧ i = .int .i64 k ∧ Hid (Nj11 W w2.heap.size w3.heap.size none K aK cK [] wr)) (fun i _ => 3 - (intOf i).toNat)
            case atStart => exact ⟨0, by omega, rfl, HJ⟩
            case round =>
              clear HJ
              obtain ⟨k, hk, rfl, HJ⟩ := hrel
              by_cases hlt : k < 3
              · have hki : (k : Int) < 3 := by omega
                have CN := Lib.hid (show Calls Try.prog 48 #[.pointer none] wr (Nr11 W w2.heap.size w3.heap.size none K aK cK M.cl0 false []) from HJ.out.next)
                go_wp2_with fail
                refine (CN.out).mono ?_
                rintro e w5 ⟨rfl, hj⟩
                have HJ5 := Lib.hid hj
                clear hj CN HJ
                have HXX := Lib.hid (rowIn_new (clA M.cl0) 38 w5)
                have HJ6 := Lib.hid (HJ5.out.below ((Below.refl w5.heap.size w5).alloc (Nat.le_refl _) (.cells (clA M.cl0) 38)))
                have hq := fun w => run_neq_cl M.cl0 w
                go_wp2_with fail
                go_roundw
                case rel => exact ⟨k + 1, by omega, by go_num, HJ6⟩
                case measure => simp [intOf]; omega
              · obtain rfl : k = 3 := by omega
                have CZ := Lib.hid (nextZero11_any W wr HJ.out.b)
                go_wp2_with fail
                refine (CZ.out).mono ?_
                rintro e w6 ⟨rfl, hb⟩
                have HB6 := Lib.hid (hb.alloc hb.size (.cells (clA M.cl0) 38))
                clear hb CZ HJ
                go_wp2_with fail
                with_reducible refine (CD.out _).mono ?_
                rintro e w7 ⟨rfl, hb⟩
                replace HB6 := Lib.hid (HB6.out.trans (hb.mono HB6.out.size))
                clear hb
                go_wp2_with fail
                go_ret
                exact ⟨rfl, HB6.out⟩
  · have epv : pv11 (some bi) = .pointer (some ⟨bi, 0, none⟩) := rfl
    rw [epv]
    clear epv
    go_wp2_with fail
    go_loopw [8] (fun i wr => ∃ k : Nat, k ≤ Rs.length ∧ i = .int .i64 k ∧ Hid (Nx11 W w2.heap.size w3.heap.size w3.heap.size (some bi) K Ts to aK tc cK Rs.length wr)) (fun i _ => Rs.length - (intOf i).toNat)
    case atStart => exact ⟨0, Nat.zero_le _, rfl, HN⟩
    case round =>
      clear HN
      obtain ⟨k, hk, rfl, HN⟩ := hrel
      by_cases hlt : k < Rs.length
      · have hki : (k : Int) < (Rs.length : Int) := by omega
        obtain ⟨g, rfl⟩ := HN.out.addr hlt
        have hkt : k < Ts.length := by rw [HTL.out]; exact hlt
        have HMR := Lib.hid (M.getD_memR hkt)
        have HC := Lib.hid (fun V (h : Nx11 W w2.heap.size w3.heap.size w3.heap.size (some bi) K Ts (some ⟨g, 0, none⟩) aK tc cK Rs.length V) => h.cell HTL.out hlt)
        have HRQ := Lib.hid (fun V (h : Nx11 W w2.heap.size w3.heap.size w3.heap.size (some bi) K Ts (some ⟨g, 0, none⟩) aK tc cK Rs.length V) => h.room _ HMR.out)
        have hlen := HTlen.out _ HMR.out
        generalize Ts.getD k M.rw0 = r at *
        obtain ⟨l, o, kc⟩ := r
        simp only at HC HRQ hlen
        obtain ⟨q, eq, hq1, hq2, _⟩ := HRQ.out _ HN.out
        subst eq
        replace HRQ := Lib.hid (show ∀ V, Nx11 W w2.heap.size w3.heap.size w3.heap.size (some bi) K Ts (some ⟨g, 0, none⟩) aK tc cK Rs.length V → RoomC ((l.length + 1) * 3) V q from fun V h => by
          obtain ⟨q', e, _, _, h3⟩ := HRQ.out V h
          injection e with e
          injection e with e
          subst e
          exact h3)
        go_wp2_with fail
        go_loopw [9] (fun i wr => ∃ j : Nat, j ≤ l.length ∧ i = .int .i64 j ∧ Hid (Nx11 W w2.heap.size w3.heap.size w3.heap.size (some bi) K Ts (some ⟨g, 0, none⟩) aK tc cK Rs.length wr)) (fun i _ => l.length - (intOf i).toNat)
        case atStart => exact ⟨0, Nat.zero_le _, rfl, HN⟩
        case round =>
          clear HN
          obtain ⟨j, hj, rfl, HN⟩ := hrel
          have x0 := HC.out _ HN.out
          by_cases hjl : j < l.length
          · have hji : (j : Int) < (l.length : Int) := by omega
            have HRM := Lib.hid (HRQ.out _ HN.out)
            obtain ⟨v0, c0⟩ := HRM.out.cell (j * 3) (by omega)
            obtain ⟨v1, c1⟩ := HRM.out.cell (j * 3 + 1) (by omega)
            obtain ⟨v2, c2⟩ := HRM.out.cell (j * 3 + 2) (by omega)
            have n0 := HRM.out.free (j * 3)
            have n1 := HRM.out.free (j * 3 + 1)
            have n2 := HRM.out.free (j * 3 + 2)
            go_wp2_with fail
            go_roundw
            case rel => exact ⟨j + 1, by omega, by go_num, Lib.hid (((HN.out.set HRM.out hq1 hq2 _ _).set (HRM.out.setAny _ _ _) hq1 hq2 _ _).set ((HRM.out.setAny _ _ _).setAny _ _ _) hq1 hq2 _ _)⟩
            case measure => simp [intOf]; omega
          · obtain rfl : j = l.length := by omega
            go_wp2_with fail
            go_roundw
            case rel => exact ⟨k + 1, by omega, by go_num, HN⟩
            case measure => simp [intOf]; omega
      · obtain rfl : k = Rs.length := by omega
        go_wp2_with fail
        have HZ3 := Lib.hid HN.out.z
        obtain ⟨wo, hwo⟩ : ∃ x, x = wr := ⟨_, rfl⟩
        rw [← hwo] at HN
        have HJ0 := Lib.hid (show Nj11 W w2.heap.size w3.heap.size (some bi) K aK cK (K.drop 0) wo from ⟨HN.out.it, HN.out.k, HN.out.b, HN.out.z.1, HN.out.z.2⟩)
        rw [hwo] at HJ0
        clear hwo HN
        go_loopw [10] (fun i wr => ∃ k : Nat, k ≤ K.length ∧ i = .int .i64 k ∧ Hid (Nj11 W w2.heap.size w3.heap.size (some bi) K aK cK (K.drop k) wr)) (fun i _ => K.length - (intOf i).toNat)
        case atStart => exact ⟨0, Nat.zero_le _, rfl, HJ0⟩
        case round =>
          clear HJ0
          obtain ⟨k, hk, rfl, HJ⟩ := hrel
          by_cases hlt : k < K.length
          · have hki : (k : Int) < (K.length : Int) := by omega
            have HDr := Lib.hid (show K.drop k = K.getD k M.cl0 :: K.drop (k + 1) from by rw [List.drop_eq_getElem_cons hlt]; simp [List.getD, hlt])
            have CN := Lib.hid (show Calls Try.prog 48 #[.pointer (some ⟨bi, 0, none⟩)] wr (Nr11 W w2.heap.size w3.heap.size (some bi) K aK cK (K.getD k M.cl0) true (K.drop (k + 1))) from by have := HJ.out.next; rw [HDr.out] at this; exact this)
            clear HDr
            go_wp2_with fail
            refine (CN.out).mono ?_
            rintro e w5 ⟨rfl, hj⟩
            obtain ⟨g, off, rfl, hc⟩ := (clsAt_own hj.k rfl).off k hlt
            have HJ5 := Lib.hid hj
            have HC := Lib.hid hc
            generalize K.getD k M.cl0 = c at *
            clear hc hj CN HJ
            have HXX := Lib.hid (rowIn_new (clA c) 38 w5)
            have hal := (Below.refl w5.heap.size w5).alloc (Nat.le_refl _) (.cells (clA c) 38)
            have HJ6 := Lib.hid (HJ5.out.below hal)
            obtain ⟨y0, y1, y2⟩ := HC.out.below hal
            have hq := fun w => run_neq_cl c w
            clear hal
            go_wp2_with fail
            have e0 := HXX.out.cell 0
            have e1 := HXX.out.cell 1
            have e2 := HXX.out.cell 2
            generalize (w5.alloc (.cells #[Value.string (S c.key), Value.int IntKind.i64 c.seq, Value.string (S c.val)] 38)) = wz at *
            go_quiet (fail)
            have hbq : Below wz.heap.size wz (wz.drewN nq) := below_drewN (Below.refl _ _) nq
            replace HJ6 := Lib.hid (HJ6.out.below hbq)
            clear hbq e0 e1 e2 y0 y1 y2
            go_wp2_with fail
            go_roundw
            case rel => exact ⟨k + 1, by omega, by go_num, HJ6⟩
            case measure => simp [intOf]; omega
          · obtain rfl : k = K.length := by omega
            replace HJ := Lib.hid (show Nj11 W w2.heap.size w3.heap.size (some bi) K aK cK [] wr from by have := HJ.out; rwa [List.drop_length] at this)
            go_wp2_with fail
            go_loopw [13] (fun i wr => ∃ k : Nat, k ≤ 3 ∧ i = .int .i64 k ∧ Hid (Nj11 W w2.heap.size w3.heap.size (some bi) K aK cK [] wr)) (fun i _ => 3 - (intOf i).toNat)
            case atStart => exact ⟨0, by omega, rfl, HJ⟩
            case round =>
              clear HJ
              obtain ⟨k, hk, rfl, HJ⟩ := hrel
              by_cases hlt : k < 3
              · have hki : (k : Int) < 3 := by omega
                have CN := Lib.hid (show Calls Try.prog 48 #[.pointer (some ⟨bi, 0, none⟩)] wr (Nr11 W w2.heap.size w3.heap.size (some bi) K aK cK M.cl0 false []) from HJ.out.next)
                go_wp2_with fail
                refine (CN.out).mono ?_
                rintro e w5 ⟨rfl, hj⟩
                have HJ5 := Lib.hid hj
                clear hj CN HJ
                have HXX := Lib.hid (rowIn_new (clA M.cl0) 38 w5)
                have HJ6 := Lib.hid (HJ5.out.below ((Below.refl w5.heap.size w5).alloc (Nat.le_refl _) (.cells (clA M.cl0) 38)))
                have hq := fun w => run_neq_cl M.cl0 w
                go_wp2_with fail
                go_roundw
                case rel => exact ⟨k + 1, by omega, by go_num, HJ6⟩
                case measure => simp [intOf]; omega
              · obtain rfl : k = 3 := by omega
                have CZ := Lib.hid (nextZero11_any W wr HJ.out.b)
                go_wp2_with fail
                refine (CZ.out).mono ?_
                rintro e w6 ⟨rfl, hb⟩
                have HB6 := Lib.hid (hb.alloc hb.size (.cells (clA M.cl0) 38))
                clear hb CZ HJ
                go_wp2_with fail
                with_reducible refine (CD.out _).mono ?_
                rintro e w7 ⟨rfl, hb⟩
                replace HB6 := Lib.hid (HB6.out.trans (hb.mono HB6.out.size))
                clear hb
                go_wp2_with fail
                go_ret
                exact ⟨rfl, HB6.out⟩

end Go.Proofs.Ythidmgnfdikppaa
