/- Layer 11: rows that come in; their clones; New, by contracts. -/
import Derived.Test.YthidmgnfdikppaaMergesQ
import Derived.Lib.SliceRun
namespace Go.Proofs.Ythidmgnfdikppaa
set_option linter.unusedVariables false
open Go Go.RowKit
attribute [local go_sem ↓] run_index_S
attribute [local go_sem] S_append S_extract

/-- A row that comes in: its cells, where they lie, its capacity. -/
structure M.Rw where
  l : List M.Cl
  o : Option Addr
  k : Nat
def M.rw0 : M.Rw := ⟨[], none, 0⟩
def RwAt (w : World) (g o : Nat) (r : M.Rw) : Prop := w.cell? ⟨g, o, none⟩ = some (.slice r.o r.l.length r.k) ∧ ClsAt w r.o r.l
def RwsAt (w : World) (ao : Option Addr) (Rs : List M.Rw) : Prop := Rs ≠ [] → ∃ g off, ao = some ⟨g, off, none⟩ ∧ ∀ j, j < Rs.length → RwAt w g (off + j) (Rs.getD j M.rw0)
theorem RwAt.below {w w' : World} {g o : Nat} {r : M.Rw} (h : RwAt w g o r) (hb : Below w.heap.size w w') : RwAt w' g o r :=
  ⟨(hb.cell (p := ⟨g, o, none⟩) (block_lt_of_cell h.1)).trans h.1, h.2.below hb⟩
theorem RwsAt.below {w w' : World} {ao : Option Addr} {Rs : List M.Rw} (h : RwsAt w ao Rs) (hb : Below w.heap.size w w') : RwsAt w' ao Rs := fun hn => by
  obtain ⟨g, off, e, hc⟩ := h hn
  exact ⟨g, off, e, fun j hj => (hc j hj).below hb⟩
theorem RwsAt.off {w : World} {ao : Option Addr} {Rs : List M.Rw} (h : RwsAt w ao Rs) (j : Nat) (hj : j < Rs.length) : ∃ g off, ao = some ⟨g, off, none⟩ ∧ RwAt w g (off + j) (Rs.getD j M.rw0) := by
  obtain ⟨g, off, e, hc⟩ := h (fun h => by rw [h] at hj; simp at hj)
  exact ⟨g, off, e, hc j hj⟩
theorem M.getD_memR {Rs : List M.Rw} {j : Nat} (h : j < Rs.length) : Rs.getD j M.rw0 ∈ Rs := by
  have e : Rs.getD j M.rw0 = Rs[j] := by simp [List.getD, h]
  rw [e]; exact List.getElem_mem h
theorem M.takeR_snoc {Rs : List M.Rw} {j : Nat} (h : j < Rs.length) : Rs.take (j + 1) = Rs.take j ++ [Rs.getD j M.rw0] := by
  have e : Rs.getD j M.rw0 = Rs[j] := by simp [List.getD, h]
  rw [e, List.take_append_getElem]
def M.mayR (Rs : List M.Rw) : Bool := Rs.all (fun r => M.srt none r.l)
structure RsOk (Rs : List M.Rw) : Prop where
  n : Rs.length ≤ 1000
  len : ∀ r, r ∈ Rs → r.l.length ≤ 100000
  ok : ∀ r, r ∈ Rs → ∀ c, c ∈ r.l → ClOk c
  tot : ((Rs.map (fun r => r.l)).map List.length).sum ≤ 900000

def CloneR (L : List M.Cl) (w : World) (e : Ending) (w' : World) : Prop := ∃ ao c, e = .returned (.slice ao L.length c) ∧ w'.ownsRow w.heap.size 38 3 (.slice ao L.length c) L.length (cls L) ∧ Below w.heap.size w w'
set_option maxHeartbeats 4000000 in
set_option maxRecDepth 100000 in
theorem clone11_any (L : List M.Cl) (hl : L.length ≤ 100000) (ao : Option Addr) (cap : Nat) (w : World) (hC : ClsAt w ao L) :
    Calls Try.prog 96 #[.slice ao L.length cap] w (CloneR L w) := by
  have qT : ∀ (w : World) (a : Option Addr) (n c n' c' : Nat), (binOp .eql 22 (.slice a n c) (.slice none n' c')).run Try.prog w = .ok (.bool a.isNone) w := fun w a n c n' c' => Lib.run_eql_slice_nil w _ _ a n c n' c' Try.underlying22
  cases ao with
  | none =>
    have hL : L = [] := by
      cases L with
      | nil => rfl
      | cons x r => obtain ⟨g, off, e, _⟩ := hC (by simp); cases e
    subst hL
    go_enter Try.func96, Try.ntmps96
    go_wp2_with fail
    go_ret
    exact ⟨none, 0, rfl, World.ownsRow_nil _ _ _ _, Below.refl _ _⟩
  | some ad =>
    obtain ⟨i0, z0, hi0, hz0, h01, h02, h03⟩ := infoCl_parts
    have HO := Lib.hid (World.ownsRow_made (base := w.heap.size) (e := 38) (size := 3) w #[] 0 (Nat.le_refl _) (Nat.zero_le _) rfl)
    have HC := Lib.hid (hC.below ((Below.refl _ _).alloc (Nat.le_refl _) (.cells #[] 38)))
    have HB := Lib.hid ((Below.refl w.heap.size w).alloc (Nat.le_refl _) (.cells #[] 38))
    have hl2 : 0 + L.length ≤ 1000000 := by omega
    clear hC
    go_enter Try.func96, Try.ntmps96
    go_wp2_with ((refine wpList_append_cls_at rfl _ _ 22 rfl w.heap.size i0 z0 (by kernel_rfl) hi0 hz0 h01 h02 h03 _ 0 [] rfl HO.out (some ad) cap L rfl HC.out hl2 HB.out.size ?_; intro v' wN hown hg h7; obtain ⟨ao', cap', rfl⟩ := ownP_shape hown; rw [Nat.zero_add, List.nil_append] at hown; have HN := Lib.hid (And.intro hown (And.intro hg h7)); clear hown hg h7))
    go_ret
    exact ⟨ao', cap', rfl, HN.out.1, HB.out.grown HN.out.2.1 HB.out.size (fun q e => by cases e; exact Nat.le_refl _)⟩

def M.rls (Rs : List M.Rw) : List (List M.Cl) := Rs.map (fun r => r.l)
theorem M.rls_snoc {Rs : List M.Rw} {j : Nat} (h : j < Rs.length) : M.rls (Rs.take (j + 1)) = M.rls (Rs.take j) ++ [(Rs.getD j M.rw0).l] := by rw [M.takeR_snoc h]; simp [M.rls]
theorem M.mayR_take {Rs : List M.Rw} {j : Nat} (h : j < Rs.length) : M.mayR (Rs.take (j + 1)) = (M.mayR (Rs.take j) && M.srt none (Rs.getD j M.rw0).l) := by rw [M.takeR_snoc h]; simp [M.mayR]
theorem M.mayR_cut {Rs : List M.Rw} {j : Nat} (h : j < Rs.length) (hs : M.srt none (Rs.getD j M.rw0).l = false) : M.mayR Rs = false := by
  cases q : M.mayR Rs with
  | false => rfl
  | true =>
    unfold M.mayR at q
    rw [List.all_eq_true] at q
    rw [q _ (M.getD_memR h)] at hs; cases hs
theorem Ic.snocNil {B N bi : Nat} {ao : Option Addr} {n cap : Nat} {H : List M.Hd} {R : List (List M.Cl)} {w : World} (h : Ic B N bi ao n cap H R (M.mrg R) w) (hl : R.length + 1 ≤ 100000) : Ic B N bi ao n cap H (R ++ [[]]) (M.mrg (R ++ [[]])) w :=
  ⟨h.hq, h.hp, h.hof.snoc_nil, M.mrg_is _, by simpa using hl, h.beh, h.bb, h.nl⟩
theorem Ic.snocCons {B N bi : Nat} {ao ao' : Option Addr} {n cap cap' : Nat} {H K : List M.Hd} {R : List (List M.Cl)} {w w' : World} {c : M.Cl} {t : List M.Cl} {q off k : Nat} (h : Ic B N bi ao n cap H R (M.mrg R) w) (hl : R.length + 1 ≤ 100000)
    (hK : K.Perm (H ++ [M.hdOf c t q off k R.length])) (hp : M.Hp K (n + 1)) (hq : Hq B bi ao' (n + 1) cap' K w') (ht : Two bi (Value.slice ao n cap).ownBlock w w')
    (hBq : B ≤ q) (hqw : q < w.heap.size) (hC : ∃ C fz, w.heap[q]? = some (.cells C 38 fz)) (hcl : ∀ j, j < (c :: t).length → ClOff ((c :: t).getD j M.cl0) w q (off + j * 3)) (hk : t.length + 1 ≤ k) :
    Ic B w'.heap.size bi ao' (n + 1) cap' K (R ++ [c :: t]) (M.mrg (R ++ [c :: t])) w' := by
  have kp := h.hq.cellKeep ht
  refine ⟨hq, hp, (h.hof.snoc _ _).perm hK, M.mrg_is _, by simpa using hl, fun x hx => ?_, h.bb, Nat.le_refl _⟩
  rcases List.mem_append.1 (hK.mem_iff.1 hx) with hx | hx
  · intro hb
    obtain ⟨q', off', e1, h1, h2, r⟩ := (h.beh x hx).keep (fun b _ hc => kp b hc) hb
    exact ⟨q', off', e1, h1, Nat.lt_of_lt_of_le h2 (Nat.le_trans h.nl ht.size), r⟩
  · have ex : x = M.hdOf c t q off k R.length := by simpa using hx
    subst ex
    intro hne
    have ht0 : t.length ≠ 0 := fun e => hne (List.eq_nil_of_length_eq_zero e)
    have hkq := kp q hC
    refine ⟨q, off + 3, by simp only [M.hdOf]; rw [if_neg (by omega)], hBq, Nat.lt_of_lt_of_le hqw ht.size, by rw [hkq]; exact hC, fun j hj => ?_, by simp only [M.hdOf]; omega⟩
    have := clOff_blk (hcl (j + 1) (by simpa [M.hdOf] using hj)) hkq
    rw [show off + (j + 1) * 3 = off + 3 + j * 3 from by omega] at this
    simpa [M.hdOf, List.getD] using this
theorem clsAt_own0 {B : Nat} {w : World} {ao : Option Addr} {cap : Nat} {L : List M.Cl} (h : w.ownsRow B 38 3 (.slice ao L.length cap) L.length (cls L)) (hL : L ≠ []) : ∃ q, ao = some ⟨q, 0, none⟩ ∧ B ≤ q ∧ q < w.heap.size ∧ (∃ C fz, w.heap[q]? = some (.cells C 38 fz)) ∧ (∀ j, j < L.length → ClOff (L.getD j M.cl0) w q (0 + j * 3)) ∧ L.length ≤ cap := by
  have hc := clsAt_own h rfl
  rcases h.2 with ⟨_, h0⟩ | ⟨g, cap', cur, hv, hB, hg, hn, _⟩
  · exact absurd (List.eq_nil_of_length_eq_zero h0) hL
  · cases hv
    obtain ⟨q, off, e, hcl⟩ := hc hL
    injection e with e
    injection e with e1 e2
    subst e1; subst e2
    exact ⟨g, rfl, hB, (Array.getElem?_eq_some_iff.1 hg).1, ⟨_, _, hg⟩, hcl, hn⟩
def NewR (Rs : List M.Rw) (w : World) (e : Ending) (w' : World) : Prop :=
  Below w.heap.size w w' ∧ if M.mayR Rs = true then ∃ bi, e = .returned (.tuple #[.pointer (some ⟨bi, 0, none⟩), .int .i64 0]) ∧ It11 w.heap.size w'.heap.size bi (M.mrg (M.rls Rs)) w' else e = .returned (.tuple #[.pointer none, .int .i64 2])
set_option maxHeartbeats 4000000 in
set_option maxRecDepth 100000 in
theorem new11_any (Rs : List M.Rw) (hR : RsOk Rs) (ao : Option Addr) (cap : Nat) (w : World) (h : RwsAt w ao Rs) :
    Calls Try.prog 47 #[.slice ao Rs.length cap] w (NewR Rs w) := by
  have HR := Lib.hid hR
  have HA := Lib.hid h
  have hn := hR.n
  clear h hR
  go_enter Try.func47, Try.ntmps47
  go_wp2_with fail
  go_loopw [11] (fun i wr => ∃ k : Nat, k ≤ Rs.length ∧ i = .int .i64 k ∧ Hid (M.mayR (Rs.take k) = true) ∧ Hid (Below w.heap.size w wr)) (fun i _ => Rs.length - (intOf i).toNat)
  case atStart => exact ⟨0, Nat.zero_le _, rfl, Lib.hid rfl, Lib.hid (Below.refl _ _)⟩
  case round =>
    obtain ⟨k, hk, rfl, HS, HB⟩ := hrel
    by_cases hlt : k < Rs.length
    · have hki : (k : Int) < (Rs.length : Int) := by omega
      obtain ⟨g, off, rfl, hc⟩ := (HA.out.below HB.out).off k hlt
      have HF := Lib.hid (M.getD_memR hlt)
      have HT := Lib.hid (M.mayR_take hlt)
      have HX := Lib.hid (fun hs => M.mayR_cut (Rs := Rs) hlt hs)
      generalize Rs.getD k M.rw0 = r at *
      obtain ⟨l, o, kc⟩ := r
      obtain ⟨x0, hcl⟩ := hc
      simp only at x0 hcl
      have C := Lib.hid (sorted9_any l (by have := HR.out.len _ HF.out; simp only at this; omega) o kc wr hcl (HR.out.ok _ HF.out))
      clear hcl
      go_wp2_with fail
      with_reducible refine (C.out).mono ?_
      rintro e w1 ⟨rfl, hb⟩
      replace HB := Lib.hid (HB.out.trans (hb.mono HB.out.size))
      clear hb C x0
      cases hs : M.srt none l with
      | false =>
        have HE := Lib.hid (HX.out hs)
        clear hs HX
        go_wp2_with fail
        go_ret2
        exact ⟨HB.out, by rw [if_neg (by rw [HE.out]; simp)]; rfl⟩
      | true =>
        have HE := Lib.hid (show M.mayR (Rs.take (k + 1)) = true from by rw [HT.out, HS.out, hs]; rfl)
        clear hs HX HT
        go_wp2_with fail
        go_roundw
        case rel => exact ⟨k + 1, by omega, by go_num, HE, HB⟩
        case measure => simp [intOf]; omega
    · obtain rfl : k = Rs.length := by omega
      have HM := Lib.hid (show M.mayR Rs = true from by have := HS.out; rwa [List.take_length] at this)
      go_wp2_with fail
      have HI := Lib.hid (show Ic w.heap.size (wr.alloc (.cells #[.slice none 0 0] 71)).heap.size wr.heap.size none 0 0 [] (M.rls (Rs.take 0)) (M.mrg (M.rls (Rs.take 0))) (wr.alloc (.cells #[.slice none 0 0] 71)) from
        ⟨⟨rowIn_new _ _ _, World.ownsRow_nil _ _ _ _, rfl, Nat.le_trans HB.out.size (by simp)⟩, (fun i h0 hi => by omega), M.Hof.nil, M.mrg_is _, (by simp [M.rls]), (fun x hx => by cases hx), HB.out.size, Nat.le_refl _⟩)
      replace HB := Lib.hid (HB.out.alloc HB.out.size (.cells #[.slice none 0 0] 71))
      generalize wr.alloc (.cells #[.slice none 0 0] 71) = w1 at *
      generalize wr.heap.size = bi at *
      clear HS
      go_loopw [23] (fun i wq => ∃ (k : Nat) (ao2 : Option Addr) (n cap2 : Nat) (H : List M.Hd), k ≤ Rs.length ∧ i = .int .i64 k ∧ Hid (Ic w.heap.size wq.heap.size bi ao2 n cap2 H (M.rls (Rs.take k)) (M.mrg (M.rls (Rs.take k))) wq) ∧ Hid (Below w.heap.size w wq)) (fun i _ => Rs.length - (intOf i).toNat)
      case atStart => exact ⟨0, _, _, _, _, Nat.zero_le _, rfl, HI, HB⟩
      case round =>
        clear HI HB
        obtain ⟨k, ao2, n, cap2, H, hk, rfl, HI, HB⟩ := hrel
        by_cases hlt : k < Rs.length
        · have hki : (k : Int) < (Rs.length : Int) := by omega
          obtain ⟨g, off, rfl, hc⟩ := (HA.out.below HB.out).off k hlt
          have HF := Lib.hid (M.getD_memR hlt)
          have HT := Lib.hid (M.rls_snoc hlt)
          have HL := Lib.hid (show (M.rls (Rs.take k)).length = k from by simp [M.rls]; omega)
          generalize Rs.getD k M.rw0 = r at *
          obtain ⟨l, o, kc⟩ := r
          obtain ⟨x0, hcl⟩ := hc
          simp only at x0 hcl
          have C := Lib.hid (clone11_any l (by have := HR.out.len _ HF.out; exact this) o kc wr hcl)
          clear hcl
          go_wp2_with fail
          with_reducible refine (C.out).mono ?_
          rintro e w2 ⟨ao3, c3, rfl, ho3, hb⟩
          have HI2 := Lib.hid (HI.out.below hb)
          have HB2 := Lib.hid (HB.out.trans (hb.mono HB.out.size))
          have HO3 := Lib.hid ho3
          have HZ := Lib.hid hb.size
          have hn1 : n + 1 ≤ 1000000 := by
            have h1 := HI.out.hof.len
            have h2 := HI.out.rl
            have h3 := HI.out.hq.len
            omega
          clear ho3 hb C x0 HI
          cases l with
          | nil =>
            have C := Lib.hid (layNil11_any bi ao3 c3 k w2)
            have HI3 := Lib.hid (show Ic w.heap.size w2.heap.size bi ao2 n cap2 H (M.rls (Rs.take (k + 1))) (M.mrg (M.rls (Rs.take (k + 1)))) w2 from by
              rw [HT.out]
              exact (HI2.out.snocNil (by rw [HL.out]; omega)).more HZ.out (Nat.le_refl _))
            go_wp2_with fail
            with_reducible refine (C.out).mono ?_
            rintro e w3 ⟨rfl, rfl⟩
            clear C
            go_wp2_with fail
            go_roundw
            case rel => exact ⟨k + 1, _, _, _, _, by omega, by go_num, HI3, HB2⟩
            case measure => simp [intOf]; omega
          | cons c t =>
            obtain ⟨q, eq, hBq, hqw, hCq, hclq, hcap⟩ := clsAt_own0 HO3.out (by simp)
            subst eq
            have hc0 := hclq 0 (by simp)
            rw [show 0 + 0 * 3 = 0 from rfl] at hc0
            have hc3 : t.length + 1 ≤ c3 := by simpa using hcap
            have C := Lib.hid (lay11_any w.heap.size bi ao2 n cap2 H c t q 0 c3 k w2 HI2.out.hq hn1 HI2.out.hp hc0 hc3)
            have HQ := Lib.hid (And.intro hBq (And.intro hqw (And.intro hCq hclq)))
            clear hBq hqw hCq hclq hcap hc0
            go_wp2_with fail
            with_reducible refine (C.out).mono ?_
            rintro e w3 ⟨rfl, ao4, c4, K4, hpm, hpp, hq4, ht4, hw4⟩
            have HI3 := Lib.hid (show Ic w.heap.size w3.heap.size bi ao4 (n + 1) c4 K4 (M.rls (Rs.take (k + 1))) (M.mrg (M.rls (Rs.take (k + 1)))) w3 from by
              rw [HT.out]
              obtain ⟨h1, h2, h3, h4⟩ := HQ.out
              exact HI2.out.snocCons (by rw [HL.out]; omega) (by rw [HL.out]; exact hpm) hpp hq4 ht4 (Nat.le_trans HB.out.size h1) h2 h3 h4 hc3)
            have HB3 := Lib.hid (HB2.out.trans (ht4.toBelow HI2.out.bb (fun q e => (HI2.out.hq.lt e).1) HI2.out.hq.base))
            clear hpm hpp hq4 ht4 hw4 C
            go_wp2_with fail
            go_roundw
            case rel => exact ⟨k + 1, _, _, _, _, by omega, by go_num, HI3, HB3⟩
            case measure => simp [intOf]; omega
        · obtain rfl : k = Rs.length := by omega
          have HI3 := Lib.hid (show It11 w.heap.size wr.heap.size bi (M.mrg (M.rls Rs)) wr from by
            have := HI.out
            rw [List.take_length] at this
            exact ⟨_, _, _, _, _, this⟩)
          clear HI
          go_wp2_with fail
          go_ret2
          exact ⟨HB.out, by rw [if_pos HM.out]; exact ⟨bi, rfl, HI3.out⟩⟩

end Go.Proofs.Ythidmgnfdikppaa
