/- What else is needed of YtnhljlmelbiljaaGreatZM. -/
import Derived.Test.YtnhljlmelbiljaaGreatZM
namespace Go.Proofs.YtnhljlmelbiljaaGreat
set_option linter.unusedVariables false
set_option linter.unusedSimpArgs false
open Go Go.RowKit
attribute [local go_sem ↓] run_index_S
attribute [local go_sem] S_append S_extract

end Go.Proofs.YtnhljlmelbiljaaGreat

namespace Go.Proofs.YtnhljlmelbiljaaGreat
set_option linter.unusedVariables false
set_option linter.unusedSimpArgs false
open Go Go.RowKit
attribute [local go_sem ↓] run_index_S
attribute [local go_sem] S_append S_extract

end Go.Proofs.YtnhljlmelbiljaaGreat

namespace Go.Proofs.YtnhljlmelbiljaaGreat
set_option linter.unusedVariables false
set_option linter.unusedSimpArgs false
open Go Go.RowKit
attribute [local go_sem ↓] run_index_S
attribute [local go_sem] S_append S_extract

theorem ownP_parts15 {w : World} {B sz n : Nat} {e : TypeId} {v : Value} {xs : List Value} (h : w.ownsRow B e sz v n xs) : ∃ ao c, v = .slice ao n c := by
  rcases h.2 with ⟨rfl, rfl⟩ | ⟨g, cap, cur, rfl, _⟩
  · exact ⟨_, _, rfl⟩
  · exact ⟨_, _, rfl⟩
/-- append at a step of a region that draws its order. -/
theorem step_append_own15 {P : Program} {w : World} {ops : Array Oper} {o : Oper} {a : Act} {K : Act → World → Prop} {Q : Exit → Act → World → Prop} {E : Prop} (hgd : o.guard = none) (s x : Operand) (t : TypeId)
    (ho : o.op = .call { callee := .builtin .append, args := #[s, x], argTypes := #[t, t] })
    (base : Nat) (e : TypeId) (i : TypeInfo) (z : Value) (size bytes : Nat) (ht : P.underlying t = some (.slice e)) (hi : P.info? e = some i) (hz : i.zero = some z)
    (hsize : i.size = size) (hby : i.bytes = bytes) (hzs : z.cells.size = size) (hsz : 0 < size)
    (v : Value) (n : Nat) (xs : List Value) (hs : a.eval s = v) (hown : w.ownsRow base e size v n xs)
    (ad : Addr) (m c : Nat) (news : List Value) (hx : a.eval x = .slice (some ad) m c) (hl : news.length = m * size) (hnews : ∀ j u, news[j]? = some u → w.cell? (ad.add j) = some u) (h1 : ∀ u ∈ news, u.oneCell' = true)
    (h63 : n + m ≤ maxLen) (hbytes : (n + m) * bytes ≤ 140737488355328) (hbase : base ≤ w.heap.size)
    (h : ∀ v' w', w'.ownsRow base e size v' (n + m) (xs ++ news) → w.grownBy w' v.ownBlock → (v' = .slice none 0 0 ↔ v = .slice none 0 0 ∧ m = 0) → K (a.put o.dst v') w') :
    if Region.wanted o (yielded ops a.tmps) = true then Oper.wp P o a w K Q else E := by
  have hw : Region.wanted o (yielded ops a.tmps) = true := by simp [Region.wanted, hgd]
  rw [if_pos hw]
  exact wp_append_own w s x t ho base e i z size bytes ht hi hz hsize hby hzs hsz v n xs hs hown ad m c news hx hl hnews h1 h63 hbytes hbase h
theorem one_cell15 (w : World) (v : Value) (T : TypeId) : ∀ j u, [v][j]? = some u → (w.alloc (.cells #[v] T)).cell? ((⟨w.heap.size, 0, none⟩ : Addr).add j) = some u := fun j u hu => by
  cases j with
  | zero =>
    injection hu with hu
    subst hu
    exact (rowIn_new #[v] T w).cell 0
  | succ j => cases hu

def slLen15 : Value → Nat
  | .slice _ n _ => n
  | _ => 0
set_option maxHeartbeats 4000000 in
set_option maxRecDepth 100000 in
theorem of15_any (B q o : Nat) (ao : Option Addr) (cap : Nat) (L : List M.Cl) (w : World) (h : OfIn B q o ao L w) (hcap : L.length ≤ cap) (hst : M.Stt L) (hok : ∀ c, c ∈ L → ClOk c ∧ M.mayC c = true) (hn : L.length ≤ 50000) (hB : B ≤ w.heap.size) :
    Calls Tryz.prog 43 #[.slice ao L.length cap] w (OfQ B q L w) := by
  obtain ⟨i0, z0, hi0, hz0, hz1, hz2, hz3⟩ := infoPg_parts
  have CN := Lib.hid (new15_any w)
  have HI := Lib.hid h
  have HST := Lib.hid hst
  have HOK := Lib.hid hok
  have HBw := Lib.hid hB
  clear h hst hok hB
  go_enter Tryz.func43, Tryz.ntmps43
  go_wp2_with fail
  refine (CN.out).mono ?_
  rintro e w1 ⟨rfl, hw1⟩
  have HR := Lib.hid (show RowIn #[.slice none 0 0, .int .i64 0, .bool true] 105 w1 w.heap.size from by rw [hw1]; exact rowIn_new _ _ _)
  have HB := Lib.hid (show Below w.heap.size w w1 from by rw [hw1]; exact (Below.refl _ _).alloc (Nat.le_refl _) _)
  clear hw1 CN
  obtain ⟨b, hb⟩ : ∃ x, x = w.heap.size := ⟨_, rfl⟩
  rw [← hb] at HR ⊢
  have r1 : w1.cell? ⟨b, 1, none⟩ = some (.int .i64 0) := HR.out.cell 1
  have f1 := HR.out.free 1
  have HS := Lib.hid (show OfS q o L w (w1.setCell ⟨b, 1, none⟩ (.int .i64 L.length)) 0 [] none 0 from ⟨by simp [M.flat], (fun p hp => by cases hp), World.ownsRow_nil _ _ _ _, by rw [← hb]; exact HR.out.set 1 _, HB.out.setCell (by rw [← hb]; exact Nat.le_refl _) _⟩)
  have HBB := Lib.hid hb
  clear hb
  go_wp2_with fail
  go_loopw [0] (fun v0 wr => ∃ (d m : Nat) (Ps : List M.Pg) (ax : Option Addr) (cx : Nat) (pa : Option Addr) (pc : Nat), m ≤ L.length ∧ Ps.length ≤ d ∧ m ≤ cx ∧ v0 = .slice ax m cx ∧ Hid (d + m = L.length) ∧ Hid (0 < m → ax = some ⟨q, o + d * 3, none⟩) ∧ Hid (OfS q o L w wr d Ps pa pc)) (fun v _ => slLen15 v)
  case atStart => exact ⟨0, L.length, [], ao, cap, none, 0, Nat.le_refl _, Nat.le_refl _, hcap, rfl, Lib.hid (by omega), Lib.hid (fun h => by rw [(HI.out h).1]; simp), HS⟩
  case round =>
    clear HS r1 f1 HB HR
    obtain ⟨d, m, Ps, ax, cx, pa, pc, hm, hPd, hcx, rfl, HD, HAX, HS⟩ := hrel
    by_cases hlt : 0 < m
    · have d1 : decide (((m : Nat) : Int) > 0) = true := by simp; omega
      have d2 : decide (0 < m) = true := by simp; omega
      have d3 : (0 : Int) < (m : Int) := by omega
      obtain rfl := HAX.out hlt
      obtain ⟨h1, h2, ⟨C0, h3⟩, h4⟩ := HI.out (by omega)
      have HCL := Lib.hid h4
      have HQ := Lib.hid h3.lt
      clear h1 h2 h3 h4 HAX
      obtain ⟨n, hnn⟩ : ∃ n, n = min 32 m := ⟨_, rfl⟩
      have hmin : min (32 : Int) (m : Int) = (n : Int) := by omega
      have hn0 : 0 < n := by omega
      have hn32 : n ≤ 32 := by omega
      have hnm : n ≤ m := by omega
      have hncx : n ≤ cx := by omega
      have hPl : Ps.length ≤ 50000 := by have := HD.out; omega
      clear hnn
      have hr0 := HS.out.row
      rw [← HBB.out] at hr0
      have c0 : wr.cell? ⟨b, 0, none⟩ = some (.slice pa Ps.length pc) := hr0.cell 0
      have cc0 : ∀ o, (wr.alloc o).cell? ⟨b, 0, none⟩ = some (.slice pa Ps.length pc) := fun o => (hr0.more o).cell 0
      have HR0 := Lib.hid hr0
      clear hr0
      have HO := Lib.hid HS.out.own
      have HSZ := Lib.hid HS.out.bel.size
      go_wp2_with fail
      go_region_law (first
        | ((refine step_append_own15 (by rfl) _ _ 103 (by rfl) w.heap.size 109 i0 z0 1 24 Tryz.underlying103 hi0 hz0 hz1 hz2 hz3 (by decide) (.slice pa Ps.length pc) Ps.length (pgsV Ps) (by rfl) ((show wr.drew.ownsRow w.heap.size 109 1 (.slice pa Ps.length pc) Ps.length (pgsV Ps) from HO.out).alloc _) ⟨wr.heap.size, 0, none⟩ 1 1 [.slice (some ⟨q, o + d * 3, none⟩) n n] (by rfl) rfl (one_cell15 wr.drew _ _) (fun x hx => by simp at hx; rw [hx]; rfl) (by unfold maxLen; omega) (by omega) (by show w.heap.size ≤ (wr.drew.alloc _).heap.size; rw [szA]; exact Nat.le_succ_of_le HSZ.out) ?_; intro v' w3 hown' hgrow3 hnil3; obtain ⟨so, sc, rfl⟩ := ownP_parts15 hown'; have hb3 := ((show RowIn _ _ wr.drew b from HR0.out).more _).grownP hgrow3 (fun x hx => row_apart HR0.out HO.out (by decide) x hx); have c3 : w3.cell? ⟨b, 0, none⟩ = some (.slice pa Ps.length pc) := hb3.cell 0; have f3 := hb3.free 0)))
      all_goals
        have HW := Lib.hid (HS.out.step (sc := sc) (sa := so) (n := n) HCL.out HQ.out hn0 hn32 (by have := HD.out; omega) (((Below.refl wr.heap.size wr).drew).alloc (Nat.le_refl _) _) hgrow3 hown')
        rw [← HBB.out] at HW
        clear hown' hgrow3 hnil3 hb3
        by_cases hcn : cx = n
        · go_wp2_with fail
          go_roundw
          case rel => exact ⟨d + n, m - n, _, _, 0, so, sc, by omega, by simp; omega, by omega, rfl, Lib.hid (by have := HD.out; omega), Lib.hid (fun h => by omega), HW⟩
          case measure => simp [slLen15]; omega
        · go_wp2_with fail
          go_roundw
          case rel => exact ⟨d + n, m - n, _, _, cx - n, so, sc, by omega, by simp; omega, by omega, rfl, Lib.hid (by have := HD.out; omega), Lib.hid (fun h => by rw [Nat.add_mul, Nat.add_assoc]), HW⟩
          case measure => simp [slLen15]; omega
    · obtain rfl : m = 0 := by omega
      have HE := Lib.hid HD.out
      go_wp2_with fail
      go_ret
      have hf := HS.out.flat
      rw [show d = L.length from HD.out, List.take_length] at hf
      have hbb := HBB.out
      refine ⟨b, pa, pc, Ps, rfl, ⟨by rw [hbb]; exact HS.out.row, ⟨ownP_mono HS.out.own HBw.out, fun p hp => (HS.out.each p hp).2.2.2.2.below HS.out.bel⟩, hf, HST.out, fun p hp => ?_, fun p hp => ?_, fun i j hi hj hij hne => absurd (HS.out.each _ (M.getD_memP hi)).2.1 hne, by rw [hbb]; exact HBw.out, hn, HOK.out⟩, fun p hp => by have := (HS.out.each p hp).2.2.2.1; omega, fun k hk => ?_, fun k hk => ?_, HS.out.bel⟩
      · obtain ⟨e1, e2, e3, e4, e5⟩ := HS.out.each p hp
        have hL : 0 < L.length := by
          rw [← hf]
          exact List.length_pos_of_mem (M.flat_mem hp (M.getD_memC (j := 0) e3))
        obtain ⟨h1, h2, ⟨C0, h3⟩, h4⟩ := HI.out hL
        rw [← e1] at h2 h3
        exact ⟨h2, ⟨C0, h3.below HS.out.bel⟩, .inl e2⟩
      · have := HS.out.each p hp
        omega
      · rcases hk with rfl | ⟨x, rfl⟩ | ⟨p, hp, hp2, _⟩
        · rw [hbb]; exact Nat.le_refl _
        · exact (HS.out.own.lt k rfl).1
        · exact absurd (HS.out.each p hp).2.1 hp2
      · rcases hk with rfl | ⟨x, rfl⟩ | ⟨p, hp, hp2⟩
        · exact .inr (by rw [hbb]; exact Nat.le_refl _)
        · exact .inr (HS.out.own.lt k rfl).1
        · exact .inl (by rw [← hp2]; exact (HS.out.each p hp).1)

end Go.Proofs.YtnhljlmelbiljaaGreat

namespace Go.Proofs.YtnhljlmelbiljaaGreat
set_option linter.unusedVariables false
set_option linter.unusedSimpArgs false
open Go Go.RowKit
attribute [local go_sem ↓] run_index_S
attribute [local go_sem] S_append S_extract

theorem ofIn_own {B : Nat} {ao : Option Addr} {cap : Nat} {L : List M.Cl} {w : World} (h : w.ownsRow B 38 3 (.slice ao L.length cap) L.length (cls L)) : ∃ q, OfIn B q 0 ao L w ∧ L.length ≤ cap ∧ (0 < L.length → (Value.slice ao L.length cap).ownBlock = some q) := by
  rcases Nat.eq_zero_or_pos L.length with e | e
  · exact ⟨0, fun k => absurd k (by omega), by omega, fun k => absurd k (by omega)⟩
  · obtain ⟨g, c, e1, _, _⟩ := own_slice10 h (by omega)
    obtain ⟨rfl, rfl⟩ : ao = some ⟨g, 0, none⟩ ∧ cap = c := by injection e1 with a b c; exact ⟨a, c⟩
    have h' : w.ownsRow B 38 3 (pgV ⟨L, g, 0, cap⟩) L.length (cls L) := h
    obtain ⟨k1, k2, k3, k4⟩ := pgOwn_row (p := ⟨L, g, 0, cap⟩) h' e
    exact ⟨g, fun _ => ⟨rfl, k1, k3, fun j hj => pgCl_own (p := ⟨L, g, 0, cap⟩) h' rfl j hj⟩, k4, fun _ => rfl⟩
end Go.Proofs.YtnhljlmelbiljaaGreat

namespace Go.Proofs.YtnhljlmelbiljaaGreat
set_option linter.unusedVariables false
set_option linter.unusedSimpArgs false
open Go Go.RowKit
attribute [local go_sem ↓] run_index_S
attribute [local go_sem] S_append S_extract

def M.cutN (L : List M.Cl) (key : List UInt8) : Nat := (L.filter (M.below key)).length
theorem M.cut_lists (f : M.Cl → Bool) : ∀ {L : List M.Cl}, (∀ i j, i ≤ j → j < L.length → f (L.getD j M.cl0) = true → f (L.getD i M.cl0) = true) → L.take (L.filter f).length = L.filter f ∧ L.drop (L.filter f).length = L.filter (fun c => !f c)
  | [], _ => by simp
  | x :: t, h => by
    have ih := M.cut_lists f (L := t) (fun i j hij hj hf => by
      have := h (i + 1) (j + 1) (by omega) (by simp; omega) (by simpa using hf)
      simpa using this)
    cases hx : f x with
    | true =>
      rw [List.filter_cons_of_pos hx, List.filter_cons_of_neg (by simp [hx])]
      simp only [List.length_cons, List.take_succ_cons, List.drop_succ_cons]
      exact ⟨by rw [ih.1], ih.2⟩
    | false =>
      have h0 : t.filter f = [] := by
        rw [List.filter_eq_nil_iff]
        intro y hy hfy
        obtain ⟨j, hj, e⟩ := List.getElem_of_mem hy
        have := h 0 (j + 1) (Nat.zero_le _) (by simp; omega) (by simp [List.getD, hj, e, hfy])
        simp at this
        rw [hx] at this
        cases this
      have h1 : (x :: t).filter f = [] := by rw [List.filter_cons_of_neg (by simp [hx]), h0]
      rw [h1]
      refine ⟨rfl, ?_⟩
      show x :: t = _
      symm
      rw [List.filter_eq_self]
      intro y hy
      rcases List.mem_cons.1 hy with rfl | hy
      · simp [hx]
      · cases q : f y with
        | false => rfl
        | true => have := List.filter_eq_nil_iff.1 h0 y hy; exact absurd q this
theorem M.below_mono {L : List M.Cl} (hs : M.Stt L) (key : List UInt8) : ∀ i j, i ≤ j → j < L.length → M.below key (L.getD j M.cl0) = true → M.below key (L.getD i M.cl0) = true := fun i j hij hj hf => by
  rcases Nat.lt_or_ge i j with q | q
  · rcases M.ahead_iff.1 (M.strict_get hs q hj) with k | ⟨k, _⟩
    · exact M.less_trans _ _ _ k hf
    · unfold M.below; rw [k]; exact hf
  · obtain rfl : i = j := by omega
    exact hf
theorem M.cut_take {L : List M.Cl} (hs : M.Stt L) (key : List UInt8) : L.take (M.cutN L key) = L.filter (M.below key) ∧ L.drop (M.cutN L key) = L.filter (fun c => !M.below key c) := M.cut_lists _ (M.below_mono hs key)
set_option maxHeartbeats 4000000 in
set_option maxRecDepth 100000 in
theorem cutF15_any (ao : Option Addr) (cap g lb kb : Nat) (L : List M.Cl) (key : List UInt8) (i : Nat) (hi : i < L.length) (w : World) (h : CutB ao cap g lb kb L key w) :
    Calls Tryz.prog 42 #[.int .i64 i, .pointer (some ⟨lb, 0, none⟩), .pointer (some ⟨kb, 0, none⟩)] w fun e w' => e = .returned (.bool (!M.below key (L.getD i M.cl0))) ∧ Below w.heap.size w w' := by
  obtain ⟨x0, x1, x2⟩ := h.c i hi
  have hii : (i : Int) < (L.length : Int) := by omega
  obtain rfl := h.at_ (by omega)
  unfold M.below
  generalize L.getD i M.cl0 = d at *
  have z0 := h.l.cell 0
  have y0 := h.k.cell 0
  have g0 := fun d os => cell_regrown x0 d os
  have g3 := fun d os => cell_regrown y0 d os
  have g6 := fun d os => cell_regrown z0 d os
  clear x0 x1 x2 y0 z0 h
  go_enter Tryz.func42, Tryz.ntmps42
  go_wp2_with fail
  refine wp_region_quiet_below (by kernel_rfl) (by kernel_rfl) ?_
  repeat (any_goals (first | go_big_quiet_step (fail) | quiet_step (fail)))
  refine wpQuiet_nil ?_
  intro _ hw1
  obtain ⟨⟨d1, d1o⟩, hw1⟩ := hw1
  subst hw1
  have HB := Lib.hid (below_regrown w d1 d1o)
  go_wp2_with fail
  go_ret
  exact ⟨rfl, HB.out⟩
set_option maxHeartbeats 4000000 in
set_option maxRecDepth 100000 in
theorem cutS15_any (ao : Option Addr) (cap g lb kb : Nat) (L : List M.Cl) (key : List UInt8) (hs : M.Stt L) (hl : L.length ≤ 100000) (w : World) (h : CutB ao cap g lb kb L key w) :
    Calls Tryz.prog 41 #[.int .i64 L.length, .func (.func 42) #[] #[.pointer (some ⟨lb, 0, none⟩), .pointer (some ⟨kb, 0, none⟩)]] w fun e w' => e = .returned (.int .i64 (M.cutN L key : Nat)) ∧ Below w.heap.size w w' := by
  have HT := Lib.hid h
  have HM := Lib.hid (M.below_mono hs key)
  clear h
  go_enter Tryz.func41, Tryz.ntmps41
  go_wp2_with fail
  go_loopw [5, 6] (fun vi vj wr => ∃ i j : Nat, i ≤ j ∧ j ≤ L.length ∧ vi = .int .i64 i ∧ vj = .int .i64 j ∧ Hid (∀ k, k < i → M.below key (L.getD k M.cl0) = true) ∧ Hid (∀ k, j ≤ k → k < L.length → M.below key (L.getD k M.cl0) = false) ∧ Hid (Below w.heap.size w wr)) (fun vi vj _ => (intOf vj).toNat - (intOf vi).toNat)
  case atStart => exact ⟨0, L.length, Nat.zero_le _, Nat.le_refl _, rfl, rfl, Lib.hid (fun k hk => by omega), Lib.hid (fun k h1 h2 => by omega), Lib.hid (Below.refl _ _)⟩
  case round =>
    obtain ⟨i, j, hij, hj, rfl, rfl, H1, H2, HBr⟩ := hrel
    by_cases hlt : i < j
    · have d1 : decide ((i : Int) < (j : Int)) = true := by simp; omega
      have d2 : decide (i < j) = true := by simp; omega
      obtain ⟨h, hh⟩ : ∃ h, h = (i + j) / 2 := ⟨_, rfl⟩
      have h1 : i ≤ h := by omega
      have h2 : h < j := by omega
      have hc : ((i : Int) + (j : Int)) / 2 = (h : Int) := by omega
      have CB := Lib.hid (cutF15_any ao cap g lb kb L key h (by omega) wr (HT.out.below HBr.out))
      clear hh
      have HQ := Lib.hid (show (M.below key (L.getD h M.cl0) = true → ∀ k, k < h + 1 → M.below key (L.getD k M.cl0) = true) ∧ (M.below key (L.getD h M.cl0) = false → ∀ k, h ≤ k → k < L.length → M.below key (L.getD k M.cl0) = false) from
        ⟨fun hq k hk => HM.out k h (by omega) (by omega) hq, fun hq k hk hkn => by
          cases q : M.below key (L.getD k M.cl0) with
          | false => rfl
          | true => have := HM.out h k hk hkn q; rw [hq] at this; cases this⟩)
      generalize M.below key (L.getD h M.cl0) = ab at *
      go_wp2_with fail
      with_reducible refine (CB.out).mono ?_
      rintro e w1 ⟨rfl, hb⟩
      have HB1 := Lib.hid (below_step HBr.out hb)
      clear hb CB hc
      cases ab with
      | false =>
        go_wp2_with fail
        go_roundw
        case rel => exact ⟨i, h, h1, by omega, rfl, rfl, H1, Lib.hid (HQ.out.2 trivial), HB1⟩
        case measure => simp [intOf]; omega
      | true =>
        go_wp2_with fail
        go_roundw
        case rel => exact ⟨h + 1, j, by omega, hj, by go_num, rfl, Lib.hid (HQ.out.1 trivial), H2, HB1⟩
        case measure => simp [intOf]; omega
    · obtain rfl : i = j := by omega
      have d1 : decide ((i : Int) < (i : Int)) = false := by simp
      have d2 : decide (i < i) = false := by simp
      go_wp2_with fail
      go_ret
      exact ⟨by rw [M.cutN, M.count_pre _ M.cl0 hj H1.out H2.out]; rfl, HBr.out⟩

end Go.Proofs.YtnhljlmelbiljaaGreat

namespace Go.Proofs.YtnhljlmelbiljaaGreat
set_option linter.unusedVariables false
set_option linter.unusedSimpArgs false
open Go Go.RowKit
attribute [local go_sem ↓] run_index_S
attribute [local go_sem] S_append S_extract

theorem M.strict_filter {L : List M.Cl} (h : M.Stt L) (f : M.Cl → Bool) : M.Stt (L.filter f) := List.Pairwise.sublist List.filter_sublist h
def CutR (L : List M.Cl) (key : List UInt8) (w : World) (e : Ending) (w' : World) : Prop :=
  ∃ b1 pa1 pc1 P1 b2 pa2 pc2 P2, e = .returned (.tuple #[.pointer (some ⟨b1, 0, none⟩), .pointer (some ⟨b2, 0, none⟩)]) ∧ MemAt w.heap.size b1 pa1 pc1 P1 (L.filter (M.below key)) w' ∧ MemAt w.heap.size b2 pa2 pc2 P2 (L.filter (fun c => !M.below key c)) w' ∧ SmP P1 ∧ SmP P2 ∧ (∀ k, WrS b1 pa1 P1 k → ¬ FtS b2 pa2 P2 k) ∧ (∀ k, WrS b2 pa2 P2 k → ¬ FtS b1 pa1 P1 k) ∧ Below w.heap.size w w'
set_option maxHeartbeats 4000000 in
set_option maxRecDepth 100000 in
theorem cut15_any (B b : Nat) (pa : Option Addr) (pc : Nat) (Ps : List M.Pg) (L : List M.Cl) (key : List UInt8) (w : World) (h : MemAt B b pa pc Ps L w) :
    Calls Tryz.prog 22 #[.pointer (some ⟨b, 0, none⟩), .string (S key)] w (CutR L key w) := by
  have hal := (Below.refl w.heap.size w).alloc (Nat.le_refl _) (.cells #[.string (S key)] 9)
  have HB := Lib.hid hal
  have HK := Lib.hid (rowIn_new #[.string (S key)] 9 w)
  have CA := Lib.hid (range15_any B b pa pc Ps L [] [] _ (h.below hal) (by simp) (by simp))
  rw [M.range_nil] at CA
  unfold RangeR10 at CA
  have hnl := h.nL
  have HST := Lib.hid h.st
  have HOK := Lib.hid h.okc
  have hmf : ∀ (fn : Fn) (first cap : Array Value) (w : World), (Instr.makeFunc fn first cap).run Tryz.prog w = .ok (.func fn first cap) w := fun _ _ _ _ => rfl
  clear h hal
  go_enter Tryz.func22, Tryz.ntmps22
  go_wp2_with fail
  refine (CA.out).mono ?_
  rintro e w1 ⟨ao, cap, rfl, hown, hbel⟩
  replace HB := Lib.hid (HB.out.trans (hbel.mono HB.out.size))
  replace HK := carry hbel HK
  have HO := Lib.hid (show w1.ownsRow w.heap.size 38 3 (.slice ao L.length cap) L.length (cls L) from ownP_mono hown (by rw [szA]; exact Nat.le_succ _))
  clear hown hbel CA
  obtain ⟨kb, hkb⟩ : ∃ x, x = w.heap.size := ⟨_, rfl⟩
  rw [← hkb] at HK ⊢
  clear hkb
  go_wp2_with fail
  obtain ⟨q, hq1, hq2, hqw⟩ : ∃ q, OfIn w.heap.size q 0 ao L w1 ∧ L.length ≤ cap ∧ q ≤ w1.heap.size := by
    obtain ⟨q, a, b, c⟩ := ofIn_own HO.out
    rcases Nat.eq_zero_or_pos L.length with e | e
    · exact ⟨0, fun k => absurd k (by omega), b, Nat.zero_le _⟩
    · obtain ⟨_, _, ⟨C, hC⟩, _⟩ := a e
      exact ⟨q, a, b, Nat.le_of_lt hC.lt⟩
  have HAO := Lib.hid (show (ao = none ∧ cap = 0) ∨ ∃ g, ao = some ⟨g, 0, none⟩ ∧ (0 < L.length → g = q) from by
    rcases HO.out.2 with ⟨e, _⟩ | ⟨g, c', cur, e, _⟩
    · injection e with e1 e2 e3
      exact .inl ⟨e1, e3⟩
    · injection e with e1 e2 e3
      refine .inr ⟨g, e1, fun k => ?_⟩
      have := (hq1 k).1
      rw [e1] at this
      injection this with this
      injection this with this)
  have HB2 := carryA (w := w1) (.cells #[.slice ao L.length cap] 22) HB
  have HLB := Lib.hid (rowIn_new #[.slice ao L.length cap] 22 w1)
  have HIN := Lib.hid (hq1.below ((Below.refl w1.heap.size w1).alloc (Nat.le_refl _) (.cells #[.slice ao L.length cap] 22)))
  have HKB := carryA (w := w1) (.cells #[.slice ao L.length cap] 22) HK
  have CS := Lib.hid (cutS15_any ao cap q w1.heap.size kb L key HST.out (by omega) (w1.alloc (.cells #[.slice ao L.length cap] 22)) ⟨HLB.out, HKB.out, fun k => (HIN.out k).1, fun j hj => by
    have := (HIN.out (by omega)).2.2.2 j hj
    rw [Nat.zero_add] at this
    exact this⟩)
  obtain ⟨W1, hW1⟩ : ∃ W, W = w1.alloc (.cells #[.slice ao L.length cap] 22) := ⟨_, rfl⟩
  obtain ⟨lb, hlb⟩ : ∃ x, x = w1.heap.size := ⟨_, rfl⟩
  rw [← hW1] at HLB HIN CS HB2 ⊢
  rw [← hlb] at HLB CS ⊢
  rw [← hlb] at hqw
  clear hW1 hlb HK HB hq1 HKB
  refine (CS.out).mono ?_
  rintro e w2 ⟨rfl, hb⟩
  replace HB2 := carry hb HB2
  replace HLB := carry hb HLB
  replace HIN := Lib.hid (HIN.out.below hb)
  have HQ := Lib.hid (Nat.lt_of_le_of_lt hqw HLB.out.lt)
  clear hb CS HO hqw
  have e1 : (L.filter (M.below key)).length = M.cutN L key := rfl
  obtain ⟨ct1, ct2⟩ := M.cut_take HST.out key
  have hnl2 : M.cutN L key ≤ L.length := List.length_filter_le _ _
  have CO1 := Lib.hid (fun W (hW : Below w.heap.size w W) (hI : OfIn w.heap.size q 0 ao L W) => of15_any w.heap.size q 0 ao cap (L.filter (M.below key)) W (by rw [← ct1]; exact hI.take _) (by rw [e1]; omega) (M.strict_filter HST.out _) (fun c hc => HOK.out c ((List.mem_filter.1 hc).1)) (by rw [e1]; omega) hW.size)
  have CO2 := Lib.hid (fun W ao2 (ha : 0 < L.length - M.cutN L key → ao2 = some ⟨q, 0 + M.cutN L key * 3, none⟩) (hW : Below w.heap.size w W) (hI : OfIn w.heap.size q 0 ao L W) => of15_any w.heap.size q (0 + M.cutN L key * 3) ao2 (cap - M.cutN L key) (L.filter (fun c => !M.below key c)) W (by rw [← ct2]; exact hI.drop _ ha) (by rw [← ct2, List.length_drop]; omega) (M.strict_filter HST.out _) (fun c hc => HOK.out c ((List.mem_filter.1 hc).1)) (by rw [← ct2, List.length_drop]; omega) hW.size)
  have HE2 : (L.filter (fun c => !M.below key c)).length = L.length - M.cutN L key := by rw [← ct2, List.length_drop]
  rw [HE2] at CO2
  rw [e1] at CO1
  have HCR : Hid (CutR L key w = fun e w' => ∃ b1 pa1 pc1 P1 b2 pa2 pc2 P2, e = .returned (.tuple #[.pointer (some ⟨b1, 0, none⟩), .pointer (some ⟨b2, 0, none⟩)]) ∧ MemAt w.heap.size b1 pa1 pc1 P1 (L.filter (M.below key)) w' ∧ MemAt w.heap.size b2 pa2 pc2 P2 (L.filter (fun c => !M.below key c)) w' ∧ SmP P1 ∧ SmP P2 ∧ (∀ k, WrS b1 pa1 P1 k → ¬ FtS b2 pa2 P2 k) ∧ (∀ k, WrS b2 pa2 P2 k → ¬ FtS b1 pa1 P1 k) ∧ Below w.heap.size w w') := Lib.hid rfl
  unfold OfQ at CO1 CO2
  clear ct1 ct2 e1 HE2 HST HOK
  generalize L.filter (M.below key) = LA at *
  generalize L.filter (fun c => !M.below key c) = LB at *
  generalize M.cutN L key = n at *
  have z0 : w2.cell? ⟨lb, 0, none⟩ = some (.slice ao L.length cap) := HLB.out.cell 0
  have HCO := Lib.hid (And.intro CO1.out CO2.out)
  clear CO1 CO2
  by_cases hcn : cap = n
  · obtain rfl : cap = L.length := by omega
    obtain rfl : n = L.length := by omega
    have CO1 := Lib.hid (fun W hW hI => HCO.out.1 W hW hI)
    have CO2 := Lib.hid (fun W hW hI => HCO.out.2 W ao (fun k => absurd k (by omega)) hW hI)
    rw [Nat.sub_self] at CO2
    clear HCO hnl2 hq2 hcn
    have CA := Lib.hid (CO1.out w2.drew HB2.out.drew (HIN.out.below (Below.refl _ _).drew))
    go_wp2_with fail
    go_region_held3 (fun W => W.cell? ⟨lb, 0, none⟩ = some (.slice ao L.length L.length)) (go_keep) (first
      | (go_at_call 43; (with_reducible refine (CA.out).mono ?_); rintro e w3 ⟨b1, pa1, pc1, P1, rfl, hm1, hs1, hw1, hf1, hb1⟩; have hbx : Below w2.heap.size w2 w3 := ((Below.refl _ w2).drew).trans hb1; have HM1 := Lib.hid (And.intro hm1 (And.intro hs1 (And.intro hf1 (HB2.out.trans (hbx.mono HB2.out.size))))); have HW1 := Lib.hid hw1; have z3 : w3.cell? ⟨lb, 0, none⟩ = some (.slice ao L.length L.length) := (HLB.out.below hbx).cell 0; have CB := Lib.hid (And.intro (CO2.out w3 HM1.out.2.2.2 (HIN.out.below hbx)) (CO2.out w3.drew HM1.out.2.2.2.drew (HIN.out.below hbx.drew))); have HLB3 := Lib.hid (HLB.out.below hbx); clear hm1 hs1 hw1 hf1 hb1 hbx)
      | (go_at_call 43; (with_reducible refine (CB.out.1).mono ?_); rintro e w4 ⟨b2, pa2, pc2, P2, rfl, hm2, hs2, hw2, hf2, hb2⟩; have HM2 := Lib.hid (And.intro hm2 (And.intro hs2 (And.intro hw2 (And.intro hf2 hb2)))); have z4 : w4.cell? ⟨lb, 0, none⟩ = some (.slice ao L.length L.length) := (HLB3.out.below HM2.out.2.2.2.2).cell 0; clear hm2 hs2 hw2 hf2 hb2)
      | (go_at_call 43; (with_reducible refine (CB.out.2).mono ?_); rintro e w4 ⟨b2, pa2, pc2, P2, rfl, hm2, hs2, hw2, hf2, hb2⟩; have HM2 := Lib.hid (And.intro hm2 (And.intro hs2 (And.intro hw2 (And.intro hf2 (((Below.refl _ w3).drew).trans hb2))))); have z4 : w4.cell? ⟨lb, 0, none⟩ = some (.slice ao L.length L.length) := (HLB3.out.below HM2.out.2.2.2.2).cell 0; clear hm2 hs2 hw2 hf2 hb2))
    all_goals
      go_wp2_with fail
      go_ret2
      obtain ⟨m1, s1, f1, bl1⟩ := HM1.out
      obtain ⟨m2, s2, wr2, f2, bl2⟩ := HM2.out
      have hqq := HQ.out
      show CutR L key w _ _
      rw [HCR.out]
      exact ⟨b1, pa1, pc1, P1, b2, pa2, pc2, P2, rfl, m1.below bl2, m2, s1, s2, fun k h1 h2 => by
        have k1 : w2.heap.size ≤ k := HW1.out k h1
        have k2 := (m1.wr h1).2
        rcases f2 k h2 with e | e
        · omega
        · omega, fun k h1 h2 => by
        have k1 := wr2 k h1
        have k2 := (m1.ft h2).2
        omega, bl1.trans (bl2.mono bl1.size)⟩
  · rcases HAO.out with ⟨_, e⟩ | ⟨g, rfl, hg⟩
    · exact absurd (show cap = n by omega) hcn
    have CO1 := Lib.hid (fun W hW hI => HCO.out.1 W hW hI)
    have CO2 := Lib.hid (fun W hW hI => HCO.out.2 W (some ⟨g, n * 3, none⟩) (fun k => by rw [hg (by omega), Nat.zero_add]) hW hI)
    have hnc : n ≤ cap := by omega
    clear HCO hg
    have CA := Lib.hid (CO1.out w2.drew HB2.out.drew (HIN.out.below (Below.refl _ _).drew))
    go_wp2_with fail
    go_region_held3 (fun W => W.cell? ⟨lb, 0, none⟩ = some (.slice (some ⟨g, 0, none⟩) L.length cap)) (go_keep) (first
      | (go_at_call 43; (with_reducible refine (CA.out).mono ?_); rintro e w3 ⟨b1, pa1, pc1, P1, rfl, hm1, hs1, hw1, hf1, hb1⟩; have hbx : Below w2.heap.size w2 w3 := ((Below.refl _ w2).drew).trans hb1; have HM1 := Lib.hid (And.intro hm1 (And.intro hs1 (And.intro hf1 (HB2.out.trans (hbx.mono HB2.out.size))))); have HW1 := Lib.hid hw1; have z3 : w3.cell? ⟨lb, 0, none⟩ = some (.slice (some ⟨g, 0, none⟩) L.length cap) := (HLB.out.below hbx).cell 0; have CB := Lib.hid (And.intro (CO2.out w3 HM1.out.2.2.2 (HIN.out.below hbx)) (CO2.out w3.drew HM1.out.2.2.2.drew (HIN.out.below hbx.drew))); have HLB3 := Lib.hid (HLB.out.below hbx); clear hm1 hs1 hw1 hf1 hb1 hbx)
      | (go_at_call 43; (with_reducible refine (CB.out.1).mono ?_); rintro e w4 ⟨b2, pa2, pc2, P2, rfl, hm2, hs2, hw2, hf2, hb2⟩; have HM2 := Lib.hid (And.intro hm2 (And.intro hs2 (And.intro hw2 (And.intro hf2 hb2)))); have z4 : w4.cell? ⟨lb, 0, none⟩ = some (.slice (some ⟨g, 0, none⟩) L.length cap) := (HLB3.out.below HM2.out.2.2.2.2).cell 0; clear hm2 hs2 hw2 hf2 hb2)
      | (go_at_call 43; (with_reducible refine (CB.out.2).mono ?_); rintro e w4 ⟨b2, pa2, pc2, P2, rfl, hm2, hs2, hw2, hf2, hb2⟩; have HM2 := Lib.hid (And.intro hm2 (And.intro hs2 (And.intro hw2 (And.intro hf2 (((Below.refl _ w3).drew).trans hb2))))); have z4 : w4.cell? ⟨lb, 0, none⟩ = some (.slice (some ⟨g, 0, none⟩) L.length cap) := (HLB3.out.below HM2.out.2.2.2.2).cell 0; clear hm2 hs2 hw2 hf2 hb2))
    all_goals
      go_wp2_with fail
      go_ret2
      obtain ⟨m1, s1, f1, bl1⟩ := HM1.out
      obtain ⟨m2, s2, wr2, f2, bl2⟩ := HM2.out
      have hqq := HQ.out
      show CutR L key w _ _
      rw [HCR.out]
      exact ⟨b1, pa1, pc1, P1, b2, pa2, pc2, P2, rfl, m1.below bl2, m2, s1, s2, fun k h1 h2 => by
        have k1 : w2.heap.size ≤ k := HW1.out k h1
        have k2 := (m1.wr h1).2
        rcases f2 k h2 with e | e
        · omega
        · omega, fun k h1 h2 => by
        have k1 := wr2 k h1
        have k2 := (m1.ft h2).2
        omega, bl1.trans (bl2.mono bl1.size)⟩

end Go.Proofs.YtnhljlmelbiljaaGreat

namespace Go.Proofs.YtnhljlmelbiljaaGreat
set_option linter.unusedVariables false
set_option linter.unusedSimpArgs false
open Go Go.RowKit

def CutX (L : List M.Cl) (key : List UInt8) (w : World) (e : Ending) (w' : World) : Prop :=
  ∃ b1 b2, e = .returned (.tuple #[.pointer (some ⟨b1, 0, none⟩), .pointer (some ⟨b2, 0, none⟩)]) ∧ MemX (fun _ => False) w.heap.size b1 (L.filter (M.below key)) w' ∧ MemX (fun _ => False) w.heap.size b2 (L.filter (fun c => !M.below key c)) w' ∧ Below w.heap.size w w'
theorem cutX15 {X : Nat → Prop} {B b : Nat} {L : List M.Cl} {w : World} (key : List UInt8) (h : MemX X B b L w) :
    Calls Tryz.prog 22 #[.pointer (some ⟨b, 0, none⟩), .string (S key)] w (CutX L key w) := by
  obtain ⟨pa, pc, Ps, h1, h2, h3⟩ := h
  refine (cut15_any B b pa pc Ps L key w h1).mono ?_
  rintro e w' ⟨b1, pa1, pc1, P1, b2, pa2, pc2, P2, rfl, m1, m2, s1, s2, _, _, hb⟩
  exact ⟨b1, b2, rfl, ⟨pa1, pc1, P1, m1, s1, fun _ _ h => h⟩, ⟨pa2, pc2, P2, m2, s2, fun _ _ h => h⟩, hb⟩
end Go.Proofs.YtnhljlmelbiljaaGreat

