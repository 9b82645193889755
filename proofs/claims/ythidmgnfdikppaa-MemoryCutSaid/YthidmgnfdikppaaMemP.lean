/- Layer 15: of, by a contract. -/
import Derived.Test.YthidmgnfdikppaaMemO
import Derived.Deep.RegionLaw
namespace Go.Proofs.Ythidmgnfdikppaa
set_option linter.unusedVariables false
set_option linter.unusedSimpArgs false
open Go Go.RowKit
attribute [local go_sem ↓] run_index_S
attribute [local go_sem] S_append S_extract

theorem ownP_parts15 {w : World} {B sz n : Nat} {e : TypeId} {v : Value} {xs : List Value} (h : w.ownsRow B e sz v n xs) : ∃ ao c, v = .slice ao n c := by
  rcases h.2 with ⟨rfl, rfl⟩ | ⟨g, cap, cur, rfl, _⟩
  · exact ⟨_, _, rfl⟩
  · exact ⟨_, _, rfl⟩
/-- append at a step of a region that draws its order. -/
theorem step_append_own15 {P : Program} {w : World} {ops : Array Oper} {o : Oper} {a : Act} {K : Act → World → Prop} {Q : Exit → Act → World → Prop} {E : Prop} (hgd : o.guard = none) (s x : Operand) (t : TypeId)
    (ho : o.op = .call { callee := .builtin .append, args := #[s, x], argTypes := #[t, t] })
    (base : Nat) (e : TypeId) (i : TypeInfo) (z : Value) (size bytes : Nat) (ht : P.underlying t = some (.slice e)) (hi : P.info? e = some i) (hz : i.zero = some z)
    (hsize : i.size = size) (hby : i.bytes = bytes) (hzs : z.cells.size = size) (hsz : 0 < size)
    (v : Value) (n : Nat) (xs : List Value) (hs : a.eval s = v) (hown : w.ownsRow base e size v n xs)
    (ad : Addr) (m c : Nat) (news : List Value) (hx : a.eval x = .slice (some ad) m c) (hl : news.length = m * size) (hnews : ∀ j u, news[j]? = some u → w.cell? (ad.add j) = some u) (h1 : ∀ u ∈ news, u.oneCell' = true)
    (h63 : n + m ≤ maxLen) (hbytes : (n + m) * bytes ≤ 140737488355328) (hbase : base ≤ w.heap.size)
    (h : ∀ v' w', w'.ownsRow base e size v' (n + m) (xs ++ news) → w.grownBy w' v.ownBlock → (v' = .slice none 0 0 ↔ v = .slice none 0 0 ∧ m = 0) → K (a.put o.dst v') w') :
    if Region.wanted o (yielded ops a.tmps) = true then Oper.wp P o a w K Q else E := by
  have hw : Region.wanted o (yielded ops a.tmps) = true := by simp [Region.wanted, hgd]
  rw [if_pos hw]
  exact wp_append_own w s x t ho base e i z size bytes ht hi hz hsize hby hzs hsz v n xs hs hown ad m c news hx hl hnews h1 h63 hbytes hbase h
theorem one_cell15 (w : World) (v : Value) (T : TypeId) : ∀ j u, [v][j]? = some u → (w.alloc (.cells #[v] T)).cell? ((⟨w.heap.size, 0, none⟩ : Addr).add j) = some u := fun j u hu => by
  cases j with
  | zero =>
    injection hu with hu
    subst hu
    exact (rowIn_new #[v] T w).cell 0
  | succ j => cases hu

def slLen15 : Value → Nat
  | .slice _ n _ => n
  | _ => 0
/-- Cells that of may keep. -/
def OfIn (B q o : Nat) (ao : Option Addr) (L : List M.Cl) (w : World) : Prop := 0 < L.length → ao = some ⟨q, o, none⟩ ∧ B ≤ q ∧ (∃ C, RowIn C 38 w q) ∧ ∀ j, j < L.length → ClOff (L.getD j M.cl0) w q (o + j * 3)
/-- Pages that of has made. -/
structure OfS (q o : Nat) (L : List M.Cl) (w0 w : World) (d : Nat) (Ps : List M.Pg) (pa : Option Addr) (pc : Nat) : Prop where
  flat : M.flat Ps = L.take d
  each : ∀ p, p ∈ Ps → p.q = q ∧ p.l.length = p.k ∧ 0 < p.l.length ∧ p.l.length ≤ 32 ∧ PgCl w0 p
  own : w.ownsRow w0.heap.size 136 1 (.slice pa Ps.length pc) Ps.length (pgsV Ps)
  row : RowIn #[.slice pa Ps.length pc, .int .i64 L.length, .bool true] 132 w w0.heap.size
  bel : Below w0.heap.size w0 w
theorem OfS.below {q o d pc : Nat} {L : List M.Cl} {w0 w w' : World} {Ps : List M.Pg} {pa : Option Addr} (h : OfS q o L w0 w d Ps pa pc) (hb : Below w.heap.size w w') : OfS q o L w0 w' d Ps pa pc :=
  ⟨h.flat, h.each, ownP_below h.own hb, h.row.below hb, h.bel.trans (hb.mono h.bel.size)⟩
def OfR (B : Nat) (L : List M.Cl) (w : World) (e : Ending) (w' : World) : Prop :=
  ∃ b pa pc Ps, e = .returned (.pointer (some ⟨b, 0, none⟩)) ∧ MemAt B b pa pc Ps L w' ∧ SmP Ps ∧ (∀ k, WrS b pa Ps k → w.heap.size ≤ k) ∧ Below w.heap.size w w'
theorem WrS.ft {b : Nat} {pa : Option Addr} {Ps : List M.Pg} {k : Nat} (h : WrS b pa Ps k) : FtS b pa Ps k := by
  rcases h with h | h | ⟨p, h1, _, h2⟩
  · exact .inl h
  · exact .inr (.inl h)
  · exact .inr (.inr ⟨p, h1, h2⟩)
def OfQ (B q : Nat) (L : List M.Cl) (w : World) (e : Ending) (w' : World) : Prop :=
  ∃ b pa pc Ps, e = .returned (.pointer (some ⟨b, 0, none⟩)) ∧ MemAt B b pa pc Ps L w' ∧ SmP Ps ∧ (∀ k, WrS b pa Ps k → w.heap.size ≤ k) ∧ (∀ k, FtS b pa Ps k → k = q ∨ w.heap.size ≤ k) ∧ Below w.heap.size w w'
theorem OfQ.one {B q : Nat} {L : List M.Cl} {w w' : World} {e : Ending} (h : OfQ B q L w e w') : OfR B L w e w' := by
  obtain ⟨b, pa, pc, Ps, h1, h2, h3, h4, _, h5⟩ := h
  exact ⟨b, pa, pc, Ps, h1, h2, h3, h4, h5⟩
theorem OfS.step {q o d n pc sc : Nat} {L : List M.Cl} {w0 w w1 w3 : World} {Ps : List M.Pg} {pa sa : Option Addr} (h : OfS q o L w0 w d Ps pa pc) (hcl : ∀ j, j < L.length → ClOff (L.getD j M.cl0) w0 q (o + j * 3)) (hq : q < w0.heap.size)
    (hn : 0 < n) (hn2 : n ≤ 32) (hd : d + n ≤ L.length) (hb : Below w.heap.size w w1) (hg : w1.grownBy w3 (Value.slice pa Ps.length pc).ownBlock)
    (ho : w3.ownsRow w0.heap.size 136 1 (.slice sa (Ps.length + 1) sc) (Ps.length + 1) (pgsV Ps ++ [.slice (some ⟨q, o + d * 3, none⟩) n n])) :
    OfS q o L w0 (w3.setCell ⟨w0.heap.size, 0, none⟩ (.slice sa (Ps.length + 1) sc)) (d + n) (Ps ++ [⟨(L.drop d).take n, q, o + d * 3, n⟩]) sa sc := by
  have hl : ((L.drop d).take n).length = n := by simp; omega
  have hB1 := h.bel.trans (hb.mono h.bel.size)
  have hB3 := hB1.grown hg hB1.size (fun k hk => (h.own.lt k hk).1)
  have hB4 := hB3.setCell (p := ⟨w0.heap.size, 0, none⟩) (Nat.le_refl _) (.slice sa (Ps.length + 1) sc)
  have e1 : (Ps ++ [(⟨(L.drop d).take n, q, o + d * 3, n⟩ : M.Pg)]).length = Ps.length + 1 := by simp
  have hr1 := h.row.below hb
  have hr3 : RowIn #[.slice pa Ps.length pc, .int .i64 L.length, .bool true] 132 w3 w0.heap.size := hr1.grownP hg (fun x hx => row_apart hr1 (ownP_below h.own hb) (by decide) x hx)
  refine ⟨?_, fun p hp => ?_, ?_, ?_, hB4⟩
  · rw [M.flat_append, h.flat, List.take_add, M.flat]
    simp
  · rcases List.mem_append.1 hp with hp | hp
    · exact h.each p hp
    · rw [List.mem_singleton] at hp
      subst hp
      refine ⟨rfl, hl, by show 0 < ((L.drop d).take n).length; omega, by show ((L.drop d).take n).length ≤ 32; omega, fun j hj => ?_⟩
      have hj' : j < n := by rw [← hl]; exact hj
      have := hcl (d + j) (by omega)
      show ClOff (((L.drop d).take n).getD j M.cl0) _ q (o + d * 3 + j * 3)
      rw [show o + d * 3 + j * 3 = o + (d + j) * 3 from by omega]
      rw [show ((L.drop d).take n).getD j M.cl0 = L.getD (d + j) M.cl0 from by simp [List.getD, List.getElem?_take, hj']]
      exact this
  · rw [e1]
    have h5 := ownsRow_setCell_other (a := ⟨w0.heap.size, 0, none⟩) ho (fun e => row_apart hr3 ho (by decide) _ e rfl) (.slice sa (Ps.length + 1) sc)
    rw [pgsV, List.map_append]
    show World.ownsRow _ _ _ _ _ _ (pgsV Ps ++ [.slice (some ⟨q, o + d * 3, none⟩) ((L.drop d).take n).length n])
    rw [hl]
    exact h5
  · rw [e1]
    exact hr3.set 0 _
set_option maxHeartbeats 4000000 in
set_option maxRecDepth 100000 in
theorem of15_any (B q o : Nat) (ao : Option Addr) (cap : Nat) (L : List M.Cl) (w : World) (h : OfIn B q o ao L w) (hcap : L.length ≤ cap) (hst : M.Stt L) (hok : ∀ c, c ∈ L → ClOk c ∧ M.mayC c = true) (hn : L.length ≤ 50000) (hB : B ≤ w.heap.size) :
    Calls Try.prog 104 #[.slice ao L.length cap] w (OfQ B q L w) := by
  obtain ⟨i0, z0, hi0, hz0, hz1, hz2, hz3⟩ := infoPg_parts
  have CN := Lib.hid (new15_any w)
  have HI := Lib.hid h
  have HST := Lib.hid hst
  have HOK := Lib.hid hok
  have HBw := Lib.hid hB
  clear h hst hok hB
  go_enter Try.func104, Try.ntmps104
  go_wp2_with fail
  refine (CN.out).mono ?_
  rintro e w1 ⟨rfl, hw1⟩
  have HR := Lib.hid (show RowIn #[.slice none 0 0, .int .i64 0, .bool true] 132 w1 w.heap.size from by rw [hw1]; exact rowIn_new _ _ _)
  have HB := Lib.hid (show Below w.heap.size w w1 from by rw [hw1]; exact (Below.refl _ _).alloc (Nat.le_refl _) _)
  clear hw1 CN
  obtain ⟨b, hb⟩ : ∃ x, x = w.heap.size := ⟨_, rfl⟩
  rw [← hb] at HR ⊢
  have r1 : w1.cell? ⟨b, 1, none⟩ = some (.int .i64 0) := HR.out.cell 1
  have f1 := HR.out.free 1
  have HS := Lib.hid (show OfS q o L w (w1.setCell ⟨b, 1, none⟩ (.int .i64 L.length)) 0 [] none 0 from ⟨by simp [M.flat], (fun p hp => by cases hp), World.ownsRow_nil _ _ _ _, by rw [← hb]; exact HR.out.set 1 _, HB.out.setCell (by rw [← hb]; exact Nat.le_refl _) _⟩)
  have HBB := Lib.hid hb
  clear hb
  go_wp2_with fail
  go_loopw [0] (fun v0 wr => ∃ (d m : Nat) (Ps : List M.Pg) (ax : Option Addr) (cx : Nat) (pa : Option Addr) (pc : Nat), m ≤ L.length ∧ Ps.length ≤ d ∧ m ≤ cx ∧ v0 = .slice ax m cx ∧ Hid (d + m = L.length) ∧ Hid (0 < m → ax = some ⟨q, o + d * 3, none⟩) ∧ Hid (OfS q o L w wr d Ps pa pc)) (fun v _ => slLen15 v)
  case atStart => exact ⟨0, L.length, [], ao, cap, none, 0, Nat.le_refl _, Nat.le_refl _, hcap, rfl, Lib.hid (by omega), Lib.hid (fun h => by rw [(HI.out h).1]; simp), HS⟩
  case round =>
    clear HS r1 f1 HB HR
    obtain ⟨d, m, Ps, ax, cx, pa, pc, hm, hPd, hcx, rfl, HD, HAX, HS⟩ := hrel
    by_cases hlt : 0 < m
    · have d1 : decide (((m : Nat) : Int) > 0) = true := by simp; omega
      have d2 : decide (0 < m) = true := by simp; omega
      have d3 : (0 : Int) < (m : Int) := by omega
      obtain rfl := HAX.out hlt
      obtain ⟨h1, h2, ⟨C0, h3⟩, h4⟩ := HI.out (by omega)
      have HCL := Lib.hid h4
      have HQ := Lib.hid h3.lt
      clear h1 h2 h3 h4 HAX
      obtain ⟨n, hnn⟩ : ∃ n, n = min 32 m := ⟨_, rfl⟩
      have hmin : min (32 : Int) (m : Int) = (n : Int) := by omega
      have hn0 : 0 < n := by omega
      have hn32 : n ≤ 32 := by omega
      have hnm : n ≤ m := by omega
      have hncx : n ≤ cx := by omega
      have hPl : Ps.length ≤ 50000 := by have := HD.out; omega
      clear hnn
      have hr0 := HS.out.row
      rw [← HBB.out] at hr0
      have c0 : wr.cell? ⟨b, 0, none⟩ = some (.slice pa Ps.length pc) := hr0.cell 0
      have cc0 : ∀ o, (wr.alloc o).cell? ⟨b, 0, none⟩ = some (.slice pa Ps.length pc) := fun o => (hr0.more o).cell 0
      have HR0 := Lib.hid hr0
      clear hr0
      have HO := Lib.hid HS.out.own
      have HSZ := Lib.hid HS.out.bel.size
      go_wp2_with fail
      go_region_law (first
        | ((refine step_append_own15 (by rfl) _ _ 130 (by rfl) w.heap.size 136 i0 z0 1 24 Try.underlying130 hi0 hz0 hz1 hz2 hz3 (by decide) (.slice pa Ps.length pc) Ps.length (pgsV Ps) (by rfl) ((show wr.drew.ownsRow w.heap.size 136 1 (.slice pa Ps.length pc) Ps.length (pgsV Ps) from HO.out).alloc _) ⟨wr.heap.size, 0, none⟩ 1 1 [.slice (some ⟨q, o + d * 3, none⟩) n n] (by rfl) rfl (one_cell15 wr.drew _ _) (fun x hx => by simp at hx; rw [hx]; rfl) (by unfold maxLen; omega) (by omega) (by show w.heap.size ≤ (wr.drew.alloc _).heap.size; rw [szA]; exact Nat.le_succ_of_le HSZ.out) ?_; intro v' w3 hown' hgrow3 hnil3; obtain ⟨so, sc, rfl⟩ := ownP_parts15 hown'; have hb3 := ((show RowIn _ _ wr.drew b from HR0.out).more _).grownP hgrow3 (fun x hx => row_apart HR0.out HO.out (by decide) x hx); have c3 : w3.cell? ⟨b, 0, none⟩ = some (.slice pa Ps.length pc) := hb3.cell 0; have f3 := hb3.free 0)))
      all_goals
        have HW := Lib.hid (HS.out.step (sc := sc) (sa := so) (n := n) HCL.out HQ.out hn0 hn32 (by have := HD.out; omega) (((Below.refl wr.heap.size wr).drew).alloc (Nat.le_refl _) _) hgrow3 hown')
        rw [← HBB.out] at HW
        clear hown' hgrow3 hnil3 hb3
        by_cases hcn : cx = n
        · go_wp2_with fail
          go_roundw
          case rel => exact ⟨d + n, m - n, _, _, 0, so, sc, by omega, by simp; omega, by omega, rfl, Lib.hid (by have := HD.out; omega), Lib.hid (fun h => by omega), HW⟩
          case measure => simp [slLen15]; omega
        · go_wp2_with fail
          go_roundw
          case rel => exact ⟨d + n, m - n, _, _, cx - n, so, sc, by omega, by simp; omega, by omega, rfl, Lib.hid (by have := HD.out; omega), Lib.hid (fun h => by rw [Nat.add_mul, Nat.add_assoc]), HW⟩
          case measure => simp [slLen15]; omega
    · obtain rfl : m = 0 := by omega
      have HE := Lib.hid HD.out
      go_wp2_with fail
      go_ret
      have hf := HS.out.flat
      rw [show d = L.length from HD.out, List.take_length] at hf
      have hbb := HBB.out
      refine ⟨b, pa, pc, Ps, rfl, ⟨by rw [hbb]; exact HS.out.row, ⟨ownP_mono HS.out.own HBw.out, fun p hp => (HS.out.each p hp).2.2.2.2.below HS.out.bel⟩, hf, HST.out, fun p hp => ?_, fun p hp => ?_, fun i j hi hj hij hne => absurd (HS.out.each _ (M.getD_memP hi)).2.1 hne, by rw [hbb]; exact HBw.out, hn, HOK.out⟩, fun p hp => by have := (HS.out.each p hp).2.2.2.1; omega, fun k hk => ?_, fun k hk => ?_, HS.out.bel⟩
      · obtain ⟨e1, e2, e3, e4, e5⟩ := HS.out.each p hp
        have hL : 0 < L.length := by
          rw [← hf]
          exact List.length_pos_of_mem (M.flat_mem hp (M.getD_memC (j := 0) e3))
        obtain ⟨h1, h2, ⟨C0, h3⟩, h4⟩ := HI.out hL
        rw [← e1] at h2 h3
        exact ⟨h2, ⟨C0, h3.below HS.out.bel⟩, .inl e2⟩
      · have := HS.out.each p hp
        omega
      · rcases hk with rfl | ⟨x, rfl⟩ | ⟨p, hp, hp2, _⟩
        · rw [hbb]; exact Nat.le_refl _
        · exact (HS.out.own.lt k rfl).1
        · exact absurd (HS.out.each p hp).2.1 hp2
      · rcases hk with rfl | ⟨x, rfl⟩ | ⟨p, hp, hp2⟩
        · exact .inr (by rw [hbb]; exact Nat.le_refl _)
        · exact .inr (HS.out.own.lt k rfl).1
        · exact .inl (by rw [← hp2]; exact (HS.out.each p hp).1)

end Go.Proofs.Ythidmgnfdikppaa
