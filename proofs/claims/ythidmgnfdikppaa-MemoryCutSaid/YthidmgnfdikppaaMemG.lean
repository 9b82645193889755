/- Layer 15: first, New, Len and Get, by contracts. -/
import Derived.Test.YthidmgnfdikppaaMemF
import Derived.Test.YthidmgnfdikppaaTablesJ
namespace Go.Proofs.Ythidmgnfdikppaa
set_option linter.unusedVariables false
set_option linter.unusedSimpArgs false
open Go Go.RowKit
attribute [local go_sem ↓] run_index_S
attribute [local go_sem] S_append S_extract

/-- Ahead of all cells of a key. -/
def M.topC (key : List UInt8) : M.Cl := ⟨key, 9223372036854775807, []⟩
theorem M.ahead_top {x : M.Cl} (h : x.seq ≤ 9223372036854775807) (key : List UInt8) : M.aheadC x (M.topC key) = Op.bytesLess x.key key := by
  unfold M.aheadC M.topC
  simp only
  rw [show decide (9223372036854775807 < x.seq) = false from by rw [decide_eq_false_iff_not]; omega]
  simp
set_option maxHeartbeats 4000000 in
set_option maxRecDepth 100000 in
theorem first15_any (B b : Nat) (pa : Option Addr) (pc : Nat) (Ps : List M.Pg) (L : List M.Cl) (key : List UInt8) (w : World) (h : MemAt B b pa pc Ps L w) :
    Calls Try.prog 101 #[.pointer (some ⟨b, 0, none⟩), .string (S key)] w (SeekR Ps (M.topC key) w) := by
  have C := Lib.hid (seek15_any B b pa pc Ps L (M.topC key) w h)
  unfold SeekR at *
  generalize M.seekA Ps (M.topC key) = a at *
  generalize M.seekJ Ps (M.topC key) = j at *
  clear h
  go_enter Try.func101, Try.ntmps101
  go_wp2_with fail
  refine (C.out).mono ?_
  rintro e w1 ⟨rfl, hb⟩
  have HB := Lib.hid hb
  clear hb C
  go_wp2_with fail
  go_ret2
  exact ⟨rfl, HB.out⟩
theorem new15_any (w : World) : Calls Try.prog 50 #[] w fun e w' => e = .returned (.pointer (some ⟨w.heap.size, 0, none⟩)) ∧ w' = w.alloc (.cells #[.slice none 0 0, .int .i64 0, .bool true] 132) := by
  go_enter Try.func50, Try.ntmps50
  go_wp2_with fail
  go_ret
  exact ⟨rfl, rfl⟩
theorem memAt_new (w : World) (B : Nat) (hB : B ≤ w.heap.size) : MemAt B w.heap.size none 0 [] [] (w.alloc (.cells #[.slice none 0 0, .int .i64 0, .bool true] 132)) :=
  ⟨rowIn_new _ _ _, ⟨World.ownsRow_nil _ _ _ _, (fun p hp => by cases hp)⟩, rfl, List.Pairwise.nil, (fun p hp => by cases hp), (fun p hp => by cases hp), (fun i j hi => absurd hi (Nat.not_lt_zero _)), hB, Nat.zero_le _, (fun c hc => by cases hc)⟩
theorem len15_any (B b : Nat) (pa : Option Addr) (pc : Nat) (Ps : List M.Pg) (L : List M.Cl) (w : World) (h : MemAt B b pa pc Ps L w) :
    Calls Try.prog 53 #[.pointer (some ⟨b, 0, none⟩)] w fun e w' => e = .returned (.int .i64 L.length) ∧ w = w' := by
  have r1 := h.row.cell 1
  clear h
  go_enter Try.func53, Try.ntmps53
  go_wp2_with fail
  go_ret
  exact ⟨rfl, rfl⟩
theorem M.find_pre {key : List UInt8} : ∀ {A B : List M.Cl}, (∀ x, x ∈ A → Op.bytesLess x.key key = true) → M.findL key (A ++ B) = M.findL key B
  | [], B, _ => rfl
  | x :: A, B, h => by
    have hx := h x (by simp)
    have hne : ¬ (x.key = key) := fun e => by rw [e, M.less_irr] at hx; cases hx
    have ih := M.find_pre (key := key) (A := A) (B := B) (fun y hy => h y (by simp [hy]))
    unfold M.findL at ih ⊢
    rw [List.cons_append, List.find?_cons_of_neg (by simpa using hne)]
    exact ih
theorem M.find_post {key : List UInt8} : ∀ {B : List M.Cl}, (∀ x, x ∈ B → ¬ x.key = key) → M.findL key B = none
  | [], _ => rfl
  | x :: B, h => by
    have ih := M.find_post (key := key) (B := B) (fun y hy => h y (by simp [hy]))
    unfold M.findL at ih ⊢
    rw [List.find?_cons_of_neg (by simpa using h x (by simp))]
    exact ih
/-- What Get finds. -/
theorem M.get_seek {Ps : List M.Pg} {key : List UInt8} {a i : Nat} (h : M.SeekOk Ps (M.topC key) a i) (hst : M.Stt (M.flat Ps)) (hq : ∀ x, x ∈ M.flat Ps → x.seq ≤ 9223372036854775807) :
    M.findL key (M.flat Ps) = if a = Ps.length then none else if ((Ps.getD a M.pg0).l.getD i M.cl0).key = key then some ((Ps.getD a M.pg0).l.getD i M.cl0) else none := by
  by_cases he : a = Ps.length
  · rw [if_pos he]
    have := M.find_pre (key := key) (A := M.flat Ps) (B := []) (fun x hx => by rw [← M.ahead_top (hq x hx) key]; exact h.all he x hx)
    rw [List.append_nil] at this
    rw [this]
    rfl
  · rw [if_neg he]
    obtain ⟨A, x, B, e, eA, ex, eB, hA, hx⟩ := h.cut (by have := h.le; omega)
    rw [← ex, e]
    have hqx : ∀ y, y ∈ A ++ x :: B → y.seq ≤ 9223372036854775807 := fun y hy => hq y (by rw [e]; exact hy)
    rw [M.find_pre (fun y hy => by rw [← M.ahead_top (hqx y (by simp [hy])) key]; exact hA y hy)]
    rw [M.ahead_top (hqx x (by simp)) key] at hx
    by_cases hk : x.key = key
    · rw [if_pos hk, M.findL, List.find?_cons_of_pos (by simpa using hk)]
    · rw [if_neg hk]
      refine M.find_post (fun y hy => ?_)
      rcases List.mem_cons.1 hy with rfl | hy
      · exact hk
      · rw [e] at hst
        have h1 := (List.pairwise_cons.1 (M.strict_app hst).2.1).1 y hy
        intro hyk
        rcases M.ahead_iff.1 h1 with h2 | ⟨h2, _⟩
        · rw [hyk, hx] at h2; cases h2
        · exact hk (h2.trans hyk)
set_option maxHeartbeats 4000000 in
set_option maxRecDepth 100000 in
theorem get15_any (B b : Nat) (pa : Option Addr) (pc : Nat) (Ps : List M.Pg) (L : List M.Cl) (key : List UInt8) (w : World) (h : MemAt B b pa pc Ps L w) :
    Calls Try.prog 54 #[.pointer (some ⟨b, 0, none⟩), .string (S key)] w fun e w' => FindR9 (M.findL key L) w e w' := by
  have hal := (Below.refl w.heap.size w).alloc (Nat.le_refl _) (.cells clZ9 38)
  have HB := Lib.hid hal
  have HR := Lib.hid (rowIn_new clZ9 38 w)
  have HM := Lib.hid (h.below hal)
  have C := Lib.hid (first15_any B b pa pc Ps L key _ (h.below hal))
  have HS := Lib.hid (M.seek_ok h.ok (M.topC key))
  have HG := Lib.hid (show M.findL key L = if M.seekA Ps (M.topC key) = Ps.length then none else if ((Ps.getD (M.seekA Ps (M.topC key)) M.pg0).l.getD (M.seekJ Ps (M.topC key)) M.cl0).key = key then some ((Ps.getD (M.seekA Ps (M.topC key)) M.pg0).l.getD (M.seekJ Ps (M.topC key)) M.cl0) else none from by
    rw [← M.get_seek (M.seek_ok h.ok (M.topC key)) (by rw [h.flat]; exact h.st) (fun x hx => by rw [h.flat] at hx; exact (h.okc x hx).1.2.2.2), h.flat])
  have hpl := h.ok.len
  have hPn := h.ok.n
  unfold SeekR at C
  generalize M.seekA Ps (M.topC key) = a at *
  generalize M.seekJ Ps (M.topC key) = j at *
  have HPL := Lib.hid hpl
  clear hal h hpl
  go_enter Try.func54, Try.ntmps54
  go_wp2_with fail
  refine (C.out).mono ?_
  rintro e w1 ⟨rfl, hb⟩
  replace HB := carry hb HB
  replace HR := carry hb HR
  replace HM := carry hb HM
  clear hb C
  have r0 := HM.out.row.cell 0
  have hle := HS.out.le
  by_cases he : a = Ps.length
  · have HE := Lib.hid (show M.findL key L = none from by rw [HG.out, if_pos he])
    have d0 : ((a : Int) == (Ps.length : Int)) = true := by rw [beq_iff_eq]; omega
    have d1 : decide ((a : Int) = (Ps.length : Int)) = true := by rw [decide_eq_true_eq]; omega
    clear he hle
    go_wp2_with ((refine wpList_store_hid rfl 38 _ _ rfl w.heap.size _ rfl rfl 38 clZ9 HR.out ?_ rfl (by simp [Value.oneCell']) ?_; kernel_rfl; intro w3 hrQ hbelQ hothQ hszQ; have HXE := Lib.hid hrQ; have HBE := Lib.hid (hbelQ w.heap.size w (Nat.le_refl _) HB.out); clear hrQ hbelQ hothQ hszQ))
    try simp only [Exit.inBlock, Exit.then]
    exact bodyPost_ret (ret_rowP2 rfl _ _ w.heap.size rfl (load_struct Try.underlying38 (by kernel_rfl) HXE.out)) rfl (show FindR9 (M.findL key L) w _ _ from by rw [HE.out]; exact ⟨rfl, HBE.out⟩)
  · have d0 : ((a : Int) == (Ps.length : Int)) = false := by rw [beq_eq_false_iff_ne]; omega
    have d1 : decide ((a : Int) = (Ps.length : Int)) = false := by rw [decide_eq_false_iff_not]; omega
    have hlt : a < Ps.length := by omega
    have hai : (a : Int) < (Ps.length : Int) := by omega
    obtain ⟨g, rfl, z0, hcl⟩ := HM.out.pgs.at_ hlt
    have hjl := HS.out.in_ hlt
    replace HG := Lib.hid (HG.out.trans (if_neg he))
    clear he hle HS HPL
    generalize Ps.getD a M.pg0 = p at *
    unfold pgV at z0
    have hji : (j : Int) < (p.l.length : Int) := by omega
    obtain ⟨x0, x1, x2⟩ := hcl j hjl
    generalize p.l.getD j M.cl0 = c at *
    by_cases hk : c.key = key
    · have HE := Lib.hid (HG.out.trans (if_pos hk))
      have b0 : (c.key == key) = true := by simpa using hk
      clear hk hcl HG
      go_wp2_with ((refine wpList_store_hid rfl 38 _ _ rfl w.heap.size _ rfl rfl 38 clZ9 HR.out ?_ rfl (by simp [Value.oneCell']) ?_; kernel_rfl; intro w3 hrQ hbelQ hothQ hszQ; have HXE := Lib.hid hrQ; have HBE := Lib.hid (hbelQ w.heap.size w (Nat.le_refl _) HB.out); clear hrQ hbelQ hothQ hszQ))
      try simp only [Exit.inBlock, Exit.then]
      exact bodyPost_ret (ret_rowP2 rfl _ _ w.heap.size rfl (load_struct Try.underlying38 (by kernel_rfl) HXE.out)) rfl (show FindR9 (M.findL key L) w _ _ from by rw [HE.out]; exact ⟨rfl, HBE.out⟩)
    · have HE := Lib.hid (HG.out.trans (if_neg hk))
      have b0 : (c.key == key) = false := by rw [beq_eq_false_iff_ne]; exact hk
      clear hk hcl HG
      go_wp2_with ((refine wpList_store_hid rfl 38 _ _ rfl w.heap.size _ rfl rfl 38 clZ9 HR.out ?_ rfl (by simp [Value.oneCell']) ?_; kernel_rfl; intro w3 hrQ hbelQ hothQ hszQ; have HXE := Lib.hid hrQ; have HBE := Lib.hid (hbelQ w.heap.size w (Nat.le_refl _) HB.out); clear hrQ hbelQ hothQ hszQ))
      try simp only [Exit.inBlock, Exit.then]
      exact bodyPost_ret (ret_rowP2 rfl _ _ w.heap.size rfl (load_struct Try.underlying38 (by kernel_rfl) HXE.out)) rfl (show FindR9 (M.findL key L) w _ _ from by rw [HE.out]; exact ⟨rfl, HBE.out⟩)

end Go.Proofs.Ythidmgnfdikppaa
