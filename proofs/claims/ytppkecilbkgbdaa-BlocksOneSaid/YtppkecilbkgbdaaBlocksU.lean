/- Layer 9: the law's own helpers, by contracts; the document's Find. -/
import Derived.Test.YtppkecilbkgbdaaBlocksT
import Derived.Test.YtppkecilbkgbdaaBlocksK
import Derived.Test.YtppkecilbkgbdaaZE
namespace Go.Proofs.Ytppkecilbkgbdaa
set_option linter.unusedVariables false
open Go Go.RowKit
attribute [local go_sem ↓] run_index_S
attribute [local go_sem] S_append S_extract

theorem M.cls_ext9 {L K : List M.Cl} (h : L.length = K.length) (hj : ∀ j, j < L.length → L.getD j M.cl0 = K.getD j M.cl0) : L = K := by
  apply List.ext_getElem h
  intro j h1 h2
  have := hj j h1
  simpa [List.getD, List.getElem?_eq_getElem h1, List.getElem?_eq_getElem h2] using this
theorem M.Cl.diff9 {x y : M.Cl} (h : ¬ x = y) : (¬ x.key = y.key) ∨ (x.key = y.key ∧ ¬ x.seq = y.seq) ∨ (x.key = y.key ∧ x.seq = y.seq ∧ ¬ x.val = y.val) := by
  by_cases h0 : x.key = y.key
  case neg => exact .inl h0
  by_cases h1 : x.seq = y.seq
  case neg => exact .inr (.inl ⟨h0, h1⟩)
  exact .inr (.inr ⟨h0, h1, fun h2 => h (M.Cl.ext' h0 h1 h2)⟩)

set_option maxHeartbeats 1000000 in
theorem sameCells9_any {w : World} {ao bo : Option Addr} {L K : List M.Cl} (c1 c2 : Nat) (hL : ClsAt w ao L) (hK : ClsAt w bo K) (hl : L.length ≤ 140737488351232) (hk : K.length ≤ 140737488351232) :
    Calls Try.prog 22 #[.slice ao L.length c1, .slice bo K.length c2] w fun e w' => SameR (L = K) w e w' := by
  by_cases hlen : L.length = K.length
  · have d0 : ¬ ((L.length : Int) ≠ (K.length : Int)) := by omega
    have d1 : ((L.length : Int) != (K.length : Int)) = false := by simp; omega
    have HL := Lib.hid hL
    have HK := Lib.hid hK
    have HN := Lib.hid hlen
    clear hL hK hlen
    go_enter Try.func22, Try.ntmps22
    go_wp2_with fail
    go_loopw [5] (fun i wr => ∃ k : Nat, k ≤ L.length ∧ i = .int .i64 k ∧ (∀ j, j < k → L.getD j M.cl0 = K.getD j M.cl0) ∧ Below w.heap.size w wr) (fun i _ => L.length - (intOf i).toNat)
    case atStart => exact ⟨0, by omega, rfl, fun j hj => by omega, Below.refl _ _⟩
    case round =>
      rename_i wr
      obtain ⟨k, hkl, rfl, hj, hb⟩ := hrel
      have HJ := Lib.hid hj
      have HW := Lib.hid hb
      clear hj
      by_cases hlt : k < L.length
      · have hd : decide ((k : Int) < (L.length : Int)) = true := by simp; omega
        obtain ⟨g, off, rfl, hc⟩ := (HL.out.below hb).off k hlt
        obtain ⟨g', off', rfl, hc'⟩ := (HK.out.below hb).off k (by have := HN.out; omega)
        obtain ⟨x0, x1, x2⟩ := hc
        obtain ⟨y0, y1, y2⟩ := hc'
        have hkk : (k : Int) < (K.length : Int) := by have := HN.out; omega
        by_cases hxy : L.getD k M.cl0 = K.getD k M.cl0
        · rw [← hxy] at y0 y1 y2
          clear hb
          generalize hxe : L.getD k M.cl0 = x at *
          have HXE := Lib.hid hxe
          have HYE := Lib.hid hxy.symm
          clear hxe hxy
          go_wp2_with fail
          go_region
          go_wp2_with fail
          go_roundw
          case rel => exact ⟨k + 1, by omega, by go_num, fun j hj => by
            by_cases e : j = k
            · rw [e, HXE.out, HYE.out]
            · exact HJ.out j (by omega), HW.out.drew⟩
          case measure => simp [intOf]; omega
        · clear hb
          have HX := Lib.hid (show ¬ L = K from fun h => hxy (by rw [h]))
          generalize L.getD k M.cl0 = x at *
          generalize K.getD k M.cl0 = y at *
          rcases M.Cl.diff9 hxy with h | h | h
          all_goals
            clear hxy
            (try obtain ⟨h1, h⟩ := h)
            (try obtain ⟨h2, h⟩ := h)
            go_wp2_with fail
            go_region
            go_wp2_with fail
            go_ret
            exact SameR.no HX.out HW.out.drew
      · obtain rfl : k = L.length := by omega
        have hd : decide ((L.length : Int) < (L.length : Int)) = false := by simp
        go_wp2_with fail
        go_ret
        exact SameR.yes (M.cls_ext9 HN.out HJ.out) HW.out
  · have d1 : ((L.length : Int) != (K.length : Int)) = true := by simp; omega
    have HN := Lib.hid hlen
    clear hlen hL hK
    go_enter Try.func22, Try.ntmps22
    go_wp2_with fail
    go_ret
    exact SameR.no (fun h => HN.out (by rw [h])) (Below.refl _ _)


theorem sameCells9_yes (L : List M.Cl) (n : Nat) (hn : L.length = n) (a b : Option Addr) (c1 c2 : Nat) (hl : n ≤ 1000000) {w : World} (ha : ClsAt w a L) (hb : ClsAt w b L) :
    Calls Try.prog 22 #[.slice a n c1, .slice b n c2] w fun e w' => e = .returned (.bool true) ∧ Below w.heap.size w w' := by
  subst hn
  exact (sameCells9_any (L := L) (K := L) c1 c2 ha hb (by omega) (by omega)).mono fun _ _ h => h.is rfl
def SmallC9 (c : M.Cl) : Prop := c.key.length ≤ 1000 ∧ c.val.length ≤ 1000
def SmallCs9 (L : List M.Cl) (n : Nat) : Prop := L.length ≤ n ∧ ∀ x ∈ L, SmallC9 x
theorem smallCs9_of {L : List M.Cl} {n : Nat} (h : L.length ≤ n) (hj : ∀ j, j < L.length → SmallC9 (L.getD j M.cl0)) : SmallCs9 L n := by
  refine ⟨h, fun x hx => ?_⟩
  obtain ⟨j, hj', rfl⟩ := List.getElem_of_mem hx
  simpa [List.getD, List.getElem?_eq_getElem hj'] using hj j hj'
def GreatR9 (L : List M.Cl) (n : Nat) (w : World) (e : Ending) (w' : World) : Prop := (e = .returned (.bool true) ∨ (e = .returned (.bool false) ∧ SmallCs9 L n)) ∧ w = w'

set_option maxHeartbeats 1000000 in
theorem great9_any {w : World} {ao : Option Addr} (L : List M.Cl) (cap n : Nat) (hn : n ≤ 1000) (hs : ClsAt w ao L) (hl : L.length ≤ 9223372036854775807) :
    Calls Try.prog 10 #[.slice ao L.length cap, .int .i64 n] w fun e w' => GreatR9 L n w e w' := by
  have HS := Lib.hid hs
  clear hs
  by_cases hlen : L.length ≤ n
  · have d0 : decide ((n : Int) < (L.length : Int)) = false := by simp; omega
    have HLN := Lib.hid hlen
    go_enter Try.func10, Try.ntmps10
    go_wp2_with fail
    clear d0
    go_loop [5] (fun i => ∃ k : Nat, k ≤ L.length ∧ i = .int .i64 k ∧ (∀ j, j < k → SmallC9 (L.getD j M.cl0))) (fun i => L.length - (intOf i).toNat)
    case atStart => exact ⟨0, by omega, rfl, fun j hj => by omega⟩
    case round =>
      obtain ⟨k, hk, rfl, hj⟩ := hrel
      have HJ := Lib.hid hj
      clear hj
      by_cases hlt : k < L.length
      · have d1 : decide ((k : Int) < (L.length : Int)) = true := by simp; omega
        have hki : (k : Int) < (L.length : Int) := by omega
        obtain ⟨g, off, rfl, hc⟩ := HS.out.off k hlt
        obtain ⟨x0, x1, x2⟩ := hc
        generalize hxe : L.getD k M.cl0 = x at *
        have HXE := Lib.hid hxe
        clear hxe x1
        by_cases hx : SmallC9 x
        · obtain ⟨s1, s2⟩ := hx
          have e1 : decide (1000 < (x.key.length : Int)) = false := by simp; omega
          have e2 : decide (1000 < (x.val.length : Int)) = false := by simp; omega
          have HSM := Lib.hid (show SmallC9 x from ⟨s1, s2⟩)
          clear s1 s2
          go_wp2_with fail
          go_round
          case rel => exact ⟨k + 1, by omega, by go_num, fun j hj => by
            by_cases e : j = k
            · rw [e, HXE.out]; exact HSM.out
            · exact HJ.out j (by omega)⟩
          case measure => simp [intOf]; omega
        · have hx' : 1000 < x.key.length ∨ 1000 < x.val.length := by unfold SmallC9 at hx; omega
          clear hx
          go_wp2_with fail
          all_goals first
            | (go_ret; exact ⟨.inl rfl, rfl⟩)
            | (exfalso; omega)
      · obtain rfl : k = L.length := by omega
        have HSB := Lib.hid (smallCs9_of HLN.out HJ.out)
        have d1 : decide ((L.length : Int) < (L.length : Int)) = false := by simp
        clear hlt
        go_wp2_with fail
        go_ret
        exact ⟨.inr ⟨rfl, HSB.out⟩, rfl⟩
  · have d0 : decide ((n : Int) < (L.length : Int)) = true := by simp; omega
    go_enter Try.func10, Try.ntmps10
    go_wp2_with fail
    go_ret
    exact ⟨.inl rfl, rfl⟩


theorem SmallC9.ok {c : M.Cl} (h : SmallC9 c) (hi : c.ints) : ClOk c := ⟨by have := h.1; omega, by have := h.2; omega, hi⟩
/-- The chapter's cells. -/
def some9L : List M.Cl := [⟨[97, 98], 7, [120]⟩, ⟨[97, 98], 3, []⟩, ⟨[97, 99], 0, [121]⟩]
abbrev some9A : Array Value := #[.string ⟨#[97, 98]⟩, .int .i64 7, .string ⟨#[120]⟩, .string ⟨#[97, 98]⟩, .int .i64 3, .string ⟨#[]⟩, .string ⟨#[97, 99]⟩, .int .i64 0, .string ⟨#[121]⟩]
theorem some9_any (w : World) : Calls Try.prog 39 #[] w fun e w' => e = .returned (.slice (some ⟨w.heap.size, 0, none⟩) 3 3) ∧ w' = w.alloc (.cells some9A 32) := by
  go_enter Try.func39, Try.ntmps39
  go_wp2_with fail
  go_ret
  exact ⟨rfl, rfl⟩

theorem M.encL_ge {k : List UInt8} (L : List M.Cl) : L.length ≤ (M.encL k L).length := by
  induction L generalizing k with
  | nil => simp
  | cons c L ih =>
    have h1 := M.putN_length (M.com k c.key)
    have h2 := ih (k := c.key)
    simp only [M.encL, M.encOne, List.length_append, List.length_cons] at *
    omega
theorem M.findL_pre {key : List UInt8} {L : List M.Cl} {k : Nat} {c : M.Cl} (h : M.findL key (L.take k) = some c) : M.findL key L = some c := by
  have e : M.findL key (L.take k ++ L.drop k) = some c := by
    unfold M.findL at *
    rw [List.find?_append, h]; rfl
  rwa [List.take_append_drop] at e
set_option maxHeartbeats 4000000 in
set_option maxRecDepth 100000 in
theorem refFind9_any (s key : List UInt8) (hs : s.length ≤ 1000000) (w : World) :
    Calls Try.prog 24 #[.string (S s), .string (S key)] w fun e w' => FindR9 (M.findC s key) w e w' := by
  have HB := Lib.hid ((Below.refl w.heap.size w).alloc (Nat.le_refl _) (.cells clZ9 32))
  have HR := Lib.hid (rowIn_new clZ9 32 w)
  have CD := Lib.hid (fun W => refDecode9_any s hs W)
  unfold DecR9 at CD
  go_enter Try.func24, Try.ntmps24
  go_wp2_with fail
  cases hd : M.decC s with
  | none =>
    rw [hd] at CD
    simp only at CD
    have HD := Lib.hid (show M.findC s key = none from by rw [M.findC, hd])
    clear hd
    with_reducible refine (CD.out _).mono ?_
    rintro e w1 ⟨rfl, hb⟩
    replace HB := carry hb HB
    replace HR := carry hb HR
    clear hb
    go_wp2_with fail
    refine wp_loop_rounds 1 ?_
    rw [rounds_succ]
    go_wp2_with ((refine wpList_store_hid rfl 32 _ _ rfl w.heap.size _ rfl rfl 32 clZ9 HR.out ?_ rfl (by simp [Value.oneCell']) ?_; kernel_rfl; intro w3 hrQ hbelQ hothQ hszQ; have HXE := Lib.hid hrQ; have HBE := Lib.hid (hbelQ w.heap.size w (Nat.le_refl _) HB.out); clear hrQ hbelQ hothQ hszQ))
    try simp only [Exit.inBlock, Exit.then]
    exact bodyPost_ret (ret_rowP2 rfl _ _ w.heap.size rfl (load_struct Try.underlying32 (by kernel_rfl) HXE.out)) rfl (show FindR9 (M.findC s key) w _ _ from by rw [HD.out]; exact ⟨rfl, HBE.out⟩)
  | some L =>
    rw [hd] at CD
    simp only at CD
    have HD := Lib.hid (show M.findC s key = M.findL key L from by rw [M.findC, hd])
    have hlen : L.length ≤ 1000000 := by
      obtain ⟨h1, h2, h3⟩ := M.decC_enc hd
      have e1 := M.encL_ge (k := []) L
      have e2 := congrArg List.length h1
      simp only [M.encCs, List.length_append] at e2
      omega
    clear hd
    with_reducible refine (CD.out _).mono ?_
    rintro e w1 ⟨⟨ao, cap, rfl, ho⟩, hb⟩
    replace HB := carry hb HB
    replace HR := carry hb HR
    have HC := Lib.hid (clsAt_own ho rfl)
    clear hb ho
    go_wp2_with fail
    go_loop [8] (fun i => ∃ k : Nat, k ≤ L.length ∧ i = .int .i64 k ∧ Hid (M.findL key (L.take k) = none)) (fun i => L.length - (intOf i).toNat)
    case atStart => exact ⟨0, Nat.zero_le _, rfl, Lib.hid rfl⟩
    case round =>
      obtain ⟨k, hk, rfl, HF⟩ := hrel
      by_cases hlt : k < L.length
      · have hd : decide ((k : Int) < (L.length : Int)) = true := by simp; omega
        have hki : (k : Int) < (L.length : Int) := by omega
        obtain ⟨g, off, rfl, hc⟩ := HC.out.off k hlt
        obtain ⟨x0, x1, x2⟩ := hc
        have HT := Lib.hid (takeC_snoc hlt)
        have HN := Lib.hid (show M.findL key (L.take (k + 1)) = if (L.getD k M.cl0).key = key then some (L.getD k M.cl0) else none from by rw [HT.out, M.findL_snoc, HF.out])
        generalize L.getD k M.cl0 = c at *
        by_cases he : c.key = key
        · have hq : (c.key == key) = true := by simpa using he
          rw [if_pos he] at HN
          have HD2 := Lib.hid (HD.out.trans (M.findL_pre HN.out))
          clear he
          go_wp2_with ((refine wpList_store_hid rfl 32 _ _ rfl w.heap.size _ rfl rfl 32 clZ9 HR.out ?_ rfl (by simp [Value.oneCell']) ?_; kernel_rfl; intro w3 hrQ hbelQ hothQ hszQ; have HXE := Lib.hid hrQ; have HBE := Lib.hid (hbelQ w.heap.size w (Nat.le_refl _) HB.out); clear hrQ hbelQ hothQ hszQ))
          try simp only [Exit.inBlock, Exit.then]
          exact bodyPost_ret (ret_rowP2 rfl _ _ w.heap.size rfl (load_struct Try.underlying32 (by kernel_rfl) HXE.out)) rfl (show FindR9 (M.findC s key) w _ _ from by rw [HD2.out]; exact ⟨rfl, HBE.out⟩)
        · have hq : (c.key == key) = false := by simpa using he
          rw [if_neg he] at HN
          clear he
          go_wp2_with fail
          go_round
          case rel => exact ⟨k + 1, by omega, by go_num, HN⟩
          case measure => simp [intOf]; omega
      · obtain rfl : k = L.length := by omega
        have hd : decide ((L.length : Int) < (L.length : Int)) = false := by simp
        have HD2 := Lib.hid (show M.findC s key = none from by rw [HD.out]; have := HF.out; rwa [List.take_length] at this)
        go_wp2_with ((refine wpList_store_hid rfl 32 _ _ rfl w.heap.size _ rfl rfl 32 clZ9 HR.out ?_ rfl (by simp [Value.oneCell']) ?_; kernel_rfl; intro w3 hrQ hbelQ hothQ hszQ; have HXE := Lib.hid hrQ; have HBE := Lib.hid (hbelQ w.heap.size w (Nat.le_refl _) HB.out); clear hrQ hbelQ hothQ hszQ))
        try simp only [Exit.inBlock, Exit.then]
        exact bodyPost_ret (ret_rowP2 rfl _ _ w.heap.size rfl (load_struct Try.underlying32 (by kernel_rfl) HXE.out)) rfl (show FindR9 (M.findC s key) w _ _ from by rw [HD2.out]; exact ⟨rfl, HBE.out⟩)

end Go.Proofs.Ytppkecilbkgbdaa
