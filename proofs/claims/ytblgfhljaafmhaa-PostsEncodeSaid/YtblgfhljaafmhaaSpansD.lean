/- Layer 3: the program's Decode by a contract. -/
import Derived.Test.YtblgfhljaafmhaaSpansE
import Derived.Lib.BufferMore
import Derived.Laws.CopyOwn
namespace Go.Proofs.Ytblgfhljaafmhaa
set_option linter.unusedVariables false
open Go Go.RowKit
attribute [local go_sem ↓] run_index_S
attribute [local go_sem] S_append S_extract

/-- Where a span's numbers lie, and its texts. -/
def offN (k : Nat) : Nat := [0, 1, 2, 5, 6].getD k 0
def offT (k : Nat) : Nat := [3, 4, 7].getD k 0

/-- A block that is a span. -/
def spC (x : M.Sp) : Array Value := #[.int .i64 x.trace, .int .i64 x.id, .int .i64 x.parent, .string (S x.svc), .string (S x.host), .int .i64 x.start, .int .i64 x.dur, .string (S x.note)]
def SpIn (x : M.Sp) (w : World) (b : Nat) : Prop := w.heap[b]? = some (.cells (spC x) 29 (0, 0))
theorem SpIn.lt {x : M.Sp} {w : World} {b : Nat} (h : SpIn x w b) : b < w.heap.size := by
  rcases Nat.lt_or_ge b w.heap.size with h' | h'
  · exact h'
  · simp [SpIn, Array.getElem?_eq_none h'] at h
theorem SpIn.at_ {x : M.Sp} {w : World} {b : Nat} (h : SpIn x w b) : SpAt x w b := by
  have hl := SpIn.lt h
  unfold SpIn at h
  exact ⟨by simp [World.cell?, h, spC], by simp [World.cell?, h, spC], by simp [World.cell?, h, spC], by simp [World.cell?, h, spC], by simp [World.cell?, h, spC], by simp [World.cell?, h, spC], by simp [World.cell?, h, spC], by simp [World.cell?, h, spC], hl⟩
theorem SpIn.free {x : M.Sp} {w : World} {b : Nat} (h : SpIn x w b) (j : Nat) : w.frozen? ⟨b, j, none⟩ = false := by
  unfold SpIn at h
  simp [World.frozen?, h]
theorem SpIn.below {x : M.Sp} {w w' : World} {b : Nat} (h : SpIn x w b) (hb : Below w.heap.size w w') : SpIn x w' b := by
  have hl := SpIn.lt h
  unfold SpIn at *
  rw [hb.block b hl]; exact h
theorem SpIn.other {x : M.Sp} {w : World} {b c : Nat} (h : SpIn x w b) (hne : b ≠ c) (i : Nat) (v : Value) : SpIn x (w.setCell ⟨c, i, none⟩ v) b := by
  unfold SpIn at *
  rw [Below.heap_setCell _ _ _ _ hne]; exact h
theorem spIn_set {w : World} {b : Nat} {x y : M.Sp} (h : SpIn x w b) (i : Nat) (v : Value) (hy : spC y = (spC x).setIfInBounds i v) : SpIn y (w.setCell ⟨b, i, none⟩ v) b := by
  unfold SpIn at *
  simp [World.setCell, Array.getElem?_modify, h, hy]
theorem spIn_num {w : World} {b k : Nat} {ns : List Nat} (hk : k < 5) (hl : ns.length = k) (h : SpIn (M.spOf ns []) w b) (n : Nat) : SpIn (M.spOf (ns ++ [n]) []) (w.setCell ⟨b, offN k, none⟩ (.int .i64 n)) b := by
  refine spIn_set h _ _ ?_
  subst hl
  match ns, hk with
  | [], _ => rfl
  | [_], _ => rfl
  | [_, _], _ => rfl
  | [_, _, _], _ => rfl
  | [_, _, _, _], _ => rfl
theorem spIn_txt {w : World} {b k : Nat} {ns : List Nat} {ts : List (List UInt8)} (hk : k < 3) (hl : ts.length = k) (h : SpIn (M.spOf ns ts) w b) (t : List UInt8) : SpIn (M.spOf ns (ts ++ [t])) (w.setCell ⟨b, offT k, none⟩ (.string (S t))) b := by
  refine spIn_set h _ _ ?_
  subst hl
  match ts, hk with
  | [], _ => rfl
  | [_], _ => rfl
  | [_, _], _ => rfl
theorem spIn_numAt {w : World} {b k : Nat} {ns : List Nat} (hk : k < 5) (hl : ns.length = k) (h : SpIn (M.spOf ns []) w b) : w.cell? ⟨b, offN k, none⟩ = some (.int .i64 0) := by
  unfold SpIn at h
  subst hl
  simp only [World.cell?, h]
  match ns, hk with
  | [], _ => rfl
  | [_], _ => rfl
  | [_, _], _ => rfl
  | [_, _, _], _ => rfl
  | [_, _, _, _], _ => rfl
theorem spIn_txtAt {w : World} {b k : Nat} {ns : List Nat} {ts : List (List UInt8)} (hk : k < 3) (hl : ts.length = k) (h : SpIn (M.spOf ns ts) w b) : w.cell? ⟨b, offT k, none⟩ = some (.string (S [])) := by
  unfold SpIn at h
  subst hl
  simp only [World.cell?, h]
  match ts, hk with
  | [], _ => rfl
  | [_], _ => rfl
  | [_, _], _ => rfl

theorem SpIn.more {x : M.Sp} {w : World} {b : Nat} (h : SpIn x w b) (o : Obj) : SpIn x (w.alloc o) b := h.below ((Below.refl _ _).alloc (Nat.le_refl _) _)
theorem spIn_new (w : World) : SpIn M.sp0 (w.alloc (.cells (spC M.sp0) 29)) w.heap.size := heap_alloc_new w _
theorem spIn_new2 (w : World) (o : Obj) : SpIn (M.spOf [] []) ((w.alloc o).alloc (.cells (spC M.sp0) 29)) (w.heap.size + 1) := by
  have := heap_alloc_new (w.alloc o) (.cells (spC M.sp0) 29)
  rw [show (w.alloc o).heap.size = w.heap.size + 1 from by simp] at this
  exact this

theorem SpIn.row {x : M.Sp} {w : World} {b : Nat} (h : SpIn x w b) (y : M.Sp) : SpIn y (w.setRow b (spC y)) b := setRow_heap w b _ _ _ _ h

theorem spC_one (x : M.Sp) : (spC x).all (·.oneCell') = true := by simp [spC, Value.oneCell']

theorem getD_mem {α : Type} {l : List α} {k : Nat} {d : α} {P : α → Prop} (h : ∀ x ∈ l, P x) (hd : P d) : P (l.getD k d) := by
  rw [List.getD]
  cases e : l[k]? with
  | none => exact hd
  | some v => exact h v (List.mem_of_getElem? e)
theorem spOf_fits (ns : List Nat) (ts : List (List UInt8)) (l : List UInt8) (hl : l.length ≤ 140737488351232) (h1 : ∀ n ∈ ns, n ≤ 9223372036854775807) (h2 : ∀ t ∈ ts, t.length ≤ l.length) : (M.spOf ns ts).fits := by
  have a0 := getD_mem (k := 0) (d := 0) (P := fun n => n ≤ 9223372036854775807) h1 (by omega)
  have a1 := getD_mem (k := 1) (d := 0) (P := fun n => n ≤ 9223372036854775807) h1 (by omega)
  have a2 := getD_mem (k := 2) (d := 0) (P := fun n => n ≤ 9223372036854775807) h1 (by omega)
  have a3 := getD_mem (k := 3) (d := 0) (P := fun n => n ≤ 9223372036854775807) h1 (by omega)
  have a4 := getD_mem (k := 4) (d := 0) (P := fun n => n ≤ 9223372036854775807) h1 (by omega)
  have b0 := getD_mem (k := 0) (d := []) (P := fun t => t.length ≤ l.length) h2 (by simp)
  have b1 := getD_mem (k := 1) (d := []) (P := fun t => t.length ≤ l.length) h2 (by simp)
  have b2 := getD_mem (k := 2) (d := []) (P := fun t => t.length ≤ l.length) h2 (by simp)
  constructor <;> simp only [M.spOf] <;> omega

/-- A row of places in a span's block. -/
structure PtrsN (w : World) (s b : Nat) : Prop where
  c : ∀ k, k < 5 → w.cell? ⟨s, k, none⟩ = some (.pointer (some ⟨b, offN k, none⟩))
  at_ : s < w.heap.size
theorem ptrsN_new (w : World) (o p : Obj) : PtrsN (((w.alloc o).alloc p).alloc (.cells #[.pointer (some ⟨w.heap.size + 1, 0, none⟩), .pointer (some ⟨w.heap.size + 1, 1, none⟩), .pointer (some ⟨w.heap.size + 1, 2, none⟩), .pointer (some ⟨w.heap.size + 1, 5, none⟩), .pointer (some ⟨w.heap.size + 1, 6, none⟩)] 71)) (w.heap.size + 1 + 1) (w.heap.size + 1) := by
  refine ⟨fun k hk => ?_, by simp⟩
  have e : w.heap.size + 1 + 1 = ((w.alloc o).alloc p).heap.size := by simp
  rw [e, cell_new]
  match k, hk with
  | 0, _ => rfl
  | 1, _ => rfl
  | 2, _ => rfl
  | 3, _ => rfl
  | 4, _ => rfl
structure PtrsT (w : World) (s b : Nat) : Prop where
  c : ∀ k, k < 3 → w.cell? ⟨s, k, none⟩ = some (.pointer (some ⟨b, offT k, none⟩))
  at_ : s < w.heap.size
theorem ptrsT_new (w : World) (b : Nat) : PtrsT (w.alloc (.cells #[.pointer (some ⟨b, 3, none⟩), .pointer (some ⟨b, 4, none⟩), .pointer (some ⟨b, 7, none⟩)] 73)) w.heap.size b := by
  refine ⟨fun k hk => ?_, by simp⟩
  rw [cell_new]
  match k, hk with
  | 0, _ => rfl
  | 1, _ => rfl
  | 2, _ => rfl
theorem PtrsN.set {w : World} {s b : Nat} (h : PtrsN w s b) {c : Nat} (hne : s ≠ c) (i : Nat) (v : Value) : PtrsN (w.setCell ⟨c, i, none⟩ v) s b :=
  ⟨fun k hk => by rw [← h.c k hk]; simp [World.cell?, Below.heap_setCell _ ⟨c, i, none⟩ _ _ hne], by simpa [World.setCell] using h.at_⟩
theorem PtrsT.set {w : World} {s b : Nat} (h : PtrsT w s b) {c : Nat} (hne : s ≠ c) (i : Nat) (v : Value) : PtrsT (w.setCell ⟨c, i, none⟩ v) s b :=
  ⟨fun k hk => by rw [← h.c k hk]; simp [World.cell?, Below.heap_setCell _ ⟨c, i, none⟩ _ _ hne], by simpa [World.setCell] using h.at_⟩

def spV (x : M.Sp) : Value := .agg (spC x)
theorem load_sp {x : M.Sp} {w : World} {g : Nat} (h : SpIn x w g) : (loadVar 29 ⟨g, 0, none⟩).run Try.prog w = .ok (.agg (spC x)) w :=
  run_loadVar_row w g _ _ (spC x) (0, 0) _ h Try.underlying29 rfl (by kernel_rfl)
theorem ret_sp1 {fn : Func} {p : Tmp} (hr : fn.results = #[.cell p 29]) (tmps : Array Value) (w : World) (g : Nat) (x : M.Sp) (hp : tmps.getD p undef = .pointer (some ⟨g, 0, none⟩)) (hg : SpIn x w g) :
    (results fn tmps).run Try.prog w = .ok (spV x) w := by
  have hp' : tmps[p]?.getD undef = .pointer (some ⟨g, 0, none⟩) := by simpa using hp
  simp [results, hr, hp', asAddr, load_sp hg, spV]
theorem ret_sp2 {fn : Func} {p q : Tmp} (hr : fn.results = #[.cell p 29, .tmp q]) (tmps : Array Value) (w : World) (g : Nat) (x : M.Sp) (hp : tmps.getD p undef = .pointer (some ⟨g, 0, none⟩)) (hg : SpIn x w g) :
    (results fn tmps).run Try.prog w = .ok (.tuple #[spV x, tmps.getD q undef]) w := by
  have hp' : tmps[p]?.getD undef = .pointer (some ⟨g, 0, none⟩) := by simpa using hp
  simp [results, hr, hp', asAddr, load_sp hg, spV]
theorem ret_sp3 {fn : Func} {p q r : Tmp} (hr : fn.results = #[.cell p 29, .tmp q, .tmp r]) (tmps : Array Value) (w : World) (g : Nat) (x : M.Sp) (hp : tmps.getD p undef = .pointer (some ⟨g, 0, none⟩)) (hg : SpIn x w g) :
    (results fn tmps).run Try.prog w = .ok (.tuple #[spV x, tmps.getD q undef, tmps.getD r undef]) w := by
  have hp' : tmps[p]?.getD undef = .pointer (some ⟨g, 0, none⟩) := by simpa using hp
  simp [results, hr, hp', asAddr, load_sp hg, spV]
def decX (r : Option M.Sp) : M.Sp := match r with
  | some x => x
  | none => M.sp0
def decE (r : Option M.Sp) : Int := match r with
  | some _ => 0
  | none => 30

set_option maxHeartbeats 1000000 in
set_option maxRecDepth 100000 in
theorem decode_any (l : List UInt8) (hl : l.length ≤ 140737488351232) (w : World) :
    Calls Try.prog 34 #[.string (S l)] w fun e w' => e = .returned (.tuple #[spV (decX (M.dec l)), .int .i64 (decE (M.dec l))]) ∧ Below w.heap.size w w' := by
  go_enter Try.func34, Try.ntmps34
  go_wp2_with fail
  go_loopw [5, 6, 18] (fun p q i wr => ∃ (k : Nat) (ns : List Nat) (a : Nat), k ≤ 5 ∧ p = .int .i64 a ∧ q = .bool true ∧ i = .int .i64 k ∧ M.takeN k l 0 = some (ns, a) ∧ SpIn M.sp0 wr w.heap.size ∧ SpIn (M.spOf ns []) wr (w.heap.size + 1) ∧ PtrsN wr (w.heap.size + 1 + 1) (w.heap.size + 1) ∧ Below w.heap.size w wr) (fun _ _ i _ => 5 - (intOf i).toNat)
  case atStart =>
    refine ⟨0, [], 0, by omega, rfl, rfl, rfl, rfl, ?_, ?_, ?_, ?_⟩
    · exact ((spIn_new w).more _).more _
    · exact (spIn_new2 w _).more _
    · exact ptrsN_new w _ _
    · exact (((Below.refl _ _).alloc (Nat.le_refl _) _).alloc (by simp) _).alloc (by simp; omega) _
  case round =>
    obtain ⟨k, ns, a, hk, rfl, rfl, rfl, ht, hR, hX, hP, hb⟩ := hrel
    have HT := Lib.hid ht
    have HR := Lib.hid hR
    have HX := Lib.hid hX
    have HP := Lib.hid hP
    have hlen := M.takeN_len ht
    clear ht hR hX hP
    have hsz := HR.out.lt
    have hal := hlen.2.1 (by omega)
    have HL := Lib.hid hlen
    clear hlen
    by_cases hk5 : k < 5
    · have hck := HP.out.c k hk5
      have cg := fun W => get_any l a W (by omega)
      have hcx := spIn_numAt hk5 HL.out.1 HX.out
      have hfx := HX.out.free (offN k)
      cases hg : M.gets l a with
      | none =>
        rw [hg] at cg
        simp only [tri] at cg
        have CG := Lib.hid cg
        have HG := Lib.hid hg
        clear cg hg
        go_wp2_with fail
        with_reducible refine (CG.out _).mono ?_
        rintro e w2 ⟨rfl, rfl⟩
        have hd : M.dec l = none := by
          have h1 : M.takeN (k + 1) l 0 = none := by simp only [M.takeN, HT.out, HG.out]
          have h5 := M.takeN_none (m := 5) h1 (by omega)
          simp only [M.dec, h5]
        have HD := Lib.hid hd
        clear hd
        have hh := HR.out.other (c := w.heap.size + 1) (by omega) (offN k) (.int .i64 0)
        have HH := Lib.hid hh
        clear hh
        go_wp2_with (refine wpList_store_row rfl 29 _ _ rfl w.heap.size _ rfl rfl 29 (spC M.sp0) HH.out ?_ rfl (spC_one M.sp0) ?_; kernel_rfl)
        try simp only [Exit.inBlock, Exit.then]
        refine bodyPost_ret (ret_sp2 rfl _ _ w.heap.size M.sp0 rfl (SpIn.row HH.out _)) rfl ⟨by rw [HD.out]; rfl, below_setRow (hb.setCell (by simp) _) (Nat.le_refl _) _⟩
      | some r =>
        obtain ⟨n, c⟩ := r
        rw [hg] at cg
        simp only [tri] at cg
        have CG := Lib.hid cg
        have HG := Lib.hid hg
        clear cg hg
        go_wp2_with fail
        with_reducible refine (CG.out _).mono ?_
        rintro e w2 ⟨rfl, rfl⟩
        go_wp2_with fail
        go_roundw
        case rel =>
          refine ⟨k + 1, ns ++ [n], c, by omega, rfl, rfl, by go_num, ?_, HR.out.other (by omega) _ _, spIn_num hk5 HL.out.1 HX.out n, HP.out.set (by omega) _ _, hb.setCell (by simp) _⟩
          simp only [M.takeN, HT.out, HG.out]
        case measure => simp [intOf]; omega
    · obtain ⟨n1, _, n3⟩ := HL.out
      have ht5 : M.takeN 5 l 0 = some (ns, a) := by rw [← HT.out, show k = 5 from by omega]
      have HT5 := Lib.hid ht5
      have hne : wr.heap.size ≠ w.heap.size + 1 := by have := HX.out.lt; omega
      have hxlt := HX.out.lt
      clear ht5 n1 n3
      go_wp2_with fail
      have hpt := ptrsT_new wr (w.heap.size + 1)
      have HPT := Lib.hid hpt
      have hR2 := HR.out.more (.cells #[.pointer (some ⟨w.heap.size + 1, 3, none⟩), .pointer (some ⟨w.heap.size + 1, 4, none⟩), .pointer (some ⟨w.heap.size + 1, 7, none⟩)] 73)
      have hX2 := HX.out.more (.cells #[.pointer (some ⟨w.heap.size + 1, 3, none⟩), .pointer (some ⟨w.heap.size + 1, 4, none⟩), .pointer (some ⟨w.heap.size + 1, 7, none⟩)] 73)
      have HR2 := Lib.hid hR2
      have HX2 := Lib.hid hX2
      clear hpt hR2 hX2
      go_loopw [5, 6, 40] (fun p q i wq => ∃ (j : Nat) (ts : List (List UInt8)) (c : Nat), j ≤ 3 ∧ p = .int .i64 c ∧ q = .bool true ∧ i = .int .i64 j ∧ M.takeT j l a = some (ts, c) ∧ SpIn M.sp0 wq w.heap.size ∧ SpIn (M.spOf ns ts) wq (w.heap.size + 1) ∧ PtrsT wq wr.heap.size (w.heap.size + 1) ∧ Below w.heap.size w wq) (fun _ _ i _ => 3 - (intOf i).toNat)
      case atStart => exact ⟨0, [], a, by omega, rfl, rfl, rfl, rfl, HR2.out, HX2.out, HPT.out, hb.alloc hb.size _⟩
      case round =>
        obtain ⟨j, ts, c, hj, rfl, rfl, rfl, ht, hR, hX, hP, hb2⟩ := hrel
        have HU := Lib.hid ht
        have HR := Lib.hid hR
        have HX := Lib.hid hX
        have HP := Lib.hid hP
        have hlen := M.takeT_len ht
        clear ht hR hX hP HR2 HX2 HPT
        have HL := Lib.hid hlen
        clear hlen
        have hsz := HR.out.lt
        by_cases hj3 : j < 3
        · have hck := HP.out.c j hj3
          have cg := fun W => getText_any l c W (by omega)
          have hcx := spIn_txtAt hj3 HL.out.1 HX.out
          have hfx := HX.out.free (offT j)
          cases hg : M.getTs l c with
          | none =>
            rw [hg] at cg
            simp only [triT] at cg
            have CG := Lib.hid cg
            have hd : M.dec l = none := by
              have h1 : M.takeT (j + 1) l a = none := by simp only [M.takeT, HU.out, hg]
              have h5 := M.takeT_none (m := 3) h1 (by omega)
              simp only [M.dec, HT5.out, h5]
            have HD := Lib.hid hd
            clear hd cg hg
            go_wp2_with fail
            with_reducible refine (CG.out _).mono ?_
            rintro e w2 ⟨rfl, rfl⟩
            have hh := HR.out.other (c := w.heap.size + 1) (by omega) (offT j) (.string (S []))
            have HH := Lib.hid hh
            clear hh
            go_wp2_with (refine wpList_store_row rfl 29 _ _ rfl w.heap.size _ rfl rfl 29 (spC M.sp0) HH.out ?_ rfl (spC_one M.sp0) ?_; kernel_rfl)
            try simp only [Exit.inBlock, Exit.then]
            refine bodyPost_ret (ret_sp2 rfl _ _ w.heap.size M.sp0 rfl (SpIn.row HH.out _)) rfl ⟨by rw [HD.out]; rfl, below_setRow (hb2.setCell (by simp) _) (Nat.le_refl _) _⟩
          | some r =>
            obtain ⟨n, d⟩ := r
            rw [hg] at cg
            simp only [triT] at cg
            have CG := Lib.hid cg
            have HG := Lib.hid hg
            clear cg hg
            go_wp2_with fail
            with_reducible refine (CG.out _).mono ?_
            rintro e w2 ⟨rfl, rfl⟩
            go_wp2_with fail
            go_roundw
            case rel =>
              refine ⟨j + 1, ts ++ [n], d, by omega, rfl, rfl, by go_num, ?_, HR.out.other (by omega) _ _, spIn_txt hj3 HL.out.1 HX.out n, HP.out.set (by omega) _ _, hb2.setCell (by simp) _⟩
              simp only [M.takeT, HU.out, HG.out]
            case measure => simp [intOf]; omega
        · have ht3 : M.takeT 3 l a = some (ts, c) := by rw [← HU.out, show j = 3 from by omega]
          have hfit := spOf_fits ns ts l hl (M.takeN_len HT5.out).2.2 HL.out.2
          have hdec : M.dec l = if c = l.length ∧ M.mayB (M.spOf ns ts) = true then some (M.spOf ns ts) else none := by simp only [M.dec, HT5.out, ht3]
          have hX3 := HX.out
          generalize M.spOf ns ts = x at *
          have HDEC := Lib.hid hdec
          have HXX := Lib.hid hX3
          clear hX3 hdec ht3
          by_cases hc : c = l.length
          · subst hc
            have cc := fun W => check_any x hfit W
            cases hm : M.mayB x with
            | false =>
              rw [hm] at cc
              have CC := Lib.hid cc
              have hd : M.dec l = none := by rw [HDEC.out, if_neg (by rw [hm]; simp)]
              have HD := Lib.hid hd
              clear cc hd
              obtain ⟨c0, c1, c2, c3, c4, c5, c6, c7, _⟩ := HXX.out.at_
              go_wp2_with fail
              with_reducible refine (CC.out _).mono ?_
              rintro e w3 ⟨rfl, hb3⟩
              clear c0 c1 c2 c3 c4 c5 c6 c7
              have hR3 := HR.out.below hb3
              have HR3 := Lib.hid hR3
              clear hR3
              simp only [M.errOf]
              go_wp2_with (refine wpList_store_row rfl 29 _ _ rfl w.heap.size _ rfl rfl 29 (spC M.sp0) HR3.out ?_ rfl (spC_one M.sp0) ?_; kernel_rfl)
              try simp only [Exit.inBlock, Exit.then]
              refine bodyPost_ret (ret_sp2 rfl _ _ w.heap.size M.sp0 rfl (SpIn.row HR3.out _)) rfl ⟨by rw [HD.out]; rfl, below_setRow (below_step hb2 hb3) (Nat.le_refl _) _⟩
            | true =>
              rw [hm] at cc
              have CC := Lib.hid cc
              have hd : M.dec l = some x := by rw [HDEC.out, if_pos ⟨rfl, hm⟩]
              have HD := Lib.hid hd
              clear cc hd
              obtain ⟨c0, c1, c2, c3, c4, c5, c6, c7, _⟩ := HXX.out.at_
              go_wp2_with fail
              with_reducible refine (CC.out _).mono ?_
              rintro e w3 ⟨rfl, hb3⟩
              clear c0 c1 c2 c3 c4 c5 c6 c7
              have hR3 := HR.out.below hb3
              have HR3 := Lib.hid hR3
              have hh3 : w3.heap[w.heap.size + 1]? = some (.cells #[.int .i64 x.trace, .int .i64 x.id, .int .i64 x.parent, .string (S x.svc), .string (S x.host), .int .i64 x.start, .int .i64 x.dur, .string (S x.note)] 29 (0, 0)) := HXX.out.below hb3
              have HH3 := Lib.hid hh3
              clear hR3 hh3
              simp only [M.errOf]
              go_wp2_with (first | (refine wpList_load_row rfl 29 _ rfl (w.heap.size + 1) rfl 29 _ (0, 0) _ HH3.out Try.underlying29 rfl ?_ ?_; kernel_rfl) | (refine wpList_store_row rfl 29 _ _ rfl w.heap.size _ rfl rfl 29 (spC M.sp0) HR3.out ?_ rfl (spC_one x) ?_; kernel_rfl))
              try simp only [Exit.inBlock, Exit.then]
              refine bodyPost_ret (ret_sp2 rfl _ _ w.heap.size x rfl (SpIn.row HR3.out _)) rfl ⟨by rw [HD.out]; rfl, below_setRow (below_step hb2 hb3) (Nat.le_refl _) _⟩
          · have hd : M.dec l = none := by rw [HDEC.out, if_neg (fun h => hc h.1)]
            have HD := Lib.hid hd
            have hci : ¬ ((c : Int) = (l.length : Int)) := by omega
            clear hd
            go_wp2_with (refine wpList_store_row rfl 29 _ _ rfl w.heap.size _ rfl rfl 29 (spC M.sp0) HR.out ?_ rfl (spC_one M.sp0) ?_; kernel_rfl)
            try simp only [Exit.inBlock, Exit.then]
            refine bodyPost_ret (ret_sp2 rfl _ _ w.heap.size M.sp0 rfl (SpIn.row HR.out _)) rfl ⟨by rw [HD.out]; rfl, below_setRow hb2 (Nat.le_refl _) _⟩

end Go.Proofs.Ytblgfhljaafmhaa
