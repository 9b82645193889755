/- Layer 5: the document's disk, by contracts: what it is; the calls that only tell. -/
import Derived.Test.YtekmnpmeienhhaaDiskFa
namespace Go.Proofs.Ytekmnpmeienhhaa
set_option linter.unusedVariables false
open Go Go.RowKit Go.Maps

def fl3 (f : Dk.Fl) : List Value := [.string (S f.name), .string (S f.dat), .int .i64 f.safe]
def flsV (L : List Dk.Fl) : List Value := L.flatMap fl3
theorem flsV_nil : flsV [] = [] := rfl
theorem flsV_cons (f : Dk.Fl) (L : List Dk.Fl) : flsV (f :: L) = fl3 f ++ flsV L := rfl
theorem flsV_app (a b : List Dk.Fl) : flsV (a ++ b) = flsV a ++ flsV b := List.flatMap_append
theorem flsV_len : ∀ L : List Dk.Fl, (flsV L).length = L.length * 3
  | [] => rfl
  | f :: L => by rw [flsV_cons, List.length_append, flsV_len L, List.length_cons]; simp [fl3]; omega
theorem flsV_take (L : List Dk.Fl) (k : Nat) (hk : k ≤ L.length) : (flsV L).take (k * 3) = flsV (L.take k) := by
  have h := flsV_app (L.take k) (L.drop k)
  rw [List.take_append_drop] at h
  rw [h, List.take_left' (by rw [flsV_len, List.length_take]; rw [Nat.min_eq_left hk])]
theorem flsV_drop (L : List Dk.Fl) (k : Nat) (hk : k ≤ L.length) : (flsV L).drop (k * 3) = flsV (L.drop k) := by
  have h := flsV_app (L.take k) (L.drop k)
  rw [List.take_append_drop] at h
  rw [h, List.drop_left' (by rw [flsV_len, List.length_take]; rw [Nat.min_eq_left hk])]
theorem flsV_at (L : List Dk.Fl) (k : Nat) (hk : k < L.length) (j : Nat) (hj : j < 3) : (flsV L)[k * 3 + j]? = (fl3 L[k])[j]? := by
  have h := flsV_app (L.take k) (L.drop k)
  rw [List.take_append_drop, List.drop_eq_getElem_cons hk, flsV_cons] at h
  have hl : (flsV (L.take k)).length = k * 3 := by rw [flsV_len, List.length_take, Nat.min_eq_left (Nat.le_of_lt hk)]
  rw [h, List.getElem?_append_right (by omega), hl, show k * 3 + j - k * 3 = j from by omega, List.getElem?_append_left (by simp [fl3]; omega)]
theorem flsV_set (L : List Dk.Fl) (k : Nat) (hk : k < L.length) (j : Nat) (hj : j < 3) (v : Value) (f : Dk.Fl) (hf : (fl3 L[k]).set j v = fl3 f) : (flsV L).set (k * 3 + j) v = flsV (L.set k f) := by
  have h := flsV_app (L.take k) (L.drop k)
  rw [List.take_append_drop, List.drop_eq_getElem_cons hk, flsV_cons] at h
  have hl : (flsV (L.take k)).length = k * 3 := by rw [flsV_len, List.length_take, Nat.min_eq_left (Nat.le_of_lt hk)]
  rw [h, List.set_append_right _ _ (by omega), hl, show k * 3 + j - k * 3 = j from by omega, List.set_append_left _ _ (by simp [fl3]; omega), hf]
  rw [List.set_eq_take_append_cons_drop, if_pos hk, flsV_app, flsV_cons]
/-- What the document's disk has beside what it is. -/
structure Rc where
  a : Option Addr
  c : Nat
  n : Int
  ka : Option Addr
  kc : Nat
  ks : List Int
def rfC (c : Rc) (D : Dk.St) : Array Value := #[.int .i64 D.room, .int .i64 D.starts, .bool (!D.up), .bool D.set.isSome, .slice c.a D.L.length c.c, .int .i64 c.n, .slice c.ka c.ks.length c.kc]
structure RfIn (B r : Nat) (c : Rc) (D : Dk.St) (w : World) : Prop where
  box : Bk (rfC c D) 91 w r
  row : w.ownsRow B 95 3 (.slice c.a D.L.length c.c) D.L.length (flsV D.L)
  krow : w.ownsRow B 3 1 (.slice c.ka c.ks.length c.kc) c.ks.length (ints5 c.ks)
  set : ∀ p, D.set = some p → c.n = (p.1 : Int) ∧ c.ks = p.2
  ok : Dk.OkL D.L
  few : D.L.length ≤ 1024
  small : Dk.size D.L ≤ 1048576
/-- Its blocks. -/
def Fr (r : Nat) (c : Rc) (b : Nat) : Prop := b = r ∨ (∃ a, c.a = some a ∧ b = a.block) ∨ (∃ a, c.ka = some a ∧ b = a.block)
theorem row_file5 {w : World} {B : Nat} {ao : Option Addr} {n cap : Nat} {L : List Dk.Fl} (h : w.ownsRow B 95 3 (.slice ao n cap) n (flsV L)) (hn : L.length = n) {k : Nat} (hk : k < L.length) :
    ∃ g, ao = some ⟨g, 0, none⟩ ∧ w.cell? ⟨g, k * 3, none⟩ = some (.string (S L[k].name)) ∧ w.cell? ⟨g, k * 3 + 1, none⟩ = some (.string (S L[k].dat)) ∧ w.cell? ⟨g, k * 3 + 2, none⟩ = some (.int .i64 L[k].safe) := by
  rcases h.2 with ⟨e1, e2⟩ | ⟨g, cap', cur, e1, hB, hg, _⟩
  · omega
  · injection e1 with q1 q2 q3
    subst q1
    refine ⟨g, rfl, ?_, ?_, ?_⟩
    · have := h.cells (g := g) rfl (k * 3) _ (by rw [show k * 3 = k * 3 + 0 from rfl, flsV_at L k hk 0 (by decide)]; rfl)
      rw [Addr.add_lit, Nat.zero_add] at this
      exact this
    · have := h.cells (g := g) rfl (k * 3 + 1) _ (by rw [flsV_at L k hk 1 (by decide)]; rfl)
      rw [Addr.add_lit, Nat.zero_add] at this
      exact this
    · have := h.cells (g := g) rfl (k * 3 + 2) _ (by rw [flsV_at L k hk 2 (by decide)]; rfl)
      rw [Addr.add_lit, Nat.zero_add] at this
      exact this
section
variable {B r : Nat} {c : Rc} {D : Dk.St} {w w' : World} {A : Nat → Prop}
theorem RfIn.wr (h : RfIn B r c D w) (hw : Wr A w w') (hA : ∀ b, Fr r c b → ¬ A b) : RfIn B r c D w' := by
  refine ⟨h.box.wr hw (hA r (.inl rfl)), row_wr h.row hw (fun q hq => ?_), row_wr h.krow hw (fun q hq => ?_), h.set, h.ok, h.few, h.small⟩
  · cases hc : c.a with
    | none => rw [hc] at hq; cases hq
    | some a =>
      rw [hc] at hq
      simp only [Value.ownBlock, Option.some.injEq] at hq
      exact hA q (.inr (.inl ⟨a, hc, hq.symm⟩))
  · cases hc : c.ka with
    | none => rw [hc] at hq; cases hq
    | some a =>
      rw [hc] at hq
      simp only [Value.ownBlock, Option.some.injEq] at hq
      exact hA q (.inr (.inr ⟨a, hc, hq.symm⟩))
theorem RfIn.below (h : RfIn B r c D w) (hb : Below w.heap.size w w') : RfIn B r c D w' := h.wr (A := fun _ => False) (wr_below hb) (fun _ _ q => q)
theorem RfIn.fr (h : RfIn B r c D w) : ∀ b, Fr r c b → (b = r ∨ B ≤ b) ∧ b < w.heap.size := by
  rintro b (rfl | ⟨a, ha, rfl⟩ | ⟨a, ha, rfl⟩)
  · exact ⟨.inl rfl, h.box.lt⟩
  · have := h.row.lt a.block (by rw [ha]; rfl); exact ⟨.inr this.1, this.2⟩
  · have := h.krow.lt a.block (by rw [ha]; rfl); exact ⟨.inr this.1, this.2⟩
theorem RfIn.s (h : RfIn B r c D w) : w.cell? ⟨r, 0, none⟩ = some (.int .i64 D.room) ∧ w.cell? ⟨r, 1, none⟩ = some (.int .i64 D.starts) ∧ w.cell? ⟨r, 2, none⟩ = some (.bool (!D.up)) ∧ w.cell? ⟨r, 3, none⟩ = some (.bool D.set.isSome) ∧ w.cell? ⟨r, 4, none⟩ = some (.slice c.a D.L.length c.c) ∧ w.cell? ⟨r, 5, none⟩ = some (.int .i64 c.n) ∧ w.cell? ⟨r, 6, none⟩ = some (.slice c.ka c.ks.length c.kc) :=
  ⟨h.box.cell 0, h.box.cell 1, h.box.cell 2, h.box.cell 3, h.box.cell 4, h.box.cell 5, h.box.cell 6⟩
def AtR5 (nm : List UInt8) (L : List Dk.Fl) (w : World) (e : Ending) (w' : World) : Prop := ((Dk.has nm L = false ∧ e = .returned (.int .i64 (-1))) ∨ ∃ k, ∃ h : k < L.length, (L[k]'h).name = nm ∧ e = .returned (.int .i64 k)) ∧ w = w'
theorem has_take5 {nm : List UInt8} {L : List Dk.Fl} {k : Nat} (hk : k < L.length) (h : Dk.has nm (L.take k) = false) (hne : L[k].name ≠ nm) : Dk.has nm (L.take (k + 1)) = false := by
  rw [take_snoc5 L k hk]
  unfold Dk.has at *
  rw [List.any_append, h]
  simp [hne]
set_option maxRecDepth 100000 in
theorem rAt5 (h : RfIn B r c D w) (nm : List UInt8) : Calls Try.prog 62 #[.pointer (some ⟨r, 0, none⟩), .string (S nm)] w (AtR5 nm D.L w) := by
  have HR := Lib.hid h.row
  have hfew := h.few
  obtain ⟨-, -, -, -, x4, -, -⟩ := h.s
  clear h
  go_enter Try.func62, Try.ntmps62
  go_wp2_with fail
  go_loop [5] (fun i => ∃ k : Nat, k ≤ D.L.length ∧ i = .int .i64 k ∧ Hid (Dk.has nm (D.L.take k) = false)) (fun i => D.L.length - (intOf i).toNat)
  case atStart => exact ⟨0, Nat.zero_le _, rfl, Lib.hid rfl⟩
  case round =>
    obtain ⟨k, hk, rfl, HH⟩ := hrel
    by_cases hlt : k < D.L.length
    · have d1 : decide ((k : Int) < (D.L.length : Int)) = true := by simp; omega
      have d1' : decide (k < D.L.length) = true := by simp; omega
      obtain ⟨g, hg, y0, -, -⟩ := row_file5 HR.out rfl hlt
      rw [hg] at x4
      have hi1 : (0 : Int) ≤ (k : Int) := by omega
      have hi2 : (k : Int) < (D.L.length : Int) := by omega
      by_cases he : (D.L[k]).name = nm
      · have q1 : ((D.L[k]).name == nm) = true := by simpa using he
        go_wp2_with fail
        go_ret
        exact ⟨.inr ⟨k, hlt, he, rfl⟩, rfl⟩
      · have q1 : ((D.L[k]).name == nm) = false := by simpa using he
        have HN := Lib.hid (has_take5 hlt HH.out he)
        generalize (D.L[k]).name = u at *
        clear he
        go_wp2_with fail
        go_round
        case rel => exact ⟨k + 1, by omega, by go_num, HN⟩
        case measure => simp [intOf]; omega
    · have d1 : decide ((k : Int) < (D.L.length : Int)) = false := by simp; omega
      have d1' : decide (k < D.L.length) = false := by simp; omega
      obtain rfl : k = D.L.length := by omega
      have HN := Lib.hid (show Dk.has nm D.L = false from by have := HH.out; rwa [List.take_length] at this)
      go_wp2_with fail
      go_ret
      exact ⟨.inl ⟨HN.out, rfl⟩, rfl⟩
theorem size_take5 (L : List Dk.Fl) (k : Nat) (hk : k < L.length) : Dk.size (L.take (k + 1)) = Dk.size (L.take k) + L[k].dat.length := by
  have ha : ∀ a b : List Dk.Fl, Dk.size (a ++ b) = Dk.size a + Dk.size b := fun a b => by
    induction a with
    | nil => simp [Dk.size]
    | cons f a ih => simp only [List.cons_append, Dk.size, ih]; omega
  rw [take_snoc5 L k hk, ha]
  simp [Dk.size]
theorem size_le5 (L : List Dk.Fl) (k : Nat) : Dk.size (L.take k) ≤ Dk.size L := by
  induction L generalizing k with
  | nil => simp
  | cons f L ih =>
    cases k with
    | zero => simp [Dk.size]
    | succ k => simp only [List.take_succ_cons, Dk.size]; have := ih k; omega
set_option maxRecDepth 100000 in
theorem rSize5 (h : RfIn B r c D w) : Calls Try.prog 65 #[.pointer (some ⟨r, 0, none⟩)] w fun e w' => e = .returned (.int .i64 (Dk.size D.L)) ∧ w = w' := by
  have HR := Lib.hid h.row
  have hfew := h.few
  have HZ := Lib.hid h.small
  obtain ⟨-, -, -, -, x4, -, -⟩ := h.s
  clear h
  go_enter Try.func65, Try.ntmps65
  go_wp2_with fail
  go_loop [3, 4] (fun s i => ∃ k m : Nat, k ≤ D.L.length ∧ i = .int .i64 k ∧ s = .int .i64 m ∧ Hid (m = Dk.size (D.L.take k))) (fun _ i => D.L.length - (intOf i).toNat)
  case atStart => exact ⟨0, 0, Nat.zero_le _, rfl, rfl, Lib.hid (by simp [Dk.size])⟩
  case round =>
    obtain ⟨k, m, hk, rfl, rfl, HH⟩ := hrel
    by_cases hlt : k < D.L.length
    · have d1 : decide ((k : Int) < (D.L.length : Int)) = true := by simp; omega
      have d1' : decide (k < D.L.length) = true := by simp; omega
      obtain ⟨g, hg, -, y1, -⟩ := row_file5 HR.out rfl hlt
      rw [hg] at x4
      have hi1 : (0 : Int) ≤ (k : Int) := by omega
      have hi2 : (k : Int) < (D.L.length : Int) := by omega
      have HN := Lib.hid (size_take5 D.L k hlt)
      have hb := Nat.le_trans (size_le5 D.L (k + 1)) HZ.out
      rw [HN.out, ← HH.out] at hb
      generalize (D.L[k]).dat = u at *
      go_wp2_with fail
      go_round
      case rel => exact ⟨k + 1, m + u.length, by omega, by go_num, by go_num, Lib.hid (by rw [HN.out, HH.out])⟩
      case measure => simp [intOf]; omega
    · have d1 : decide ((k : Int) < (D.L.length : Int)) = false := by simp; omega
      have d1' : decide (k < D.L.length) = false := by simp; omega
      obtain rfl : k = D.L.length := by omega
      have HN := Lib.hid (show m = Dk.size D.L from by have := HH.out; rwa [List.take_length] at this)
      go_wp2_with fail
      go_ret
      exact ⟨by rw [HN.out] <;> rfl, rfl⟩
set_option maxRecDepth 100000 in
theorem rBad5 (nm : List UInt8) (hl : nm.length ≤ 140737488351232) (w : World) : Calls Try.prog 83 #[.string (S nm)] w fun e w' => e = .returned (.bool (!Dk.named nm)) ∧ w = w' := by
  unfold Dk.named
  by_cases h1 : nm.length < 1
  · have d1 : decide ((nm.length : Int) < (1 : Int)) = true := by simp; omega
    have e1 : (!(decide (1 ≤ nm.length) && decide (nm.length ≤ 16))) = true := by rw [decide_eq_false (show ¬ 1 ≤ nm.length by omega)]; rfl
    rw [e1]
    go_enter Try.func83, Try.ntmps83
    go_wp2_with fail
    go_ret
    exact ⟨rfl, rfl⟩
  · have d1 : decide ((nm.length : Int) < (1 : Int)) = false := by simp; omega
    have e1 : (!(decide (1 ≤ nm.length) && decide (nm.length ≤ 16))) = decide ((16 : Int) < (nm.length : Int)) := by
      by_cases h2 : nm.length ≤ 16
      · rw [decide_eq_true (show 1 ≤ nm.length by omega), decide_eq_true h2, decide_eq_false (show ¬ (16 : Int) < (nm.length : Int) by omega)]; rfl
      · rw [decide_eq_true (show 1 ≤ nm.length by omega), decide_eq_false h2, decide_eq_true (show (16 : Int) < (nm.length : Int) by omega)]; rfl
    rw [e1]
    go_enter Try.func83, Try.ntmps83
    go_wp2_with fail
    go_ret
    exact ⟨rfl, rfl⟩
/-- A file's place, or why there is none to be asked. -/
def AskR5 (nm : List UInt8) (D : Dk.St) (w : World) (e : Ending) (w' : World) : Prop := ((D.up = false ∧ e = .returned (.tuple #[.int .i64 0, .int .i64 51])) ∨ (D.up = true ∧ Dk.has nm D.L = false ∧ e = .returned (.tuple #[.int .i64 0, .int .i64 4])) ∨ ∃ k, ∃ h : k < D.L.length, D.up = true ∧ (D.L[k]'h).name = nm ∧ e = .returned (.tuple #[.int .i64 k, .int .i64 0])) ∧ w = w'
set_option maxRecDepth 100000 in
theorem rAsks5 (h : RfIn B r c D w) (nm : List UInt8) : Calls Try.prog 88 #[.pointer (some ⟨r, 0, none⟩), .string (S nm)] w (AskR5 nm D w) := by
  have CA := Lib.hid (rAt5 h nm)
  have hfew := h.few
  obtain ⟨-, -, x2, -, -, -, -⟩ := h.s
  clear h
  cases hu : D.up with
  | false =>
    rw [hu] at x2
    go_enter Try.func88, Try.ntmps88
    go_wp2_with fail
    go_ret2
    exact ⟨.inl ⟨hu, rfl⟩, rfl⟩
  | true =>
    rw [hu] at x2
    go_enter Try.func88, Try.ntmps88
    go_wp2_with fail
    with_reducible refine CA.out.mono ?_
    rintro e w1 ⟨⟨hh, rfl⟩ | ⟨k, hk, he, rfl⟩, rfl⟩
    · go_wp2_with fail
      go_ret2
      exact ⟨.inr (.inl ⟨hu, hh, rfl⟩), rfl⟩
    · have d1 : decide ((k : Int) < (0 : Int)) = false := decide_eq_false (by omega)
      go_wp2_with fail
      go_ret2
      exact ⟨.inr (.inr ⟨k, hk, hu, he, rfl⟩), rfl⟩
theorem get_at5 {L : List Dk.Fl} (h : Dk.OkL L) {k : Nat} (hk : k < L.length) {nm : List UInt8} (he : L[k].name = nm) : Dk.get nm L = L[k] ∧ Dk.has nm L = true := by
  obtain ⟨q1, q2, _⟩ := Dk.at5 h hk
  rw [he] at q1 q2
  exact ⟨q1, q2⟩
set_option maxRecDepth 100000 in
theorem rRead5 (h : RfIn B r c D w) (nm : List UInt8) : Calls Try.prog 66 #[.pointer (some ⟨r, 0, none⟩), .string (S nm)] w fun e w' => e = .returned (.tuple #[.string (S (Dk.read nm D).2), .int .i64 (Dk.read nm D).1]) ∧ w = w' := by
  have CA := Lib.hid (rAsks5 h nm)
  have HO := Lib.hid h.ok
  have HR := Lib.hid h.row
  have hfew := h.few
  obtain ⟨-, -, -, -, x4, -, -⟩ := h.s
  clear h
  go_enter Try.func66, Try.ntmps66
  go_wp2_with fail
  with_reducible refine CA.out.mono ?_
  rintro e w1 ⟨⟨hu, rfl⟩ | ⟨hu, hh, rfl⟩ | ⟨k, hk, hu, he, rfl⟩, rfl⟩
  · have HD := Lib.hid (show Dk.read nm D = (51, []) from by unfold Dk.read; rw [if_pos hu])
    go_wp2_with fail
    go_ret2
    exact ⟨by rw [HD.out] <;> rfl, rfl⟩
  · have HD := Lib.hid (show Dk.read nm D = (4, []) from by unfold Dk.read; rw [if_neg (by rw [hu]; decide), if_pos hh])
    go_wp2_with fail
    go_ret2
    exact ⟨by rw [HD.out] <;> rfl, rfl⟩
  · obtain ⟨q1, q2⟩ := get_at5 HO.out hk he
    have HD := Lib.hid (show Dk.read nm D = (0, D.L[k].dat) from by unfold Dk.read; rw [if_neg (by rw [hu]; decide), if_neg (by rw [q2]; decide), q1])
    obtain ⟨g, hg, -, y1, -⟩ := row_file5 HR.out rfl hk
    rw [hg] at x4
    have hi1 : (0 : Int) ≤ (k : Int) := by omega
    have hi2 : (k : Int) < (D.L.length : Int) := by omega
    clear he q1 q2
    generalize (D.L[k]).dat = u at *
    go_wp2_with fail
    go_ret2
    exact ⟨by rw [HD.out] <;> rfl, rfl⟩
set_option maxRecDepth 100000 in
theorem rSynced5 (h : RfIn B r c D w) (nm : List UInt8) : Calls Try.prog 24 #[.pointer (some ⟨r, 0, none⟩), .string (S nm)] w fun e w' => e = .returned (.int .i64 (Dk.get nm D.L).safe) ∧ w = w' := by
  have CA := Lib.hid (rAt5 h nm)
  have HO := Lib.hid h.ok
  have HR := Lib.hid h.row
  have hfew := h.few
  obtain ⟨-, -, -, -, x4, -, -⟩ := h.s
  clear h
  go_enter Try.func24, Try.ntmps24
  go_wp2_with fail
  with_reducible refine CA.out.mono ?_
  rintro e w1 ⟨⟨hh, rfl⟩ | ⟨k, hk, he, rfl⟩, rfl⟩
  · have HD := Lib.hid (show (Dk.get nm D.L).safe = 0 from by rw [Dk.get_none hh]; rfl)
    go_wp2_with fail
    go_ret
    exact ⟨by rw [HD.out]; rfl, rfl⟩
  · obtain ⟨q1, q2⟩ := get_at5 HO.out hk he
    have HD := Lib.hid (show Dk.get nm D.L = D.L[k] from q1)
    obtain ⟨g, hg, -, -, y2⟩ := row_file5 HR.out rfl hk
    rw [hg] at x4
    have hi1 : (0 : Int) ≤ (k : Int) := by omega
    have hi2 : (k : Int) < (D.L.length : Int) := by omega
    have d1 : decide ((k : Int) < (0 : Int)) = false := decide_eq_false (by omega)
    clear he q1 q2
    generalize D.L[k] = u at *
    go_wp2_with fail
    go_ret
    exact ⟨by rw [HD.out] <;> rfl, rfl⟩
end

end Go.Proofs.Ytekmnpmeienhhaa
