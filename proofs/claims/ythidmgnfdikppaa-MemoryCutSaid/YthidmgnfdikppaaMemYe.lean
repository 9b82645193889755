/- Layer 15: laid; the document's Join and Cut, by contracts. -/
import Derived.Test.YthidmgnfdikppaaMemYd
import Derived.Test.YthidmgnfdikppaaMemXo
namespace Go.Proofs.Ythidmgnfdikppaa
set_option linter.unusedVariables false
set_option linter.unusedSimpArgs false
open Go Go.RowKit
attribute [local go_sem ↓] run_index_S
attribute [local go_sem] S_append S_extract

def LaidR (L' : List M.Cl) (w : World) (e : Ending) (w' : World) : Prop := ∃ b rb, e = .returned (.tuple #[.pointer (some ⟨b, 0, none⟩), .pointer (some ⟨rb, 0, none⟩)]) ∧ Pl w.heap.size b rb L' L' w' ∧ Below w.heap.size w w'
set_option maxHeartbeats 4000000 in
set_option maxRecDepth 100000 in
theorem laid15_any (ao : Option Addr) (cap : Nat) (L : List M.Cl) (w : World) (h : ClsAt w ao L) (hok : ∀ c, c ∈ L → ClOk c) (hn : L.length ≤ 1000) :
    Calls Try.prog 59 #[.slice ao L.length cap] w (LaidR (M.putsL [] L) w) := by
  have CN := Lib.hid (new15_any w)
  have HC := Lib.hid h
  have HOK := Lib.hid hok
  clear h hok
  go_enter Try.func59, Try.ntmps59
  go_wp2_with fail
  with_reducible refine (CN.out).mono ?_
  rintro e w1 ⟨rfl, hw1⟩
  have hsz : w1.heap.size = w.heap.size + 1 := by rw [hw1, szA]
  have hp := pl_new w
  rw [← hw1, ← hsz] at hp
  have HB := Lib.hid (show Below w.heap.size w (w1.alloc (.cells #[.slice none 0 0] 78)) from by rw [hw1]; exact ((Below.refl _ _).alloc (Nat.le_refl _) _).alloc (by rw [szA]; omega) _)
  obtain ⟨rb, hrb⟩ : ∃ x, x = w1.heap.size := ⟨_, rfl⟩
  obtain ⟨b, hb⟩ : ∃ x, x = w.heap.size := ⟨_, rfl⟩
  have HP := Lib.hid (show Pl w.heap.size b rb [] [] (w1.alloc (.cells #[.slice none 0 0] 78)) from by rw [hb, hrb]; exact hp)
  clear hp hw1 hsz CN
  go_wp2_with fail
  rw [← hrb, ← hb]
  clear hrb hb
  go_loopw [6] (fun v6 wr => ∃ (i : Nat), i ≤ L.length ∧ v6 = .int .i64 i ∧ Hid (Pl w.heap.size b rb (M.putsL [] (L.take i)) (M.putsL [] (L.take i)) wr) ∧ Hid (Below w.heap.size w wr)) (fun v _ => L.length - (intOf v).toNat)
  case atStart => exact ⟨0, Nat.zero_le _, rfl, HP, HB⟩
  case round =>
    clear HP HB
    obtain ⟨i, hi, rfl, HP, HB⟩ := hrel
    by_cases hlt : i < L.length
    · have d1 : decide ((i : Int) < (L.length : Int)) = true := by simp; omega
      have d2 : decide (i < L.length) = true := by simp; omega
      have hii : (i : Int) < (L.length : Int) := by omega
      obtain ⟨g, o, rfl, hcw⟩ := HC.out.off i hlt
      have HCW := Lib.hid hcw
      obtain ⟨y0, y1, y2⟩ := hcw.below HB.out
      have HSN := Lib.hid (M.puts_snoc [] hlt)
      have HLN := Lib.hid (show (M.putsL [] (L.take i)).length < 50000 from by
        have h1 := M.puts_len (L.take i) []
        rw [List.length_take] at h1
        simp at h1
        omega)
      have HCK := Lib.hid (HOK.out _ (M.getD_memC hlt))
      generalize hcc : L.getD i M.cl0 = c at *
      clear hcw hcc
      generalize M.putsL [] (L.take i) = A at *
      have CP1 := Lib.hid (HP.out.mput c HCK.out HLN.out)
      generalize (if M.mayC c = true then (0 : Int) else 2) = rv1 at CP1
      unfold PlR clA at CP1
      go_wp2_with fail
      with_reducible refine (CP1.out).mono ?_
      rintro e w5 ⟨rfl, hp, hb⟩
      replace HP := Lib.hid hp
      replace HB := Lib.hid (HB.out.trans hb)
      clear hp hb CP1 y0 y1 y2
      obtain ⟨y0, y1, y2⟩ := HCW.out.below HB.out
      have CP2 := Lib.hid (HP.out.rput c HCK.out (by have := HLN.out; omega))
      generalize (if M.mayC c = true then (0 : Int) else 2) = rv2 at CP2
      unfold PlR clA at CP2
      go_wp2_with fail
      with_reducible refine (CP2.out).mono ?_
      rintro e w6 ⟨rfl, hp, hb⟩
      replace HP := Lib.hid hp
      replace HB := Lib.hid (HB.out.trans hb)
      rw [← HSN.out] at HP
      clear hp hb CP2 y0 y1 y2
      go_wp2_with fail
      go_roundw
      case rel => exact ⟨i + 1, by omega, by go_num, HP, HB⟩
      case measure => simp [intOf]; omega
    · obtain rfl : i = L.length := by omega
      have d1 : decide ((L.length : Int) < (L.length : Int)) = false := by simp
      have d2 : decide (L.length < L.length) = false := by simp
      rw [List.take_length] at HP
      go_wp2_with fail
      go_ret2
      exact ⟨b, rb, rfl, HP.out, HB.out⟩
theorem M.puts_may : ∀ (L : List M.Cl) {A : List M.Cl}, (∀ c, c ∈ A → M.mayC c = true) → ∀ c, c ∈ M.putsL A L → M.mayC c = true
  | [], _, hA => hA
  | x :: L, A, hA => M.puts_may L (A := M.putL x A) (fun c hc => by
    unfold M.putL at hc
    split at hc
    · rename_i hm
      rcases M.insC_mem hc with rfl | hc
      · exact hm
      · exact hA c hc
    · exact hA c hc)
theorem M.puts_join : ∀ (b : List M.Cl) {a : List M.Cl}, (∀ c, c ∈ b → M.mayC c = true) → M.putsL a b = M.joinL a b
  | [], _, _ => rfl
  | c :: b, a, h => by
    show M.putsL (M.putL c a) b = M.joinL (M.insC c a) b
    rw [M.putL, if_pos (h c (by simp))]
    exact M.puts_join b (fun x hx => h x (by simp [hx]))
theorem ownC_le15 {B : Nat} {w : World} {ao : Option Addr} {n cap : Nat} {L : List M.Cl} (h : w.ownsRow B 38 3 (.slice ao n cap) n (cls L)) : n ≤ cap ∧ (¬ cap = n → ∃ g off, ao = some ⟨g, off, none⟩) := by
  rcases h.2 with ⟨e, e2⟩ | ⟨g, cap', cur, e, _, _, hc, _⟩
  · injection e with e1 e3 e4
    subst e4
    exact ⟨by omega, fun h => absurd e2.symm h⟩
  · injection e with e1 e2 e3
    subst e3
    exact ⟨hc, fun _ => ⟨g, 0, e1⟩⟩
def RJoinR (L' : List M.Cl) (w : World) (e : Ending) (w' : World) : Prop := ∃ rj ao cap, e = .returned (.pointer (some ⟨rj, 0, none⟩)) ∧ RefM rj ao cap L' w' ∧ w.heap.size ≤ rj ∧ (∀ a, ao = some a → w.heap.size ≤ a.block ∧ a.block < w'.heap.size) ∧ Below w.heap.size w w'
set_option maxHeartbeats 4000000 in
set_option maxRecDepth 100000 in
theorem refJoin15_any (ra rb : Nat) (aA aB : Option Addr) (cA cB : Nat) (A K : List M.Cl) (w : World) (ha : RefM ra aA cA A w) (hb : RefM rb aB cB K w) (hok : ∀ c, c ∈ K → ClOk c) (hn : A.length + K.length ≤ 10000) :
    Calls Try.prog 63 #[.pointer (some ⟨ra, 0, none⟩), .pointer (some ⟨rb, 0, none⟩)] w (RJoinR (M.putsL A K) w) := by
  obtain ⟨i0, z0, hi0, hz0, hz1, hz2, hz3⟩ := infoCl_parts
  have hal := (Below.refl w.heap.size w).alloc (Nat.le_refl _) (.cells #[] 38)
  have HA1 := Lib.hid hal
  have m0 := (ha.below hal).row.cell 0
  have HCA := Lib.hid (ha.below hal).cls
  have HKb := Lib.hid hb
  have HOK := Lib.hid hok
  have HOo := Lib.hid (World.ownsRow_made (base := w.heap.size) (e := 38) (size := 3) w #[] 0 (Nat.le_refl _) (Nat.zero_le _) rfl)
  clear ha hb hok hal
  go_enter Try.func63, Try.ntmps63
  go_wp2_with (at_builtin; refine wpList_append_cls_at rfl _ _ 22 rfl w.heap.size i0 z0 Try.underlying22 hi0 hz0 hz1 hz2 hz3 (.slice (some ⟨w.heap.size, 0, none⟩) 0 0) 0 [] rfl HOo.out aA cA A rfl HCA.out ?c2 ?c3 ?_)
  case c2 => omega
  case c3 => exact HA1.out.size
  intro v' w6 ho6 hg6 hat6
  obtain ⟨ao6, cap6, rfl⟩ := ownP_shape ho6
  have HB6 := Lib.hid (HA1.out.grown hg6 HA1.out.size (fun k hk => by cases hk; exact Nat.le_refl _))
  have HO6 := Lib.hid ho6
  clear ho6 hg6 hat6 HOo HCA HA1 m0
  have HRJ := Lib.hid (rowIn_new #[.slice ao6 A.length cap6] 78 w6)
  have HRW := Lib.hid (show w.heap.size ≤ w6.heap.size from HB6.out.size)
  have HLE := Lib.hid (ownC_le15 HO6.out)
  have HLT := Lib.hid (show ∀ a, ao6 = some a → w.heap.size ≤ a.block ∧ a.block < w6.heap.size from fun a h => HO6.out.lt a.block (by rw [h]; rfl))
  have HO7 := carryA (w := w6) (.cells #[.slice ao6 A.length cap6] 78) HO6
  have HB7 := carryA (w := w6) (.cells #[.slice ao6 A.length cap6] 78) HB6
  go_wp2_with fail
  obtain ⟨rj, hrj⟩ : ∃ x, x = w6.heap.size := ⟨_, rfl⟩
  obtain ⟨w7, hw7⟩ : ∃ x, x = w6.alloc (.cells #[.slice ao6 A.length cap6] 78) := ⟨_, rfl⟩
  have hs7 : w6.heap.size ≤ w7.heap.size := by rw [hw7, szA]; omega
  rw [← hw7] at HO7 HB7 HRJ ⊢
  rw [← hrj] at HRJ HRW ⊢
  have HR := Lib.hid (show RefM rj ao6 cap6 A w7 from ⟨HRJ.out, clsAt_own HO7.out rfl, HLE.out.1, HLE.out.2⟩)
  have HLT7 := Lib.hid (show ∀ a, ao6 = some a → w.heap.size ≤ a.block ∧ a.block < w7.heap.size from fun a h => ⟨(HLT.out a h).1, Nat.lt_of_lt_of_le (HLT.out a h).2 hs7⟩)
  clear hrj hw7 hs7 HO6 HO7 HRJ HLE HLT HB6
  go_loopw [6] (fun v6 wr => ∃ (i : Nat) (ao : Option Addr) (cap : Nat), i ≤ K.length ∧ v6 = .int .i64 i ∧ Hid (RefM rj ao cap (M.putsL A (K.take i)) wr) ∧ Hid (∀ a, ao = some a → w.heap.size ≤ a.block ∧ a.block < wr.heap.size) ∧ Hid (Below w.heap.size w wr)) (fun v _ => K.length - (intOf v).toNat)
  case atStart => exact ⟨0, ao6, cap6, Nat.zero_le _, rfl, HR, HLT7, HB7⟩
  case round =>
    clear HR HLT7 HB7
    obtain ⟨i, ao, cap, hi, rfl, HR, HLT, HB⟩ := hrel
    have m0 := (HKb.out.below HB.out).row.cell 0
    by_cases hlt : i < K.length
    · have d1 : decide ((i : Int) < (K.length : Int)) = true := by simp; omega
      have d2 : decide (i < K.length) = true := by simp; omega
      have hii : (i : Int) < (K.length : Int) := by omega
      obtain ⟨g, o, rfl, y0, y1, y2⟩ := (HKb.out.below HB.out).cls.off i hlt
      have HSN := Lib.hid (M.puts_snoc A hlt)
      have HLN := Lib.hid (show (M.putsL A (K.take i)).length ≤ 100000 from by
        have h1 := M.puts_len (K.take i) A
        rw [List.length_take] at h1
        omega)
      have HCK := Lib.hid (HOK.out _ (M.getD_memC hlt))
      generalize hcc : K.getD i M.cl0 = c at *
      clear hcc
      generalize M.putsL A (K.take i) = A0 at *
      have CP := Lib.hid (refPut15_any rj ao cap A0 c wr HR.out HCK.out HLN.out)
      generalize (if M.mayC c = true then (0 : Int) else 2) = rv1 at CP
      unfold RPutR15 clA at CP
      go_wp2_with fail
      with_reducible refine (CP.out).mono ?_
      rintro e w5 ⟨rfl, ao', cap', h1, h2, h3⟩
      have HR5 := Lib.hid h1
      rw [← HSN.out] at HR5
      have HB5 := Lib.hid (HB.out.trans (h2.below (fun k hk => by rw [hk]; exact HRW.out) HB.out.size))
      have HLT5 := Lib.hid (show ∀ a, ao' = some a → w.heap.size ≤ a.block ∧ a.block < w5.heap.size from fun a ha => by
        rcases h3 with e | e
        · have := HLT.out a (e ▸ ha)
          exact ⟨this.1, Nat.lt_of_lt_of_le this.2 h2.size⟩
        · exact ⟨Nat.le_trans HB.out.size (e a ha).1, (e a ha).2⟩)
      clear h1 h2 h3 CP y0 y1 y2 m0
      go_wp2_with fail
      go_roundw
      case rel => exact ⟨i + 1, ao', cap', by omega, by go_num, HR5, HLT5, HB5⟩
      case measure => simp [intOf]; omega
    · obtain rfl : i = K.length := by omega
      have d1 : decide ((K.length : Int) < (K.length : Int)) = false := by simp
      have d2 : decide (K.length < K.length) = false := by simp
      rw [List.take_length] at HR
      go_wp2_with fail
      go_ret
      exact ⟨rj, ao, cap, rfl, HR.out, HRW.out, HLT.out, HB.out⟩
/-- What Cut has made so far. -/
structure Ct15 (W : World) (ra rb : Nat) (aA : Option Addr) (cA : Nat) (A : List M.Cl) (aB : Option Addr) (cB : Nat) (K : List M.Cl) (w : World) : Prop where
  rowA : RowIn #[.slice aA A.length cA] 78 w ra
  ownA : w.ownsRow W.heap.size 38 3 (.slice aA A.length cA) A.length (cls A)
  rowB : RowIn #[.slice aB K.length cB] 78 w rb
  ownB : w.ownsRow W.heap.size 38 3 (.slice aB K.length cB) K.length (cls K)
  ne : ∀ q, (Value.slice aA A.length cA).ownBlock = some q → (Value.slice aB K.length cB).ownBlock ≠ some q
  rne : ra ≠ rb
  bel : Below W.heap.size W w
  ba : W.heap.size ≤ ra
  bb : W.heap.size ≤ rb
theorem Ct15.flip {W : World} {ra rb : Nat} {aA : Option Addr} {cA : Nat} {A : List M.Cl} {aB : Option Addr} {cB : Nat} {K : List M.Cl} {w : World} (h : Ct15 W ra rb aA cA A aB cB K w) : Ct15 W rb ra aB cB K aA cA A w := ⟨h.rowB, h.ownB, h.rowA, h.ownA, fun q h1 h2 => h.ne q h2 h1, fun e => h.rne e.symm, h.bel, h.bb, h.ba⟩
theorem Ct15.below {W : World} {ra rb : Nat} {aA : Option Addr} {cA : Nat} {A : List M.Cl} {aB : Option Addr} {cB : Nat} {K : List M.Cl} {w w' : World} (h : Ct15 W ra rb aA cA A aB cB K w) (hb : Below w.heap.size w w') : Ct15 W ra rb aA cA A aB cB K w' := ⟨h.rowA.below hb, ownP_below h.ownA hb, h.rowB.below hb, ownP_below h.ownB hb, h.ne, h.rne, below_step h.bel hb, h.ba, h.bb⟩
/-- One more in the first part: appended, and stored. -/
theorem Ct15.app {W : World} {ra rb : Nat} {aA aA' : Option Addr} {cA cA' : Nat} {A : List M.Cl} {aB : Option Addr} {cB : Nat} {K : List M.Cl} {c : M.Cl} {w w' : World} (h : Ct15 W ra rb aA cA A aB cB K w) (ho : w'.ownsRow W.heap.size 38 3 (.slice aA' (A.length + 1) cA') (A.length + 1) (cls (A ++ [c]))) (hg : w.grownBy w' (Value.slice aA A.length cA).ownBlock) (hat : (Value.slice aA' (A.length + 1) cA').ownBlock = (Value.slice aA A.length cA).ownBlock ∨ (Value.slice aA' (A.length + 1) cA').ownBlock = some w.heap.size) :
    Ct15 W ra rb aA' cA' (A ++ [c]) aB cB K (w'.setCell ⟨ra, 0, none⟩ (.slice aA' (A.length + 1) cA')) := by
  have e : (A ++ [c]).length = A.length + 1 := by simp
  have hrA := row_kept10 h.rowA hg (fun e => row_apart h.rowA h.ownA (by decide) ra e rfl)
  have hrB := row_kept10 h.rowB hg (fun e => row_apart h.rowB h.ownA (by decide) rb e rfl)
  have hoB : w'.ownsRow W.heap.size 38 3 (.slice aB K.length cB) K.length (cls K) := h.ownB.kept hg (by
    cases hb : (Value.slice aB K.length cB).ownBlock with
    | none => exact .inl rfl
    | some q => exact .inr (fun e => h.ne q e.symm hb))
  refine ⟨?_, ?_, hrB.other (fun e => h.rne e.symm) _ _, ?_, fun q h1 h2 => ?_, h.rne, ((h.bel.grown hg h.bel.size (fun k hk => (h.ownA.lt k hk).1)).setCell (p := ⟨ra, 0, none⟩) h.ba _), h.ba, h.bb⟩
  · rw [e]; exact hrA.set 0 _
  · rw [e]; exact ho.kept (grownBy_setCell' _ _ _) (.inr (fun e => row_apart hrA ho (by decide) ra e rfl))
  · exact hoB.kept (grownBy_setCell' _ _ _) (.inr (fun e => row_apart hrA hoB (by decide) ra e rfl))
  · rw [e] at h1
    rcases hat with k | k
    · rw [k] at h1; exact h.ne q h1 h2
    · rw [k] at h1
      cases h1
      have := (h.ownB.lt _ h2).2
      omega
theorem M.filter_snoc (f : M.Cl → Bool) {L : List M.Cl} {i : Nat} (h : i < L.length) : (L.take (i + 1)).filter f = (L.take i).filter f ++ (if f (L.getD i M.cl0) = true then [L.getD i M.cl0] else []) := by
  rw [takeC_snoc h, List.filter_append]
  congr 1
  simp only [List.filter_cons, List.filter_nil]
def RCutR (L : List M.Cl) (key : List UInt8) (w : World) (e : Ending) (w' : World) : Prop := ∃ ra rb aA cA aB cB, e = .returned (.tuple #[.pointer (some ⟨ra, 0, none⟩), .pointer (some ⟨rb, 0, none⟩)]) ∧ RefM ra aA cA (L.filter (M.below key)) w' ∧ RefM rb aB cB (L.filter (fun c => !M.below key c)) w' ∧ ra ≠ rb ∧ w.heap.size ≤ ra ∧ w.heap.size ≤ rb ∧ (∀ a, aA = some a → w.heap.size ≤ a.block ∧ a.block < w'.heap.size) ∧ (∀ a, aB = some a → w.heap.size ≤ a.block ∧ a.block < w'.heap.size) ∧ (∀ a, aA = some a → a.block ≠ rb) ∧ (∀ a, aB = some a → a.block ≠ ra) ∧ Below w.heap.size w w'
set_option maxHeartbeats 4000000 in
set_option maxRecDepth 100000 in
theorem refCut15_any (rm : Nat) (am : Option Addr) (cm : Nat) (L : List M.Cl) (key : List UInt8) (w : World) (h : RefM rm am cm L w) (hn : L.length ≤ 10000) :
    Calls Try.prog 61 #[.pointer (some ⟨rm, 0, none⟩), .string (S key)] w (RCutR L key w) := by
  obtain ⟨i0, z0, hi0, hz0, hz1, hz2, hz3⟩ := infoCl_parts
  have HM := Lib.hid h
  have hb0 := ((Below.refl w.heap.size w).alloc (Nat.le_refl _) (.cells #[.slice none 0 0] 78)).alloc (by rw [szA]; omega) (.cells #[.slice none 0 0] 78)
  have HC := Lib.hid (show Ct15 w w.heap.size (w.heap.size + 1) none 0 [] none 0 [] _ from ⟨(rowIn_new #[.slice none 0 0] 78 w).more _, World.ownsRow_nil _ _ _ _, rowIn_at _ _ _ _ (by rw [szA]), World.ownsRow_nil _ _ _ _, fun q e => (by cases e), by omega, hb0, Nat.le_refl _, by omega⟩)
  clear h hb0
  go_enter Try.func61, Try.ntmps61
  go_wp2_with fail
  obtain ⟨ra, hra⟩ : ∃ x, x = w.heap.size := ⟨_, rfl⟩
  obtain ⟨rb, hrb⟩ : ∃ x, x = w.heap.size + 1 := ⟨_, rfl⟩
  replace HC := Lib.hid (show Ct15 w ra rb none 0 [] none 0 [] _ from by rw [hra, hrb]; exact HC.out)
  rw [← hrb, ← hra]
  clear hra hrb
  go_loopw [8] (fun v8 wr => ∃ (i : Nat) (aA : Option Addr) (cA : Nat) (aB : Option Addr) (cB : Nat), i ≤ L.length ∧ v8 = .int .i64 i ∧ Hid (Ct15 w ra rb aA cA ((L.take i).filter (M.below key)) aB cB ((L.take i).filter (fun c => !M.below key c)) wr)) (fun v _ => L.length - (intOf v).toNat)
  case atStart => exact ⟨0, none, 0, none, 0, Nat.zero_le _, rfl, HC⟩
  case round =>
    clear HC
    obtain ⟨i, aA, cA, aB, cB, hi, rfl, HC⟩ := hrel
    have HRM := Lib.hid (HM.out.below HC.out.bel)
    have m0 := HRM.out.row.cell 0
    by_cases hlt : i < L.length
    · have d1 : decide ((i : Int) < (L.length : Int)) = true := by simp; omega
      have d2 : decide (i < L.length) = true := by simp; omega
      have hii : (i : Int) < (L.length : Int) := by omega
      obtain ⟨g, o, rfl, hcw⟩ := HM.out.cls.off i hlt
      have HCL := Lib.hid hcw
      obtain ⟨y0, y1, y2⟩ := hcw.below HC.out.bel
      have HFA := Lib.hid (M.filter_snoc (M.below key) hlt)
      have HFB := Lib.hid (M.filter_snoc (fun c => !M.below key c) hlt)
      have hlA : ((L.take i).filter (M.below key)).length ≤ 10000 := by
        have h1 := List.length_filter_le (M.below key) (L.take i)
        rw [List.length_take] at h1
        omega
      have hlB : ((L.take i).filter (fun c => !M.below key c)).length ≤ 10000 := by
        have h1 := List.length_filter_le (fun c => !M.below key c) (L.take i)
        rw [List.length_take] at h1
        omega
      have HBK : Hid (M.below key (L.getD i M.cl0) = Op.bytesLess (L.getD i M.cl0).key key) := Lib.hid rfl
      generalize hcc : L.getD i M.cl0 = c at *
      clear hcc hcw
      cases hbk : M.below key c with
      | true =>
        have hq : Op.bytesLess c.key key = true := by rw [← HBK.out]; exact hbk
        rw [hbk, if_pos rfl] at HFA
        simp only [hbk, Bool.not_true, Bool.false_eq_true, if_false, List.append_nil] at HFB
        rw [← HFB.out] at HC
        have HLB := Lib.hid (show ((L.take (i + 1)).filter (fun c => !M.below key c)).length ≤ 10000 from by rw [HFB.out]; exact hlB)
        clear hbk HBK hlB
        generalize hKK : (L.take (i + 1)).filter (fun c => !M.below key c) = K at *
        have HKK := Lib.hid hKK
        clear hKK
        have HFA2 := HFA
        generalize (L.take i).filter (M.below key) = A at *
        go_upto_region 6 with (fail)
        have HC0 := HC
        refine wp_region_Z (S := fun V => V.cell? ⟨ra, 0, none⟩ = some (.slice aA A.length cA) ∧ V.cell? ⟨rm, 0, none⟩ = some (.slice (some ⟨g, o, none⟩) L.length cm) ∧ V.cell? ⟨g, o + i * 3, none⟩ = some (.string (S c.key)) ∧ V.cell? ⟨g, o + i * 3 + 1, none⟩ = some (.int .i64 c.seq) ∧ V.cell? ⟨g, o + i * 3 + 2, none⟩ = some (.string (S c.val))) 16 (by kernel_rfl) ?_ (fun hHeld => ?_)
        · exact ⟨HC0.out.rowA.cell 0, m0, y0, y1, y2⟩
        have HC1 := Lib.hid (HC0.out.below (Below.refl _ _).drew)
        obtain ⟨wd, hwd⟩ : ∃ x, x = World.drew wr := ⟨_, rfl⟩
        rw [← hwd] at HC1 hHeld ⊢
        clear hwd m0 y0 y1 y2
        refine wpAnyZ_takeY (i := 0) (oi := { dst := some 32, op := Op.move (Operand.tmp 6), type := 76, pos := "ref.go:54", after := #[], guard := none }) (v := ?_) rfl (by kernel_rfl) (by kernel_rfl) (by kernel_rfl) (by rfl) (fun _ _ _ h => h) (Or.inl ⟨by rfl, ?_⟩) (by assumption) ?_
        rotate_left
        · (intro w; go_simp); (first | done | with_reducible rfl)
        try simp only [Act.put, List.setIfInBounds_toArray, List.set_cons_zero, List.set_cons_succ]
        refine wpAnyZ_takeY (i := 1) (oi := { dst := some 33, op := Op.move (Operand.tmp 6), type := 76, pos := "ref.go:54", after := #[], guard := none }) (v := ?_) rfl (by kernel_rfl) (by kernel_rfl) (by kernel_rfl) (by rfl) (fun _ _ _ h => h) (Or.inl ⟨by rfl, ?_⟩) (by assumption) ?_
        rotate_left
        · (intro w; go_simp); (first | done | with_reducible rfl)
        try simp only [Act.put, List.setIfInBounds_toArray, List.set_cons_zero, List.set_cons_succ]
        refine wpAnyZ_takeY (i := 2) (oi := { dst := some 34, op := Op.nilCheck (Operand.tmp 33), type := 0, pos := "ref.go:54", after := #[{ on := 1, ground := Ground.data }], guard := none }) (v := ?_) rfl (by kernel_rfl) (by kernel_rfl) (by kernel_rfl) (by rfl) (fun _ _ _ h => h) (Or.inl ⟨by rfl, ?_⟩) (by assumption) ?_
        rotate_left
        · (intro w; go_simp); (first | done | with_reducible rfl)
        try simp only [Act.put, List.setIfInBounds_toArray, List.set_cons_zero, List.set_cons_succ]
        refine wpAnyZ_takeY (i := 3) (oi := { dst := some 35, op := Op.fieldAddr 78 (Operand.tmp 34) 0, type := 0, pos := "ref.go:54", after := #[{ on := 2, ground := Ground.data }], guard := none }) (v := ?_) rfl (by kernel_rfl) (by kernel_rfl) (by kernel_rfl) (by rfl) (fun _ _ _ h => h) (Or.inl ⟨by rfl, ?_⟩) (by assumption) ?_
        rotate_left
        · (intro w; go_simp); (first | done | with_reducible rfl)
        try simp only [Act.put, List.setIfInBounds_toArray, List.set_cons_zero, List.set_cons_succ]
        refine wpAnyZ_take (i := 4) (oi := { dst := some 36, op := Op.load 22 (Operand.tmp 35), type := 22, pos := "ref.go:54", after := #[{ on := 3, ground := Ground.data }], guard := none }) (v := ?_) [13, 14, 15, 16] rfl (by kernel_rfl) (by kernel_rfl) (by kernel_rfl) (by kernel_rfl) (fun _ _ _ h => h) (Or.inl ⟨by rfl, ?_⟩) (by assumption) ?_
        rotate_left
        · (intro w hSw; (try dsimp only at hSw); go_simp); (first | done | with_reducible rfl)
        try simp only [Act.put, List.setIfInBounds_toArray, List.set_cons_zero, List.set_cons_succ]
        refine wpAnyZ_takeY (i := 5) (oi := { dst := some 37, op := Op.move (Operand.tmp 0), type := 76, pos := "ref.go:54", after := #[], guard := none }) (v := ?_) rfl (by kernel_rfl) (by kernel_rfl) (by kernel_rfl) (by rfl) (fun _ _ _ h => h) (Or.inl ⟨by rfl, ?_⟩) (by assumption) ?_
        rotate_left
        · (intro w; go_simp); (first | done | with_reducible rfl)
        try simp only [Act.put, List.setIfInBounds_toArray, List.set_cons_zero, List.set_cons_succ]
        refine wpAnyZ_takeY (i := 6) (oi := { dst := some 38, op := Op.nilCheck (Operand.tmp 37), type := 0, pos := "ref.go:54", after := #[{ on := 5, ground := Ground.data }], guard := none }) (v := ?_) rfl (by kernel_rfl) (by kernel_rfl) (by kernel_rfl) (by rfl) (fun _ _ _ h => h) (Or.inl ⟨by rfl, ?_⟩) (by assumption) ?_
        rotate_left
        · (intro w; go_simp); (first | done | with_reducible rfl)
        try simp only [Act.put, List.setIfInBounds_toArray, List.set_cons_zero, List.set_cons_succ]
        refine wpAnyZ_takeY (i := 7) (oi := { dst := some 39, op := Op.fieldAddr 78 (Operand.tmp 38) 0, type := 0, pos := "ref.go:54", after := #[{ on := 6, ground := Ground.data }], guard := none }) (v := ?_) rfl (by kernel_rfl) (by kernel_rfl) (by kernel_rfl) (by rfl) (fun _ _ _ h => h) (Or.inl ⟨by rfl, ?_⟩) (by assumption) ?_
        rotate_left
        · (intro w; go_simp); (first | done | with_reducible rfl)
        try simp only [Act.put, List.setIfInBounds_toArray, List.set_cons_zero, List.set_cons_succ]
        refine wpAnyZ_take (i := 8) (oi := { dst := some 40, op := Op.load 22 (Operand.tmp 39), type := 22, pos := "ref.go:54", after := #[{ on := 7, ground := Ground.data }], guard := none }) (v := ?_) [10, 11, 12, 13, 14, 15, 16] rfl (by kernel_rfl) (by kernel_rfl) (by kernel_rfl) (by kernel_rfl) (fun _ _ _ h => h) (Or.inl ⟨by rfl, ?_⟩) (by assumption) ?_
        rotate_left
        · (intro w hSw; (try dsimp only at hSw); go_simp); (first | done | with_reducible rfl)
        try simp only [Act.put, List.setIfInBounds_toArray, List.set_cons_zero, List.set_cons_succ]
        refine wpAnyZ_takeY (i := 9) (oi := { dst := some 41, op := Op.move (Operand.tmp 8), type := 3, pos := "ref.go:54", after := #[], guard := none }) (v := ?_) rfl (by kernel_rfl) (by kernel_rfl) (by kernel_rfl) (by rfl) (fun _ _ _ h => h) (Or.inl ⟨by rfl, ?_⟩) (by assumption) ?_
        rotate_left
        · (intro w; go_simp); (first | done | with_reducible rfl)
        try simp only [Act.put, List.setIfInBounds_toArray, List.set_cons_zero, List.set_cons_succ]
        refine wpAnyZ_takeY (i := 10) (oi := { dst := some 42, op := Op.indexAddr 22 (Operand.tmp 40) (Operand.tmp 41), type := 0, pos := "ref.go:54", after := #[{ on := 8, ground := Ground.data }, { on := 9, ground := Ground.data }], guard := none }) (v := ?_) rfl (by kernel_rfl) (by kernel_rfl) (by kernel_rfl) (by rfl) (fun _ _ _ h => h) (Or.inl ⟨by rfl, ?_⟩) (by assumption) ?_
        rotate_left
        · (intro w; go_simp); (first | done | with_reducible rfl)
        try simp only [Act.put, List.setIfInBounds_toArray, List.set_cons_zero, List.set_cons_succ]
        refine wpAnyZ_take (i := 11) (oi := { dst := some 43, op := Op.load 38 (Operand.tmp 42), type := 38, pos := "ref.go:54", after := #[{ on := 10, ground := Ground.data }], guard := none }) (v := ?_) [12, 13, 14, 15, 16] rfl (by kernel_rfl) (by kernel_rfl) (by kernel_rfl) (by kernel_rfl) (fun _ _ _ h => h) (Or.inl ⟨by rfl, ?_⟩) (by assumption) ?_
        rotate_left
        · (intro w hSw; (try dsimp only at hSw); go_simp); (first | done | with_reducible rfl)
        try simp only [Act.put, List.setIfInBounds_toArray, List.set_cons_zero, List.set_cons_succ]
        refine wpAnyZ_ready (rs := [12]) (by kernel_rfl) (by simp) ?_
        refine AllReadyZ.cons (o := { dst := some 44, op := Op.buildSlice 22 1 #[(0, Operand.tmp 43)], type := 22, pos := "ref.go:54", after := #[{ on := 11, ground := Ground.data }], guard := none }) rfl (by rfl) (fun K hK => ?_) (AllReadyZ.nil)
        go_simp
        have HY := Lib.hid (show RowIn (clA c) 38 (wd.alloc (.cells #[.string (S c.key), .int .i64 c.seq, .string (S c.val)] 38)) wd.heap.size from rowIn_new (clA c) 38 wd)
        have hbb : Below wd.heap.size wd (wd.alloc (.cells #[.string (S c.key), .int .i64 c.seq, .string (S c.val)] 38)) := (Below.refl _ _).alloc (Nat.le_refl _) _
        replace HC1 := Lib.hid (HC1.out.below hbb)
        generalize hqb : wd.heap.size = qb at *
        generalize hwb : wd.alloc (.cells #[.string (S c.key), .int .i64 c.seq, .string (S c.val)] 38) = w12 at *
        clear hqb hwb hbb
        refine hK.out _ _ ?_ (fun hHeld => ?_)
        · exact ⟨HC1.out.rowA.cell 0, (HM.out.below HC1.out.bel).row.cell 0, (HCL.out.below HC1.out.bel).1, (HCL.out.below HC1.out.bel).2.1, (HCL.out.below HC1.out.bel).2.2⟩
        clear hK K
        try simp only [Act.put, List.setIfInBounds_toArray, List.set_cons_zero, List.set_cons_succ]
        refine wpAnyZ_ready (rs := [13]) (by kernel_rfl) (by simp) ?_
        refine AllReadyZ.cons (o := { dst := some 45, op := Op.call { callee := Callee.builtin Builtin.append, args := #[Operand.tmp 36, Operand.tmp 44], argTypes := #[22, 22] }, type := 22, pos := "ref.go:54", after := #[{ on := 4, ground := Ground.data }, { on := 12, ground := Ground.data }], guard := none }) rfl (by rfl) (fun K hK => ?_) (AllReadyZ.nil)
        refine step_append_cls15 (by rfl) _ _ 22 (by rfl) w.heap.size i0 z0 Try.underlying22 hi0 hz0 hz1 hz2 hz3 (.slice aA A.length cA) A.length (cls A) (by rfl) HC1.out.ownA (some ⟨qb, 0, none⟩) 1 1 [c] (by rfl) rfl (clsAt_row HY.out rfl) (by show A.length + 1 ≤ 1000000; omega) HC1.out.bel.size ?_
        intro v13 w13 ho hg hat
        replace ho : w13.ownsRow w.heap.size 38 3 v13 (A.length + 1) (cls (A ++ [c])) := by rw [cls_append]; exact ho
        obtain ⟨aA', cA', rfl⟩ := ownP_shape ho
        have HF := Lib.hid (HC1.out.app ho hg hat)
        have HW := Lib.hid (⟨row_kept10 HC1.out.rowA hg (fun e => row_apart HC1.out.rowA HC1.out.ownA (by decide) _ e rfl), HC1.out.bel.grown hg HC1.out.bel.size (fun k hk => (HC1.out.ownA.lt k hk).1)⟩ : RowIn #[.slice aA A.length cA] 78 w13 ra ∧ Below w.heap.size w w13)
        clear ho hg hat
        refine hK.out _ _ ?_ (fun hHeld => ?_)
        · exact ⟨HW.out.1.cell 0, (HM.out.below HW.out.2).row.cell 0, (HCL.out.below HW.out.2).1, (HCL.out.below HW.out.2).2.1, (HCL.out.below HW.out.2).2.2⟩
        clear hK K
        try simp only [Act.put, List.setIfInBounds_toArray, List.set_cons_zero, List.set_cons_succ]
        refine wpAnyZ_takeY (i := 14) (oi := { dst := some 46, op := Op.nilCheck (Operand.tmp 32), type := 0, pos := "ref.go:54", after := #[{ on := 0, ground := Ground.data }, { on := 0, ground := Ground.phase }, { on := 1, ground := Ground.phase }, { on := 2, ground := Ground.phase }, { on := 3, ground := Ground.phase }, { on := 4, ground := Ground.phase }, { on := 5, ground := Ground.phase }, { on := 6, ground := Ground.phase }, { on := 7, ground := Ground.phase }, { on := 8, ground := Ground.phase }, { on := 9, ground := Ground.phase }, { on := 10, ground := Ground.phase }, { on := 11, ground := Ground.phase }, { on := 12, ground := Ground.phase }, { on := 13, ground := Ground.phase }], guard := none }) (v := ?_) rfl (by kernel_rfl) (by kernel_rfl) (by kernel_rfl) (by rfl) (fun _ _ _ h => h) (Or.inl ⟨by rfl, ?_⟩) (by assumption) ?_
        rotate_left
        · (intro w; go_simp); (first | done | with_reducible rfl)
        try simp only [Act.put, List.setIfInBounds_toArray, List.set_cons_zero, List.set_cons_succ]
        refine wpAnyZ_takeY (i := 15) (oi := { dst := some 47, op := Op.fieldAddr 78 (Operand.tmp 46) 0, type := 0, pos := "ref.go:54", after := #[{ on := 14, ground := Ground.data }, { on := 0, ground := Ground.phase }, { on := 1, ground := Ground.phase }, { on := 2, ground := Ground.phase }, { on := 3, ground := Ground.phase }, { on := 4, ground := Ground.phase }, { on := 5, ground := Ground.phase }, { on := 6, ground := Ground.phase }, { on := 7, ground := Ground.phase }, { on := 8, ground := Ground.phase }, { on := 9, ground := Ground.phase }, { on := 10, ground := Ground.phase }, { on := 11, ground := Ground.phase }, { on := 12, ground := Ground.phase }, { on := 13, ground := Ground.phase }], guard := none }) (v := ?_) rfl (by kernel_rfl) (by kernel_rfl) (by kernel_rfl) (by rfl) (fun _ _ _ h => h) (Or.inl ⟨by rfl, ?_⟩) (by assumption) ?_
        rotate_left
        · (intro w; go_simp); (first | done | with_reducible rfl)
        try simp only [Act.put, List.setIfInBounds_toArray, List.set_cons_zero, List.set_cons_succ]
        refine wpAnyZ_ready (rs := [16]) (by kernel_rfl) (by simp) ?_
        refine AllReadyZ.last (o := { dst := none, op := Op.store 22 (Operand.tmp 47) (Operand.tmp 45), type := 0, pos := "ref.go:54", after := #[{ on := 15, ground := Ground.data }, { on := 13, ground := Ground.data }, { on := 13, ground := Ground.chain }, { on := 0, ground := Ground.phase }, { on := 1, ground := Ground.phase }, { on := 2, ground := Ground.phase }, { on := 3, ground := Ground.phase }, { on := 4, ground := Ground.phase }, { on := 5, ground := Ground.phase }, { on := 6, ground := Ground.phase }, { on := 7, ground := Ground.phase }, { on := 8, ground := Ground.phase }, { on := 9, ground := Ground.phase }, { on := 10, ground := Ground.phase }, { on := 11, ground := Ground.phase }, { on := 12, ground := Ground.phase }, { on := 13, ground := Ground.phase }], guard := none }) rfl (fun K hK => ?_) AllReadyZ.nil
        have f0 := HW.out.1.free 0
        have c0 := HW.out.1.cell 0
        go_simp
        refine hK.out _ _ ?_
        clear hK K
        refine wpAny_done (by kernel_rfl) ?_ _
        go_wp2_with fail
        go_roundw
        case rel => exact ⟨i + 1, aA', cA', aB, cB, by omega, by go_num, by rw [HFA.out, HKK.out]; exact HF⟩
        case measure => simp [intOf]; omega
      | false =>
        have hq : Op.bytesLess c.key key = false := by rw [← HBK.out]; exact hbk
        rw [hbk] at HFA
        simp only [hbk, Bool.not_false, if_true, Bool.false_eq_true, if_false, List.append_nil] at HFB HFA
        rw [← HFA.out] at HC
        clear hbk HBK hlA
        generalize hKK : (L.take (i + 1)).filter (M.below key) = K at *
        have HKK := Lib.hid hKK
        clear hKK
        generalize (L.take i).filter (fun c => !M.below key c) = A at *
        go_upto_region 7 with (fail)
        have HC0 := Lib.hid HC.out.flip
        refine wp_region_Z (S := fun V => V.cell? ⟨rb, 0, none⟩ = some (.slice aB A.length cB) ∧ V.cell? ⟨rm, 0, none⟩ = some (.slice (some ⟨g, o, none⟩) L.length cm) ∧ V.cell? ⟨g, o + i * 3, none⟩ = some (.string (S c.key)) ∧ V.cell? ⟨g, o + i * 3 + 1, none⟩ = some (.int .i64 c.seq) ∧ V.cell? ⟨g, o + i * 3 + 2, none⟩ = some (.string (S c.val))) 16 (by kernel_rfl) ?_ (fun hHeld => ?_)
        · exact ⟨HC0.out.rowA.cell 0, m0, y0, y1, y2⟩
        have HC1 := Lib.hid (HC0.out.below (Below.refl _ _).drew)
        obtain ⟨wd, hwd⟩ : ∃ x, x = World.drew wr := ⟨_, rfl⟩
        rw [← hwd] at HC1 hHeld ⊢
        clear hwd m0 y0 y1 y2
        refine wpAnyZ_takeY (i := 0) (oi := { dst := some 48, op := Op.move (Operand.tmp 7), type := 76, pos := "ref.go:56", after := #[], guard := none }) (v := ?_) rfl (by kernel_rfl) (by kernel_rfl) (by kernel_rfl) (by rfl) (fun _ _ _ h => h) (Or.inl ⟨by rfl, ?_⟩) (by assumption) ?_
        rotate_left
        · (intro w; go_simp); (first | done | with_reducible rfl)
        try simp only [Act.put, List.setIfInBounds_toArray, List.set_cons_zero, List.set_cons_succ]
        refine wpAnyZ_takeY (i := 1) (oi := { dst := some 49, op := Op.move (Operand.tmp 7), type := 76, pos := "ref.go:56", after := #[], guard := none }) (v := ?_) rfl (by kernel_rfl) (by kernel_rfl) (by kernel_rfl) (by rfl) (fun _ _ _ h => h) (Or.inl ⟨by rfl, ?_⟩) (by assumption) ?_
        rotate_left
        · (intro w; go_simp); (first | done | with_reducible rfl)
        try simp only [Act.put, List.setIfInBounds_toArray, List.set_cons_zero, List.set_cons_succ]
        refine wpAnyZ_takeY (i := 2) (oi := { dst := some 50, op := Op.nilCheck (Operand.tmp 49), type := 0, pos := "ref.go:56", after := #[{ on := 1, ground := Ground.data }], guard := none }) (v := ?_) rfl (by kernel_rfl) (by kernel_rfl) (by kernel_rfl) (by rfl) (fun _ _ _ h => h) (Or.inl ⟨by rfl, ?_⟩) (by assumption) ?_
        rotate_left
        · (intro w; go_simp); (first | done | with_reducible rfl)
        try simp only [Act.put, List.setIfInBounds_toArray, List.set_cons_zero, List.set_cons_succ]
        refine wpAnyZ_takeY (i := 3) (oi := { dst := some 51, op := Op.fieldAddr 78 (Operand.tmp 50) 0, type := 0, pos := "ref.go:56", after := #[{ on := 2, ground := Ground.data }], guard := none }) (v := ?_) rfl (by kernel_rfl) (by kernel_rfl) (by kernel_rfl) (by rfl) (fun _ _ _ h => h) (Or.inl ⟨by rfl, ?_⟩) (by assumption) ?_
        rotate_left
        · (intro w; go_simp); (first | done | with_reducible rfl)
        try simp only [Act.put, List.setIfInBounds_toArray, List.set_cons_zero, List.set_cons_succ]
        refine wpAnyZ_take (i := 4) (oi := { dst := some 52, op := Op.load 22 (Operand.tmp 51), type := 22, pos := "ref.go:56", after := #[{ on := 3, ground := Ground.data }], guard := none }) (v := ?_) [13, 14, 15, 16] rfl (by kernel_rfl) (by kernel_rfl) (by kernel_rfl) (by kernel_rfl) (fun _ _ _ h => h) (Or.inl ⟨by rfl, ?_⟩) (by assumption) ?_
        rotate_left
        · (intro w hSw; (try dsimp only at hSw); go_simp); (first | done | with_reducible rfl)
        try simp only [Act.put, List.setIfInBounds_toArray, List.set_cons_zero, List.set_cons_succ]
        refine wpAnyZ_takeY (i := 5) (oi := { dst := some 53, op := Op.move (Operand.tmp 0), type := 76, pos := "ref.go:56", after := #[], guard := none }) (v := ?_) rfl (by kernel_rfl) (by kernel_rfl) (by kernel_rfl) (by rfl) (fun _ _ _ h => h) (Or.inl ⟨by rfl, ?_⟩) (by assumption) ?_
        rotate_left
        · (intro w; go_simp); (first | done | with_reducible rfl)
        try simp only [Act.put, List.setIfInBounds_toArray, List.set_cons_zero, List.set_cons_succ]
        refine wpAnyZ_takeY (i := 6) (oi := { dst := some 54, op := Op.nilCheck (Operand.tmp 53), type := 0, pos := "ref.go:56", after := #[{ on := 5, ground := Ground.data }], guard := none }) (v := ?_) rfl (by kernel_rfl) (by kernel_rfl) (by kernel_rfl) (by rfl) (fun _ _ _ h => h) (Or.inl ⟨by rfl, ?_⟩) (by assumption) ?_
        rotate_left
        · (intro w; go_simp); (first | done | with_reducible rfl)
        try simp only [Act.put, List.setIfInBounds_toArray, List.set_cons_zero, List.set_cons_succ]
        refine wpAnyZ_takeY (i := 7) (oi := { dst := some 55, op := Op.fieldAddr 78 (Operand.tmp 54) 0, type := 0, pos := "ref.go:56", after := #[{ on := 6, ground := Ground.data }], guard := none }) (v := ?_) rfl (by kernel_rfl) (by kernel_rfl) (by kernel_rfl) (by rfl) (fun _ _ _ h => h) (Or.inl ⟨by rfl, ?_⟩) (by assumption) ?_
        rotate_left
        · (intro w; go_simp); (first | done | with_reducible rfl)
        try simp only [Act.put, List.setIfInBounds_toArray, List.set_cons_zero, List.set_cons_succ]
        refine wpAnyZ_take (i := 8) (oi := { dst := some 56, op := Op.load 22 (Operand.tmp 55), type := 22, pos := "ref.go:56", after := #[{ on := 7, ground := Ground.data }], guard := none }) (v := ?_) [10, 11, 12, 13, 14, 15, 16] rfl (by kernel_rfl) (by kernel_rfl) (by kernel_rfl) (by kernel_rfl) (fun _ _ _ h => h) (Or.inl ⟨by rfl, ?_⟩) (by assumption) ?_
        rotate_left
        · (intro w hSw; (try dsimp only at hSw); go_simp); (first | done | with_reducible rfl)
        try simp only [Act.put, List.setIfInBounds_toArray, List.set_cons_zero, List.set_cons_succ]
        refine wpAnyZ_takeY (i := 9) (oi := { dst := some 57, op := Op.move (Operand.tmp 8), type := 3, pos := "ref.go:56", after := #[], guard := none }) (v := ?_) rfl (by kernel_rfl) (by kernel_rfl) (by kernel_rfl) (by rfl) (fun _ _ _ h => h) (Or.inl ⟨by rfl, ?_⟩) (by assumption) ?_
        rotate_left
        · (intro w; go_simp); (first | done | with_reducible rfl)
        try simp only [Act.put, List.setIfInBounds_toArray, List.set_cons_zero, List.set_cons_succ]
        refine wpAnyZ_takeY (i := 10) (oi := { dst := some 58, op := Op.indexAddr 22 (Operand.tmp 56) (Operand.tmp 57), type := 0, pos := "ref.go:56", after := #[{ on := 8, ground := Ground.data }, { on := 9, ground := Ground.data }], guard := none }) (v := ?_) rfl (by kernel_rfl) (by kernel_rfl) (by kernel_rfl) (by rfl) (fun _ _ _ h => h) (Or.inl ⟨by rfl, ?_⟩) (by assumption) ?_
        rotate_left
        · (intro w; go_simp); (first | done | with_reducible rfl)
        try simp only [Act.put, List.setIfInBounds_toArray, List.set_cons_zero, List.set_cons_succ]
        refine wpAnyZ_take (i := 11) (oi := { dst := some 59, op := Op.load 38 (Operand.tmp 58), type := 38, pos := "ref.go:56", after := #[{ on := 10, ground := Ground.data }], guard := none }) (v := ?_) [12, 13, 14, 15, 16] rfl (by kernel_rfl) (by kernel_rfl) (by kernel_rfl) (by kernel_rfl) (fun _ _ _ h => h) (Or.inl ⟨by rfl, ?_⟩) (by assumption) ?_
        rotate_left
        · (intro w hSw; (try dsimp only at hSw); go_simp); (first | done | with_reducible rfl)
        try simp only [Act.put, List.setIfInBounds_toArray, List.set_cons_zero, List.set_cons_succ]
        refine wpAnyZ_ready (rs := [12]) (by kernel_rfl) (by simp) ?_
        refine AllReadyZ.cons (o := { dst := some 60, op := Op.buildSlice 22 1 #[(0, Operand.tmp 59)], type := 22, pos := "ref.go:56", after := #[{ on := 11, ground := Ground.data }], guard := none }) rfl (by rfl) (fun K hK => ?_) (AllReadyZ.nil)
        go_simp
        have HY := Lib.hid (show RowIn (clA c) 38 (wd.alloc (.cells #[.string (S c.key), .int .i64 c.seq, .string (S c.val)] 38)) wd.heap.size from rowIn_new (clA c) 38 wd)
        have hbb : Below wd.heap.size wd (wd.alloc (.cells #[.string (S c.key), .int .i64 c.seq, .string (S c.val)] 38)) := (Below.refl _ _).alloc (Nat.le_refl _) _
        replace HC1 := Lib.hid (HC1.out.below hbb)
        generalize hqb : wd.heap.size = qb at *
        generalize hwb : wd.alloc (.cells #[.string (S c.key), .int .i64 c.seq, .string (S c.val)] 38) = w12 at *
        clear hqb hwb hbb
        refine hK.out _ _ ?_ (fun hHeld => ?_)
        · exact ⟨HC1.out.rowA.cell 0, (HM.out.below HC1.out.bel).row.cell 0, (HCL.out.below HC1.out.bel).1, (HCL.out.below HC1.out.bel).2.1, (HCL.out.below HC1.out.bel).2.2⟩
        clear hK K
        try simp only [Act.put, List.setIfInBounds_toArray, List.set_cons_zero, List.set_cons_succ]
        refine wpAnyZ_ready (rs := [13]) (by kernel_rfl) (by simp) ?_
        refine AllReadyZ.cons (o := { dst := some 61, op := Op.call { callee := Callee.builtin Builtin.append, args := #[Operand.tmp 52, Operand.tmp 60], argTypes := #[22, 22] }, type := 22, pos := "ref.go:56", after := #[{ on := 4, ground := Ground.data }, { on := 12, ground := Ground.data }], guard := none }) rfl (by rfl) (fun K hK => ?_) (AllReadyZ.nil)
        refine step_append_cls15 (by rfl) _ _ 22 (by rfl) w.heap.size i0 z0 Try.underlying22 hi0 hz0 hz1 hz2 hz3 (.slice aB A.length cB) A.length (cls A) (by rfl) HC1.out.ownA (some ⟨qb, 0, none⟩) 1 1 [c] (by rfl) rfl (clsAt_row HY.out rfl) (by show A.length + 1 ≤ 1000000; omega) HC1.out.bel.size ?_
        intro v13 w13 ho hg hat
        replace ho : w13.ownsRow w.heap.size 38 3 v13 (A.length + 1) (cls (A ++ [c])) := by rw [cls_append]; exact ho
        obtain ⟨aA', cA', rfl⟩ := ownP_shape ho
        have HF := Lib.hid (HC1.out.app ho hg hat)
        have HW := Lib.hid (⟨row_kept10 HC1.out.rowA hg (fun e => row_apart HC1.out.rowA HC1.out.ownA (by decide) _ e rfl), HC1.out.bel.grown hg HC1.out.bel.size (fun k hk => (HC1.out.ownA.lt k hk).1)⟩ : RowIn #[.slice aB A.length cB] 78 w13 rb ∧ Below w.heap.size w w13)
        clear ho hg hat
        refine hK.out _ _ ?_ (fun hHeld => ?_)
        · exact ⟨HW.out.1.cell 0, (HM.out.below HW.out.2).row.cell 0, (HCL.out.below HW.out.2).1, (HCL.out.below HW.out.2).2.1, (HCL.out.below HW.out.2).2.2⟩
        clear hK K
        try simp only [Act.put, List.setIfInBounds_toArray, List.set_cons_zero, List.set_cons_succ]
        refine wpAnyZ_takeY (i := 14) (oi := { dst := some 62, op := Op.nilCheck (Operand.tmp 48), type := 0, pos := "ref.go:56", after := #[{ on := 0, ground := Ground.data }, { on := 0, ground := Ground.phase }, { on := 1, ground := Ground.phase }, { on := 2, ground := Ground.phase }, { on := 3, ground := Ground.phase }, { on := 4, ground := Ground.phase }, { on := 5, ground := Ground.phase }, { on := 6, ground := Ground.phase }, { on := 7, ground := Ground.phase }, { on := 8, ground := Ground.phase }, { on := 9, ground := Ground.phase }, { on := 10, ground := Ground.phase }, { on := 11, ground := Ground.phase }, { on := 12, ground := Ground.phase }, { on := 13, ground := Ground.phase }], guard := none }) (v := ?_) rfl (by kernel_rfl) (by kernel_rfl) (by kernel_rfl) (by rfl) (fun _ _ _ h => h) (Or.inl ⟨by rfl, ?_⟩) (by assumption) ?_
        rotate_left
        · (intro w; go_simp); (first | done | with_reducible rfl)
        try simp only [Act.put, List.setIfInBounds_toArray, List.set_cons_zero, List.set_cons_succ]
        refine wpAnyZ_takeY (i := 15) (oi := { dst := some 63, op := Op.fieldAddr 78 (Operand.tmp 62) 0, type := 0, pos := "ref.go:56", after := #[{ on := 14, ground := Ground.data }, { on := 0, ground := Ground.phase }, { on := 1, ground := Ground.phase }, { on := 2, ground := Ground.phase }, { on := 3, ground := Ground.phase }, { on := 4, ground := Ground.phase }, { on := 5, ground := Ground.phase }, { on := 6, ground := Ground.phase }, { on := 7, ground := Ground.phase }, { on := 8, ground := Ground.phase }, { on := 9, ground := Ground.phase }, { on := 10, ground := Ground.phase }, { on := 11, ground := Ground.phase }, { on := 12, ground := Ground.phase }, { on := 13, ground := Ground.phase }], guard := none }) (v := ?_) rfl (by kernel_rfl) (by kernel_rfl) (by kernel_rfl) (by rfl) (fun _ _ _ h => h) (Or.inl ⟨by rfl, ?_⟩) (by assumption) ?_
        rotate_left
        · (intro w; go_simp); (first | done | with_reducible rfl)
        try simp only [Act.put, List.setIfInBounds_toArray, List.set_cons_zero, List.set_cons_succ]
        refine wpAnyZ_ready (rs := [16]) (by kernel_rfl) (by simp) ?_
        refine AllReadyZ.last (o := { dst := none, op := Op.store 22 (Operand.tmp 63) (Operand.tmp 61), type := 0, pos := "ref.go:56", after := #[{ on := 15, ground := Ground.data }, { on := 13, ground := Ground.data }, { on := 13, ground := Ground.chain }, { on := 0, ground := Ground.phase }, { on := 1, ground := Ground.phase }, { on := 2, ground := Ground.phase }, { on := 3, ground := Ground.phase }, { on := 4, ground := Ground.phase }, { on := 5, ground := Ground.phase }, { on := 6, ground := Ground.phase }, { on := 7, ground := Ground.phase }, { on := 8, ground := Ground.phase }, { on := 9, ground := Ground.phase }, { on := 10, ground := Ground.phase }, { on := 11, ground := Ground.phase }, { on := 12, ground := Ground.phase }, { on := 13, ground := Ground.phase }], guard := none }) rfl (fun K hK => ?_) AllReadyZ.nil
        have f0 := HW.out.1.free 0
        have c0 := HW.out.1.cell 0
        go_simp
        refine hK.out _ _ ?_
        clear hK K
        refine wpAny_done (by kernel_rfl) ?_ _
        go_wp2_with fail
        go_roundw
        case rel => exact ⟨i + 1, aA, cA, aA', cA', by omega, by go_num, by rw [HFB.out, HKK.out]; exact Lib.hid HF.out.flip⟩
        case measure => simp [intOf]; omega
    · obtain rfl : i = L.length := by omega
      have d1 : decide ((L.length : Int) < (L.length : Int)) = false := by simp
      have d2 : decide (L.length < L.length) = false := by simp
      rw [List.take_length] at HC
      go_wp2_with fail
      go_ret2
      have h := HC.out
      have eA := ownC_le15 h.ownA
      have eB := ownC_le15 h.ownB
      exact ⟨ra, rb, aA, cA, aB, cB, rfl, ⟨h.rowA, clsAt_own h.ownA rfl, eA.1, eA.2⟩, ⟨h.rowB, clsAt_own h.ownB rfl, eB.1, eB.2⟩, h.rne, h.ba, h.bb, fun a ha => h.ownA.lt a.block (by rw [ha]; rfl), fun a ha => h.ownB.lt a.block (by rw [ha]; rfl), fun a ha => row_apart h.rowB h.ownA (by decide) a.block (by rw [ha]; rfl), fun a ha => row_apart h.rowA h.ownB (by decide) a.block (by rw [ha]; rfl), h.bel⟩
/-- Both parts of the document's memory, added. -/
theorem SysL.moreR2 {B ra rb cA cB : Nat} {aA aB : Option Addr} {L K : List M.Cl} {ys : List (Bool × Nat × List M.Cl)} {w w' : World} (h : SysL B ys w) (hb : Below w.heap.size w w') (m1 : RefM ra aA cA L w') (m2 : RefM rb aB cB K w') (hne : ra ≠ rb) (h1 : w.heap.size ≤ ra) (h2 : w.heap.size ≤ rb) (h3 : ∀ a, aA = some a → w.heap.size ≤ a.block ∧ a.block < w'.heap.size) (h4 : ∀ a, aB = some a → w.heap.size ≤ a.block ∧ a.block < w'.heap.size) (h5 : ∀ a, aA = some a → a.block ≠ rb) (h6 : ∀ a, aB = some a → a.block ≠ ra) : SysL B ((false, ra, L) :: (false, rb, K) :: ys) w' := by
  obtain ⟨xs, k1, k2⟩ := h
  have g2 := k2.more (x := ⟨false, rb, K, fun k => k = rb ∨ ∃ a, aB = some a ∧ a.block = k, fun k => k = rb⟩) hb (by
    unfold ObAt
    rw [if_neg (by exact Bool.false_ne_true)]
    exact ⟨aB, cB, m2, .inl rfl, fun a ha => .inr ⟨a, ha, rfl⟩, rfl, Nat.le_trans k2.base h2⟩) (fun k hk => by
    rcases hk with rfl | ⟨a, ha, rfl⟩
    · exact ⟨h2, m2.row.lt⟩
    · exact h4 a ha) (fun k hk => .inl hk)
  have g1 := k2.more (x := ⟨false, ra, L, fun k => k = ra ∨ ∃ a, aA = some a ∧ a.block = k, fun k => k = ra⟩) hb (by
    unfold ObAt
    rw [if_neg (by exact Bool.false_ne_true)]
    exact ⟨aA, cA, m1, .inl rfl, fun a ha => .inr ⟨a, ha, rfl⟩, rfl, Nat.le_trans k2.base h1⟩) (fun k hk => by
    rcases hk with rfl | ⟨a, ha, rfl⟩
    · exact ⟨h1, m1.row.lt⟩
    · exact h3 a ha) (fun k hk => .inl hk)
  refine ⟨⟨false, ra, L, fun k => k = ra ∨ ∃ a, aA = some a ∧ a.block = k, fun k => k = ra⟩ :: ⟨false, rb, K, fun k => k = rb ∨ ∃ a, aB = some a ∧ a.block = k, fun k => k = rb⟩ :: xs, by rw [List.map_cons, List.map_cons, k1]; rfl, ⟨fun x hx => ?_, fun x hx => ?_, fun x hx => ?_, List.pairwise_cons.2 ⟨fun y hy => ?_, g2.ap⟩, g2.base⟩⟩
  · rcases List.mem_cons.1 hx with rfl | hx
    · exact g1.at_ _ (List.mem_cons_self ..)
    · exact g2.at_ x hx
  · rcases List.mem_cons.1 hx with rfl | hx
    · exact g1.lt _ (List.mem_cons_self ..)
    · exact g2.lt x hx
  · rcases List.mem_cons.1 hx with rfl | hx
    · exact g1.wf _ (List.mem_cons_self ..)
    · exact g2.wf x hx
  · rcases List.mem_cons.1 hy with rfl | hy
    · refine ⟨fun k hk hf => ?_, fun k hk hf => ?_⟩
      · rcases hf with e | ⟨a, ha, e⟩
        · exact hne (hk.symm.trans e)
        · exact h6 a ha (e.trans hk)
      · rcases hf with e | ⟨a, ha, e⟩
        · exact hne (e.symm.trans hk)
        · exact h5 a ha (e.trans hk)
    · exact (List.pairwise_cons.1 g1.ap).1 y hy
theorem Pl.cut {B b rb : Nat} {L1 L2 : List M.Cl} {w : World} (key : List UInt8) (h : Pl B b rb L1 L2 w) : Calls Try.prog 60 #[.pointer (some ⟨b, 0, none⟩), .string (S key)] w (CutR L1 key w) := by
  obtain ⟨X, ao, cap, ⟨pa, pc, Ps, h1, _, _⟩, _⟩ := h
  exact cut15_any B b pa pc Ps L1 key w h1
theorem Pl.rcut {B b rb : Nat} {L1 L2 : List M.Cl} {w : World} (key : List UInt8) (h : Pl B b rb L1 L2 w) (hn : L2.length ≤ 10000) : Calls Try.prog 61 #[.pointer (some ⟨rb, 0, none⟩), .string (S key)] w (RCutR L2 key w) := by
  obtain ⟨X, ao, cap, _, h2, _⟩ := h
  exact refCut15_any rb ao cap L2 key w h2 hn
theorem pl_join {B b rb B' b' rb' : Nat} {L1 L2 K1 K2 : List M.Cl} {w : World} (h : Pl B b rb L1 L2 w) (k : Pl B' b' rb' K1 K2 w) (hn : L1.length + K1.length ≤ 40000) : Calls Try.prog 62 #[.pointer (some ⟨b, 0, none⟩), .pointer (some ⟨b', 0, none⟩)] w (JoinX (M.joinL L1 K1) w) := by
  obtain ⟨X, ao, cap, h1, _⟩ := h
  obtain ⟨Y, ao', cap', k1, _⟩ := k
  exact joinX15 h1 k1 hn
theorem pl_rjoin {B b rb B' b' rb' : Nat} {L1 L2 K1 K2 : List M.Cl} {w : World} (h : Pl B b rb L1 L2 w) (k : Pl B' b' rb' K1 K2 w) (hok : ∀ c, c ∈ K2 → ClOk c) (hn : L2.length + K2.length ≤ 10000) : Calls Try.prog 63 #[.pointer (some ⟨rb, 0, none⟩), .pointer (some ⟨rb', 0, none⟩)] w (RJoinR (M.putsL L2 K2) w) := by
  obtain ⟨X, ao, cap, _, h2, _⟩ := h
  obtain ⟨Y, ao', cap', _, k2, _⟩ := k
  exact refJoin15_any rb rb' ao ao' cap cap' L2 K2 w h2 k2 hok hn

end Go.Proofs.Ythidmgnfdikppaa
