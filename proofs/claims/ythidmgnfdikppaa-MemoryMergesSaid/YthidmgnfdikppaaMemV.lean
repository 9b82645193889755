/- Layer 15: the laws' put, by a contract. -/
import Derived.Test.YthidmgnfdikppaaZM
namespace Go.Proofs.Ythidmgnfdikppaa
set_option linter.unusedVariables false
set_option linter.unusedSimpArgs false
open Go Go.RowKit
attribute [local go_sem ↓] run_index_S
attribute [local go_sem] S_append S_extract

/-- What is laid in, one by one. -/
def M.putsL (A L : List M.Cl) : List M.Cl := L.foldl (fun A c => M.putL c A) A
theorem M.puts_snoc (A : List M.Cl) {L : List M.Cl} {i : Nat} (h : i < L.length) : M.putsL A (L.take (i + 1)) = M.putL (L.getD i M.cl0) (M.putsL A (L.take i)) := by
  rw [takeC_snoc h, M.putsL, List.foldl_append]
  rfl
theorem M.putL_len (c : M.Cl) (A : List M.Cl) : (M.putL c A).length ≤ A.length + 1 := by
  unfold M.putL
  split
  · exact M.insC_len c A
  · omega
theorem M.puts_len : ∀ (L A : List M.Cl), (M.putsL A L).length ≤ A.length + L.length
  | [], A => by simp [M.putsL]
  | c :: L, A => by
    have h1 := M.puts_len L (M.putL c A)
    have h2 := M.putL_len c A
    show (M.putsL (M.putL c A) L).length ≤ _
    simp only [List.length_cons]
    omega
theorem memX_none {B b : Nat} {L : List M.Cl} {w : World} {X : Nat → Prop} (h : MemX X B b L w) : MemX (fun _ => False) B b L w := by
  obtain ⟨pa, pc, Ps, h1, h2, _⟩ := h
  exact ⟨pa, pc, Ps, h1, h2, fun _ _ h => h⟩
def PutsR (L : List M.Cl) (w : World) (e : Ending) (w' : World) : Prop := ∃ b, e = .returned (.pointer (some ⟨b, 0, none⟩)) ∧ MemX (fun _ => False) w.heap.size b L w' ∧ Below w.heap.size w w'
set_option maxHeartbeats 4000000 in
set_option maxRecDepth 100000 in
theorem puts15_any (ao : Option Addr) (cap : Nat) (L : List M.Cl) (w : World) (h : ClsAt w ao L) (hok : ∀ c, c ∈ L → ClOk c) (hn : L.length ≤ 1000) :
    Calls Try.prog 64 #[.slice ao L.length cap] w (PutsR (M.putsL [] L) w) := by
  have CN := Lib.hid (new15_any w)
  have HC := Lib.hid h
  have HOK := Lib.hid hok
  clear h hok
  go_enter Try.func64, Try.ntmps64
  go_wp2_with fail
  refine (CN.out).mono ?_
  rintro e w1 ⟨rfl, hw1⟩
  have HM := Lib.hid (show MemX (fun _ => False) w.heap.size w.heap.size [] w1 from by rw [hw1]; exact memX_new _ w (fun k hk => hk.elim))
  have HB := Lib.hid (show Below w.heap.size w w1 from by rw [hw1]; exact (Below.refl _ _).alloc (Nat.le_refl _) _)
  clear hw1 CN
  obtain ⟨b, hb⟩ : ∃ x, x = w.heap.size := ⟨_, rfl⟩
  rw [show MemX (fun _ => False) w.heap.size w.heap.size [] w1 = MemX (fun _ => False) w.heap.size b [] w1 from by rw [hb]] at HM
  rw [← hb]
  clear hb
  go_wp2_with fail
  go_loopw [4] (fun v4 wr => ∃ (i : Nat), i ≤ L.length ∧ v4 = .int .i64 i ∧ Hid (MemX (fun _ => False) w.heap.size b (M.putsL [] (L.take i)) wr) ∧ Hid (Below w.heap.size w wr)) (fun v _ => L.length - (intOf v).toNat)
  case atStart => exact ⟨0, Nat.zero_le _, rfl, HM, HB⟩
  case round =>
    clear HM HB
    obtain ⟨i, hi, rfl, HM, HB⟩ := hrel
    by_cases hlt : i < L.length
    · have d1 : decide ((i : Int) < (L.length : Int)) = true := by simp; omega
      have d2 : decide (i < L.length) = true := by simp; omega
      have hii : (i : Int) < (L.length : Int) := by omega
      obtain ⟨g, o, rfl, hcl⟩ := HC.out (fun e => by rw [e] at hlt; simp at hlt)
      obtain ⟨y0, y1, y2⟩ := (hcl i hlt).below HB.out
      have HSN := Lib.hid (M.puts_snoc [] hlt)
      have HLN := Lib.hid (show (M.putsL [] (L.take i)).length < 50000 from by
        have h1 := M.puts_len (L.take i) []
        rw [List.length_take] at h1
        simp at h1
        omega)
      have HCK := Lib.hid (HOK.out _ (M.getD_memC hlt))
      clear hcl
      generalize L.getD i M.cl0 = c at *
      generalize M.putsL [] (L.take i) = A at *
      have CP := Lib.hid (putX15 c HM.out (fun k hk => hk.elim) HB.out.size HCK.out HLN.out)
      unfold PutX at CP
      generalize (if M.mayC c then (0 : Int) else 2) = rv at *
      go_wp2_with fail
      refine (CP.out).mono ?_
      rintro e w5 ⟨rfl, hm, ho⟩
      have HM5 := Lib.hid hm
      rw [← HSN.out] at HM5
      have HB5 := Lib.hid (HB.out.trans (ho.below (fun k hk => hk.1) HB.out.size))
      clear hm ho CP
      go_wp2_with fail
      go_roundw
      case rel => exact ⟨i + 1, by omega, by go_num, HM5, HB5⟩
      case measure => simp [intOf]; omega
    · obtain rfl : i = L.length := by omega
      have d1 : decide ((L.length : Int) < (L.length : Int)) = false := by simp
      have d2 : decide (L.length < L.length) = false := by simp
      rw [List.take_length] at HM
      go_wp2_with fail
      go_ret
      exact ⟨b, rfl, HM.out, HB.out⟩

end Go.Proofs.Ythidmgnfdikppaa
