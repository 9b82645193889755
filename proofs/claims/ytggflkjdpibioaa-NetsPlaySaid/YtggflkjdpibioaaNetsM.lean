/- Plain mathematics of layer 7: chains of slots. No Go here. -/
import Derived.Test.YtggflkjdpibioaaKit
namespace Go.Proofs.Ytggflkjdpibioaa
set_option linter.unusedVariables false
open Go Go.RowKit

/-- A message. -/
structure Ml where
  src : Int
  dst : Int
  dat : List UInt8

theorem Ml.ext' {a b : Ml} (h1 : a.src = b.src) (h2 : a.dst = b.dst) (h3 : a.dat = b.dat) : a = b := by cases a; cases b; cases h1; cases h2; cases h3; rfl
/-- The empty message. -/
def ml0 : Ml := ⟨0, 0, []⟩
def upd {α : Type} (f : Nat → α) (j : Nat) (v : α) : Nat → α := fun i => if i = j then v else f i
theorem upd_self {α : Type} (f : Nat → α) (j : Nat) (v : α) : upd f j v j = v := if_pos rfl
theorem upd_ne {α : Type} (f : Nat → α) {j i : Nat} (v : α) (h : i ≠ j) : upd f j v i = f i := if_neg h

/-- From a on, by nx, one comes to us, one by one, and then nowhere. -/
def Chain (nx : Nat → Int) : Nat → List Nat → Prop
  | a, [] => nx a = -1
  | a, u :: us => nx a = (u : Int) ∧ Chain nx u us
theorem Chain.congr {nx ny : Nat → Int} : ∀ {us : List Nat} {a b : Nat}, Chain nx a us → ny b = nx a → (∀ u, u ∈ us → ny u = nx u) → Chain ny b us
  | [], a, b, h, hb, _ => hb.trans h
  | u :: t, a, b, h, hb, hu => ⟨hb.trans h.1, Chain.congr h.2 (hu u (by simp)) fun x hx => hu x (by simp [hx])⟩
/-- Where the k-th link stands. -/
def node (a : Nat) (us : List Nat) : Nat → Nat
  | 0 => a
  | k + 1 => us.getD k 0
theorem node_cons (a u : Nat) (t : List Nat) (k : Nat) : node a (u :: t) (k + 1) = node u t k := by
  cases k with
  | zero => rfl
  | succ k => rfl
theorem node_mem (a : Nat) (us : List Nat) (k : Nat) (h : k ≤ us.length) : node a us k = a ∨ node a us k ∈ us := by
  cases k with
  | zero => exact .inl rfl
  | succ k =>
    right
    simp only [node, List.getD, List.getElem?_eq_getElem (show k < us.length from h), Option.getD_some]
    exact List.getElem_mem _
theorem Chain.link {nx : Nat → Int} : ∀ {us : List Nat} {a k : Nat}, Chain nx a us → k ≤ us.length → nx (node a us k) = if k < us.length then (us.getD k 0 : Int) else -1
  | [], a, 0, h, _ => h
  | u :: t, a, 0, h, _ => h.1
  | u :: t, a, k + 1, h, hk => by
    rw [node_cons, Chain.link h.2 (by simpa using hk)]
    simp
theorem Chain.insert {nx : Nat → Int} {v : Nat} : ∀ {us : List Nat} {a k : Nat}, Chain nx a us → k ≤ us.length → a ∉ us → us.Nodup → v ∉ us → v ≠ a →
    Chain (upd (upd nx v (nx (node a us k))) (node a us k) (v : Int)) a (us.take k ++ v :: us.drop k)
  | us, a, 0, h, _, ha, hn, hv, hva => by
    refine ⟨upd_self _ _ _, h.congr ?_ fun u hu => ?_⟩
    · rw [upd_ne _ _ (by simpa [node] using hva), upd_self]; rfl
    · rw [upd_ne _ _ (by rintro rfl; exact ha hu), upd_ne _ _ (by rintro rfl; exact hv hu)]
  | u :: t, a, k + 1, h, hk, ha, hn, hv, hva => by
    have hk' : k ≤ t.length := by simpa using hk
    rw [node_cons]
    simp only [List.mem_cons, not_or] at ha hv
    rw [List.nodup_cons] at hn
    have hm := node_mem u t k hk'
    refine ⟨?_, Chain.insert h.2 hk' hn.1 hn.2 hv.2 hv.1⟩
    rw [upd_ne _ _ (by rintro e; rcases hm with q | q; exact ha.1 (e.trans q); exact ha.2 (e ▸ q)), upd_ne _ _ (Ne.symm hva)]
    exact h.1
theorem Chain.erase {nx : Nat → Int} : ∀ {us : List Nat} {a k : Nat}, Chain nx a us → k < us.length → a ∉ us → us.Nodup →
    Chain (upd nx (node a us k) (nx (us.getD k 0))) a (us.take k ++ us.drop (k + 1))
  | u :: t, a, 0, h, _, ha, hn => by
    simp only [List.mem_cons, not_or] at ha
    refine h.2.congr (upd_self _ _ _) fun x hx => upd_ne _ _ (by rintro rfl; exact ha.2 hx)
  | u :: t, a, k + 1, h, hk, ha, hn => by
    have hk' : k < t.length := by simpa using hk
    rw [node_cons]
    simp only [List.mem_cons, not_or] at ha
    rw [List.nodup_cons] at hn
    have hm := node_mem u t k (by omega)
    refine ⟨?_, Chain.erase h.2 hk' hn.1 hn.2⟩
    rw [upd_ne _ _ (by rintro e; rcases hm with q | q; exact ha.1 (e.trans q); exact ha.2 (e ▸ q))]
    exact h.1

/-- The slots of a net: those of its messages, in order, and the free ones. -/
structure Slots (nx : Nat → Int) (us fs : List Nat) : Prop where
  used : Chain nx 64 us
  free : Chain nx 65 fs
  once : (us ++ fs).Nodup
  lt : ∀ u, u ∈ us ++ fs → u < 64
  all : us.length + fs.length = 64

theorem Slots.parts {nx : Nat → Int} {us fs : List Nat} (h : Slots nx us fs) : us.Nodup ∧ fs.Nodup ∧ (∀ u, u ∈ us → u ∉ fs) ∧ (∀ u, u ∈ us → u < 64) ∧ ∀ u, u ∈ fs → u < 64 := by
  have h1 := List.nodup_append.1 h.once
  exact ⟨h1.1, h1.2.1, fun u hu hf => h1.2.2 u hu u hf rfl, fun u hu => h.lt u (by simp [hu]), fun u hu => h.lt u (by simp [hu])⟩
theorem perm_insert (us ft : List Nat) (v k : Nat) : List.Perm ((us.take k ++ v :: us.drop k) ++ ft) (us ++ v :: ft) := by
  have h1 : List.Perm (us.take k ++ v :: us.drop k) (v :: us) := by
    refine List.perm_middle.trans ?_
    rw [List.take_append_drop]
  exact (h1.append_right ft).trans (by simpa using (List.perm_middle (a := v) (l₁ := us) (l₂ := ft)).symm)
theorem perm_erase (us fs : List Nat) (k : Nat) (h : k < us.length) : List.Perm ((us.take k ++ us.drop (k + 1)) ++ us.getD k 0 :: fs) (us ++ fs) := by
  have e : us = us.take k ++ us.getD k 0 :: us.drop (k + 1) := by
    conv => lhs; rw [← List.take_append_drop k us, List.drop_eq_getElem_cons h]
    simp [List.getD, List.getElem?_eq_getElem h]
  have h1 : List.Perm ((us.take k ++ us.drop (k + 1)) ++ us.getD k 0 :: fs) (us.getD k 0 :: ((us.take k ++ us.drop (k + 1)) ++ fs)) := List.perm_middle
  refine h1.trans ?_
  conv => rhs; rw [e]
  rw [List.append_assoc, List.append_assoc]
  exact (List.perm_middle (a := us.getD k 0) (l₁ := us.take k) (l₂ := us.drop (k + 1) ++ fs)).symm
/-- A free slot is laid in. -/
theorem Slots.insert {nx : Nat → Int} {us ft : List Nat} {v k : Nat} (h : Slots nx us (v :: ft)) (hk : k ≤ us.length) :
    Slots (upd (upd (upd nx 65 (nx v)) v (nx (node 64 us k))) (node 64 us k) (v : Int)) (us.take k ++ v :: us.drop k) ft := by
  obtain ⟨n1, n2, ho, l1, l2⟩ := h.parts
  rw [List.nodup_cons] at n2
  have hv64 := l2 v (by simp)
  have hvu : v ∉ us := fun hu => ho v hu (by simp)
  have hm := node_mem 64 us k hk
  have hp := perm_insert us ft v k
  refine ⟨?_, ?_, hp.nodup_iff.2 h.once, fun u hu => h.lt u (hp.mem_iff.1 hu), ?_⟩
  · have hc : Chain (upd nx 65 (nx v)) 64 us := h.used.congr (upd_ne _ _ (by omega)) fun u hu => upd_ne _ _ (by have := l1 u hu; omega)
    have hi := hc.insert (v := v) hk (fun hu => by have := l1 _ hu; omega) n1 hvu (by omega)
    have e : upd nx 65 (nx v) (node 64 us k) = nx (node 64 us k) := upd_ne _ _ (by rcases hm with q | q; omega; have := l1 _ q; omega)
    rw [e] at hi
    exact hi
  · have hne : node 64 us k ≠ 65 := by rcases hm with q | q; omega; have := l1 _ q; omega
    refine h.free.2.congr ?_ fun u hu => ?_
    · rw [upd_ne _ _ (Ne.symm hne), upd_ne _ _ (by omega), upd_self]
    · have hu64 := l2 u (by simp [hu])
      rw [upd_ne _ _ (by rintro e; rcases hm with q | q; omega; exact ho _ q (by simp [← e, hu])), upd_ne _ _ (by rintro rfl; exact n2.1 hu), upd_ne _ _ (by omega)]
  · have := h.all
    simp at this ⊢
    omega
/-- A slot is taken out. -/
theorem Slots.erase {nx : Nat → Int} {us fs : List Nat} {k : Nat} (h : Slots nx us fs) (hk : k < us.length) :
    Slots (upd (upd (upd nx (node 64 us k) (nx (us.getD k 0))) (us.getD k 0) (nx 65)) 65 (us.getD k 0 : Int)) (us.take k ++ us.drop (k + 1)) (us.getD k 0 :: fs) := by
  obtain ⟨n1, n2, ho, l1, l2⟩ := h.parts
  have hmem : us.getD k 0 ∈ us := by
    simp only [List.getD, List.getElem?_eq_getElem hk, Option.getD_some]
    exact List.getElem_mem _
  have hv64 := l1 _ hmem
  have hm := node_mem 64 us k (by omega)
  have hp := perm_erase us fs k hk
  have hno : us.getD k 0 ∉ us.take k ++ us.drop (k + 1) := by
    have := (List.nodup_append.1 (hp.nodup_iff.2 h.once)).2.2
    exact fun hu => this _ hu _ (by simp) rfl
  refine ⟨?_, ⟨upd_self _ _ _, ?_⟩, hp.nodup_iff.2 h.once, fun u hu => h.lt u (hp.mem_iff.1 hu), ?_⟩
  · have he := h.used.erase hk (fun hu => by have := l1 _ hu; omega) n1
    refine he.congr ?_ fun u hu => ?_
    · rw [upd_ne _ _ (by omega), upd_ne _ _ (by omega)]
    · have hu64 : u < 64 := h.lt u (hp.mem_iff.1 (List.mem_append.2 (.inl hu)))
      rw [upd_ne _ _ (by omega), upd_ne _ _ (by rintro rfl; exact hno hu)]
  · refine h.free.congr ?_ fun u hu => ?_
    · rw [upd_ne _ _ (by omega), upd_self]
    · have hu64 := l2 u hu
      rw [upd_ne _ _ (by omega), upd_ne _ _ (by rintro rfl; exact ho _ hmem hu), upd_ne _ _ (by rintro e; rcases hm with q | q; omega; exact ho _ q (e ▸ hu))]
  · have := h.all
    simp
    omega

/-- All slots free, as New lays them. -/
theorem chain_range {nx : Nat → Int} (d : Nat) : ∀ a, (∀ j, a ≤ j → j < a + d → nx j = (j : Int) + 1) → nx (a + d) = -1 → Chain nx a ((List.range' (a + 1) d)) := by
  induction d with
  | zero => intro a _ h; exact h
  | succ d ih =>
    intro a h he
    refine ⟨by rw [h a (by omega) (by omega)]; rfl, ih (a + 1) (fun j h1 h2 => h j (by omega) (by omega)) (by rw [show a + 1 + d = a + (d + 1) from by omega]; exact he)⟩
theorem slots_new {nx : Nat → Int} (h : ∀ j, j < 63 → nx j = (j : Int) + 1) (h63 : nx 63 = -1) (h64 : nx 64 = -1) (h65 : nx 65 = 0) : Slots nx [] (List.range' 0 64) := by
  refine ⟨h64, ⟨h65, chain_range 63 0 (fun j _ hj => h j (by omega)) h63⟩, ?_, ?_, ?_⟩
  · rw [List.nil_append]; exact List.nodup_range'
  · intro u hu; simp [List.mem_range'] at hu; omega
  · simp

end Go.Proofs.Ytggflkjdpibioaa
