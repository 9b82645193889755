import Derived.WalkKit
import Derived.WalkSpells
import Derived.WalkLawsBesides
import Derived.Lib.Hide
import Derived.Laws.IdiomStrings
import Derived.Laws.Strings
import Derived.Test.YtmammmjmipgmoaaGreatDoorChecked
import Derived.Deep.RegionWith
import Derived.BigRegion
import Derived.Test.YtmammmjmipgmoaaGreatDoorShelf
import Derived.Handy
import Derived.Lib.BitFns
import Derived.Test.YtmammmjmipgmoaaGreatDoorZQh
set_option linter.unusedVariables false
set_option maxRecDepth 100000
set_option maxHeartbeats 16000000
namespace Go.Proofs.YtmammmjmipgmoaaGreatDoor
section
open Go Go.RowKit
abbrev S (l : List UInt8) : ByteArray := ⟨l.toArray⟩
theorem Jb3 {w : World} {C : Array Value} {t : TypeId} (j : Nat) : (w.alloc (.cells C t)).cell? ⟨w.heap.size, j, none⟩ = C[j]? :=
 World.cell?_alloc_mark w C t (0, 0) j
theorem Jdz {P : Program} (src dst e : TypeId) (hs : P.underlying src = some (.slice e)) (he : P.underlying e = some (.int .u8)) (hd : P.underlying dst = some .string) (w : World) (n : Int) :
  (convert src dst (.slice (some ⟨w.heap.size, 0, none⟩) 1 1)).run P (w.alloc (.cells #[.int .u8 n] e)) = .ok (.string ⟨#[UInt8.ofNat n.toNat]⟩) (w.alloc (.cells #[.int .u8 n] e)) := by
 rw [run_convert_bytes_string _ src dst e _ 1 1 hs he hd]
 have hl := run_loadCells_list (P := P) (w.alloc (.cells #[.int .u8 n] e)) ⟨w.heap.size, 0, none⟩ ([n].map (Value.int .u8)) (fun j v hj => by
  match j, hj with
  | 0, hj => simp at hj; subst hj; simp [Addr.add])
 rw [run_bytesToString _ _ 1 1 [n] hl];rfl
theorem Jgc {P : Program} (src dst e : TypeId) (hs : P.underlying src = some (.slice e)) (he : P.underlying e = some (.int .u8)) (hd : P.underlying dst = some .string) (w : World) (n m : Int) :
  (convert src dst (.slice (some ⟨w.heap.size, 0, none⟩) 2 2)).run P (w.alloc (.cells #[.int .u8 n, .int .u8 m] e)) = .ok (.string ⟨#[UInt8.ofNat n.toNat, UInt8.ofNat m.toNat]⟩) (w.alloc (.cells #[.int .u8 n, .int .u8 m] e)) := by
 rw [run_convert_bytes_string _ src dst e _ 2 2 hs he hd]
 have hl := run_loadCells_list (P := P) (w.alloc (.cells #[.int .u8 n, .int .u8 m] e)) ⟨w.heap.size, 0, none⟩ ([n, m].map (Value.int .u8)) (fun j v hj => by
  match j, hj with
  | 0, hj => simp at hj; subst hj; simp [Addr.add]
  | 1, hj => simp at hj; subst hj; simp [Addr.add])
 rw [run_bytesToString _ _ 2 2 [n, m] hl];rfl
theorem Jfr {P : Program} (src dst e : TypeId) (hs : P.underlying src = some (.slice e)) (he : P.underlying e = some (.int .u8)) (hd : P.underlying dst = some .string) (w : World) (a b c d : Int) :
  (convert src dst (.slice (some ⟨w.heap.size, 0, none⟩) 4 4)).run P (w.alloc (.cells #[.int .u8 a, .int .u8 b, .int .u8 c, .int .u8 d] e)) =
   .ok (.string ⟨#[UInt8.ofNat a.toNat, UInt8.ofNat b.toNat, UInt8.ofNat c.toNat, UInt8.ofNat d.toNat]⟩) (w.alloc (.cells #[.int .u8 a, .int .u8 b, .int .u8 c, .int .u8 d] e)) := by
 rw [run_convert_bytes_string _ src dst e _ 4 4 hs he hd]
 have hl := run_loadCells_list (P := P) (w.alloc (.cells #[.int .u8 a, .int .u8 b, .int .u8 c, .int .u8 d] e)) ⟨w.heap.size, 0, none⟩ ([a, b, c, d].map (Value.int .u8)) (fun j v hj => by
  match j, hj with
  | 0, hj => simp at hj; subst hj; simp [Addr.add]
  | 1, hj => simp at hj; subst hj; simp [Addr.add]
  | 2, hj => simp at hj; subst hj; simp [Addr.add]
  | 3, hj => simp at hj; subst hj; simp [Addr.add])
 rw [run_bytesToString _ _ 4 4 [a, b, c, d] hl];rfl
theorem Jfl {P : Program} (src dst e T : TypeId) (hs : P.underlying src = some (.slice e)) (he : P.underlying e = some (.int .u8)) (hd : P.underlying dst = some .string) (w : World) (a b c d f g h i : Int) :
  (convert src dst (.slice (some ⟨w.heap.size, 0, none⟩) 8 8)).run P (w.alloc (.cells #[.int .u8 a, .int .u8 b, .int .u8 c, .int .u8 d, .int .u8 f, .int .u8 g, .int .u8 h, .int .u8 i] T)) =
   .ok (.string ⟨#[UInt8.ofNat a.toNat, UInt8.ofNat b.toNat, UInt8.ofNat c.toNat, UInt8.ofNat d.toNat, UInt8.ofNat f.toNat, UInt8.ofNat g.toNat, UInt8.ofNat h.toNat, UInt8.ofNat i.toNat]⟩) (w.alloc (.cells #[.int .u8 a, .int .u8 b, .int .u8 c, .int .u8 d, .int .u8 f, .int .u8 g, .int .u8 h, .int .u8 i] T)) := by
 rw [run_convert_bytes_string _ src dst e _ 8 8 hs he hd]
 have hl := run_loadCells_list (P := P) (w.alloc (.cells #[.int .u8 a, .int .u8 b, .int .u8 c, .int .u8 d, .int .u8 f, .int .u8 g, .int .u8 h, .int .u8 i] T)) ⟨w.heap.size, 0, none⟩ ([a, b, c, d, f, g, h, i].map (Value.int .u8)) (fun j v hj => by
  match j, hj with
  | 0, hj => simp at hj; subst hj; simp [Addr.add]
  | 1, hj => simp at hj; subst hj; simp [Addr.add]
  | 2, hj => simp at hj; subst hj; simp [Addr.add]
  | 3, hj => simp at hj; subst hj; simp [Addr.add]
  | 4, hj => simp at hj; subst hj; simp [Addr.add]
  | 5, hj => simp at hj; subst hj; simp [Addr.add]
  | 6, hj => simp at hj; subst hj; simp [Addr.add]
  | 7, hj => simp at hj; subst hj; simp [Addr.add])
 rw [run_bytesToString _ _ 8 8 [a, b, c, d, f, g, h, i] hl];rfl
def B (l : List UInt8) (n : Nat) : Int := ((l.getD n 0).toNat : Int)
theorem Jan (l : List UInt8) (n : Nat) : 0 ≤ B l n ∧ B l n ≤ 255 := by
 unfold B;have := (l.getD n 0).toNat_lt;omega
theorem B_at (l : List UInt8) (n : Nat) (h : n < l.length) : B l n = ((l[n]).toNat : Int) := by
 simp [B, List.getD, h]
theorem run_index_S {P : Program} (w : World) (t : TypeId) (l : List UInt8) (k : IntKind) (i : Int) (h : P.underlying t = some .string) :
  (Instr.index t (.string ⟨l.toArray⟩) (.int k i)).run P w = if 0 ≤ i ∧ i < l.length then .ok (.int .u8 (B l i.toNat)) w else (boundsPanic k i l.length .index).run P w := by
 rw [run_index_string w t _ k i h];have hsz : ((⟨l.toArray⟩ : ByteArray).size : Nat) = l.length := by simp [ByteArray.size]
 by_cases hi : 0 ≤ i ∧ i < l.length
 ·have h2 : i.toNat < l.length := by omega
  rw [dif_pos (by rw [hsz]; exact hi), if_pos hi, B_at l i.toNat h2];rfl
 ·rw [dif_neg (by rw [hsz]; exact hi), if_neg hi, hsz]
theorem S_append (a b : List UInt8) : (⟨a.toArray⟩ ++ ⟨b.toArray⟩ : ByteArray) = ⟨(a ++ b).toArray⟩ := ByteArray.mk_append_mk a b
theorem S_extract (l : List UInt8) (i j : Nat) : (⟨l.toArray⟩ : ByteArray).extract i j = ⟨((l.drop i).take (j - i)).toArray⟩ := ByteArray.extract_mk l i j
def Jah (l : List UInt8) (i j : Nat) : List UInt8 := (l.drop i).take (j - i)
theorem Jbh (l : List UInt8) (i j : Nat) (hij : i ≤ j) (h : j ≤ l.length) : (Jah l i j).length = j - i := by
 simp [Jah]; omega
theorem Ja2 {P : Program} (t : TypeId) (h : P.underlying t = some .string) (l : List UInt8) (i j : Int) (a b : Nat) (hi : i = a) (hj : j = b) (hab : a ≤ b) (hb : b ≤ l.length) (w : World) (k k' : IntKind) :
  (Instr.slice t (.string ⟨l.toArray⟩) (some (.int k i)) (some (.int k' j)) none).run P w = .ok (.string ⟨(Jah l a b).toArray⟩) w := by
 subst hi hj;have hsz : ((⟨l.toArray⟩ : ByteArray).size : Nat) = l.length := by simp [ByteArray.size]
 rw [run_slice_string w t _ k k' _ _ h (by omega) (by omega) (by rw [hsz]; omega), ByteArray.extract_mk];rfl
theorem Ja6 {P : Program} (t : TypeId) (h : P.underlying t = some .string) (l : List UInt8) (i : Int) (a : Nat) (hi : i = a) (hb : a ≤ l.length) (w : World) (k : IntKind) :
  (Instr.slice t (.string ⟨l.toArray⟩) (some (.int k i)) none none).run P w = .ok (.string ⟨(l.drop a).toArray⟩) w := by
 subst hi;have hsz : ((⟨l.toArray⟩ : ByteArray).size : Nat) = l.length := by simp [ByteArray.size]
 rw [run_slice_string_from_if w t _ k _ h, if_pos (by rw [hsz]; omega), hsz, ByteArray.extract_mk];simp only [Int.toNat_natCast];rw [List.take_of_length_le (by simp)]
theorem Jat {P : Program} (t : TypeId) (h : P.underlying t = some .string) (l : List UInt8) (j : Int) (b : Nat) (hj : j = b) (hb : b ≤ l.length) (w : World) (k : IntKind) :
  (Instr.slice t (.string ⟨l.toArray⟩) none (some (.int k j)) none).run P w = .ok (.string ⟨(l.take b).toArray⟩) w := by
 subst hj;have hsz : ((⟨l.toArray⟩ : ByteArray).size : Nat) = l.length := by simp [ByteArray.size]
 rw [run_slice_string_to_if w t _ k _ h, if_pos (by rw [hsz]; omega), ByteArray.extract_mk];simp
theorem Jaa {w a b : World} (h : Below w.heap.size w a) (k : Below a.heap.size a b) : Below w.heap.size w b := h.trans (k.mono h.size)
theorem ret_str {a b : List UInt8} (h : a = b) : Ending.returned (.string ⟨a.toArray⟩) = .returned (.string ⟨b.toArray⟩) := by rw [h]
theorem ret_string {a b : ByteArray} (h : a = b) : Ending.returned (.string a) = .returned (.string b) := by rw [h]
theorem ret_int {k : IntKind} {a b : Int} (h : a = b) : Ending.returned (.int k a) = .returned (.int k b) := by rw [h]
theorem ret_bool {a b : Bool} (h : a = b) : Ending.returned (.bool a) = .returned (.bool b) := by rw [h]
end
namespace M
def u8 (n : Nat) : UInt8 := UInt8.ofNat n
theorem u8_toNat (n : Nat) (h : n < 256) : (u8 n).toNat = n := by
 simp [u8, UInt8.toNat_ofNat']; omega
def pre : Nat → Nat → List UInt8
 | 0, _ => []
 | f + 1, n => if n = 0 then [] else pre f (n / 128) ++ [u8 (n % 128 + 128)]
def putN (n : Nat) : List UInt8 := pre 9 (n / 128) ++ [u8 (n % 128)]
theorem pre_zero (f : Nat) : pre f 0 = [] := by cases f <;> simp [pre]
theorem pre_step (f n : Nat) (h : 0 < n) : pre (f + 1) n = pre f (n / 128) ++ [u8 (n % 128 + 128)] := by
 simp [pre]; omega
theorem pre_fuel : ∀ (f n : Nat), n < 128 ^ f → pre (f + 1) n = pre f n
 | 0, n, h => by
  have : n = 0 := by simpa using h
  subst this; simp [pre]
 | f + 1, n, h => by
  by_cases h0 : n = 0
  ·subst h0; simp [pre]
  ·rw [pre_step (f + 1) n (by omega), pre_fuel f (n / 128) (by rw [Nat.pow_succ] at h; omega), pre_step f n (by omega)]
theorem pre_length : ∀ (f n : Nat), (pre f n).length ≤ f
 | 0, n => by simp [pre]
 | f + 1, n => by
  simp only [pre];split
  ·simp
  ·have := pre_length f (n / 128); simp; omega
theorem putN_length (n : Nat) : 1 ≤ (putN n).length ∧ (putN n).length ≤ 10 := by
 have := pre_length 9 (n / 128);simp [putN]; omega
theorem pre_exact : ∀ (c f n : Nat), c ≤ f → n < 128 ^ c → (c = 0 ∨ 128 ^ (c - 1) ≤ n) → pre f n = (List.range c).map (fun i => u8 (n / 128 ^ (c - 1 - i) % 128 + 128))
 | 0, f, n, _, h, _ => by
  have : n = 0 := by simpa using h
  subst this; simp [pre_zero]
 | c + 1, 0, n, hf, _, _ => by omega
 | c + 1, f + 1, n, hf, h, hc => by
  have hn : 128 ^ c ≤ n := by simpa using hc
  have hpos : 0 < n := Nat.lt_of_lt_of_le (Nat.pow_pos (by decide)) hn;rw [pre_step f n hpos, pre_exact c f (n / 128) (by omega) (by rw [Nat.pow_succ] at h; omega) ?_]
  ·rw [List.range_succ, List.map_append]
   congr 1
   ·apply List.map_congr_left
    intro i hi;have hi' : i < c := by simpa using hi
    rw [Nat.div_div_eq_div_mul, ← Nat.pow_succ', show (c - 1 - i).succ = c + 1 - 1 - i from by omega]
   ·simp
  ·rcases c with _ | c
   ·left; rfl
   ·right
    rw [Nat.pow_succ] at hn;simp; omega
def big : Nat → Nat → List UInt8
 | 0, _ => []
 | k + 1, n => u8 (n / 256 ^ k % 256) :: big k n
def bigN (n : Nat) : List UInt8 := big 8 n
theorem big_length : ∀ (k n : Nat), (big k n).length = k
 | 0, _ => rfl
 | k + 1, n => by simp [big, big_length k n]
def ld : List UInt8 → Nat
 | [] => 0
 | b :: r => if 128 ≤ b.toNat then ld r + 1 else 0
theorem ld_le : ∀ t, ld t ≤ t.length
 | [] => Nat.le_refl _
 | b :: r => by have := ld_le r; simp only [ld]; split <;> simp; omega
theorem ld_high : ∀ (t : List UInt8) (j : Nat) (h : j < ld t) (hj : j < t.length), 128 ≤ (t[j]).toNat
 | [], j, h, _ => by simp [ld] at h
 | b :: r, j, h, hj => by
  simp only [ld] at h;split at h
  ·rcases j with _ | j
   ·simpa
   ·simpa using ld_high r j (by omega) (by simpa using hj)
  ·omega
theorem ld_low : ∀ (t : List UInt8) (hj : ld t < t.length), (t[ld t]).toNat < 128
 | [], h => by simp at h
 | b :: r, h => by
  by_cases hb : 128 ≤ b.toNat
  ·have e : ld (b :: r) = ld r + 1 := by simp [ld, hb]
   have := ld_low r (by rw [e] at h; simpa using h);simp only [e]; simpa using this
  ·have e : ld (b :: r) = 0 := by simp [ld, hb]
   simp only [e]; simpa using hb
def val (ds : List UInt8) : Nat := ds.foldl (fun n d => n * 128 + d.toNat % 128) 0
theorem val_snoc (ds : List UInt8) (d : UInt8) : val (ds ++ [d]) = val ds * 128 + d.toNat % 128 := by simp [val]
theorem val_nil : val [] = 0 := rfl
theorem val_take (t : List UInt8) (j : Nat) (h : j < t.length) : val (t.take (j + 1)) = val (t.take j) * 128 + (t[j]).toNat % 128 := by
 rw [List.take_succ_eq_append_getElem h, val_snoc]
theorem snoc_ind {p : List UInt8 → Prop} (h0 : p []) (h1 : ∀ ds d, p ds → p (ds ++ [d])) (l : List UInt8) : p l := by
 have h : ∀ n (l : List UInt8), l.length = n → p l := by
  intro n;induction n with
  | zero => intro l hl; rw [List.eq_nil_of_length_eq_zero hl]; exact h0
  | succ n ih =>
   intro l hl;have hne : l ≠ [] := by intro e; simp [e] at hl
   rw [← List.dropLast_concat_getLast hne];exact h1 _ _ (ih _ (by simp [hl]))
 exact h _ l rfl
theorem val_lt (ds : List UInt8) : val ds < 128 ^ ds.length := by
 refine snoc_ind (p := fun ds => val ds < 128 ^ ds.length) (by simp [val]) ?_ ds;intro ds d ih;rw [val_snoc, List.length_append];simp only [List.length_singleton, Nat.pow_succ];omega
def gets (l : List UInt8) (at_ : Int) : Option (Nat × Nat) :=
 if at_ < 0 then none
 else
  let t := l.drop at_.toNat
  let k := ld t
  if k < t.length ∧ k ≤ 8 ∧ putN (val (t.take (k + 1))) = t.take (k + 1) then some (val (t.take (k + 1)), at_.toNat + k + 1) else none
theorem gets_out (l : List UInt8) (at_ : Int) (h : at_ < 0 ∨ (l.length : Int) ≤ at_) : gets l at_ = none := by
 unfold gets;split
 ·rfl
 ·rename_i h0
  have e : l.drop at_.toNat = [] := List.drop_of_length_le (by omega);simp [e]
theorem gets_bounds {l : List UInt8} {at_ : Int} {n next : Nat} (h : gets l at_ = some (n, next)) : 0 ≤ at_ ∧ at_ < next ∧ next ≤ l.length ∧ n ≤ 9223372036854775807 ∧ (next : Int) ≤ at_ + 9 ∧ putN n = (l.drop at_.toNat).take (next - at_.toNat) := by
 unfold gets at h;split at h
 ·simp at h
 ·rename_i h0
  simp only at h;split at h
  ·rename_i hc
   obtain ⟨h1, h2, h3⟩ := hc;simp only [Option.some.injEq, Prod.mk.injEq] at h;obtain ⟨rfl, rfl⟩ := h;have hd : (l.drop at_.toNat).length = l.length - at_.toNat := List.length_drop;have h4 := val_lt ((l.drop at_.toNat).take (ld (l.drop at_.toNat) + 1));have h5 : ((l.drop at_.toNat).take (ld (l.drop at_.toNat) + 1)).length ≤ 9 := by rw [List.length_take]; omega
   have h6 : 128 ^ ((l.drop at_.toNat).take (ld (l.drop at_.toNat) + 1)).length ≤ 128 ^ 9 := Nat.pow_le_pow_right (by decide) h5;refine ⟨by omega, by omega, by omega, by omega, by omega, ?_⟩;rw [h3];congr 1
   omega
  ·simp at h
def getTs (l : List UInt8) (at_ : Int) : Option (List UInt8 × Nat) :=
 match gets l at_ with
 | some (n, next) => if next + n ≤ l.length then some ((l.drop next).take (next + n - next), next + n) else none
 | none => none
theorem putN_exact (c n : Nat) (hc : 1 ≤ c) (hc9 : c ≤ 9) (h : n < 128 ^ c) (hlo : c = 1 ∨ 128 ^ (c - 1) ≤ n) :
  putN n = (List.range c).map (fun i => if i + 1 < c then u8 (n / 128 ^ (c - 1 - i) % 128 + 128) else u8 (n % 128)) := by
 obtain ⟨d, rfl⟩ : ∃ d, c = d + 1 := ⟨c - 1, by omega⟩
 unfold putN;rw [pre_exact d 9 (n / 128) (by omega) (by rw [Nat.pow_succ] at h; omega) ?_, List.range_succ, List.map_append]
 ·congr 1
  ·apply List.map_congr_left
   intro i hi;have hi' : i < d := by simpa using hi
   rw [if_pos (by omega), Nat.div_div_eq_div_mul, ← Nat.pow_succ', show (d - 1 - i).succ = d + 1 - 1 - i from by omega]
  ·simp
 ·rcases d with _ | d
  ·exact .inl rfl
  ·right
   have h1 : 128 ^ (d + 1) ≤ n := by simpa using hlo
   rw [Nat.pow_succ] at h1;simp; omega
theorem u8_ext {a b : UInt8} (h : a.toNat = b.toNat) : a = b := UInt8.toNat_inj.1 h
theorem u8_of (d : UInt8) : u8 d.toNat = d := u8_ext (u8_toNat _ d.toNat_lt)
theorem pre_head : ∀ (f n : Nat) (d : UInt8) (r : List UInt8), n < 128 ^ f → pre f n = d :: r → d.toNat ≠ 128
 | 0, n, d, r, _, e => by simp [pre] at e
 | f + 1, n, d, r, h, e => by
  have h0 : 0 < n := by
   rcases Nat.eq_zero_or_pos n with h0 | h0
   ·subst h0; simp [pre] at e
   ·exact h0
  rw [pre_step f n h0] at e;have h1 : n / 128 < 128 ^ f := by rw [Nat.pow_succ] at h; omega
  cases hp : pre f (n / 128) with
  | nil =>
   rw [hp] at e;simp only [List.nil_append, List.cons.injEq] at e
   have h2 : n / 128 = 0 := by
    rcases Nat.eq_zero_or_pos (n / 128) with h2 | h2
    ·exact h2
    ·rcases f with _ | f
     ·omega
     ·rw [pre_step f _ h2] at hp; simp at hp
   rw [← e.1, u8_toNat _ (by omega)];omega
  | cons d' r' =>
   rw [hp] at e;simp only [List.cons_append, List.cons.injEq] at e;rw [← e.1];exact pre_head f _ d' r' h1 hp
theorem pre_val (hs : List UInt8) : ∀ f, hs.length ≤ f → (∀ d ∈ hs, 128 ≤ d.toNat) → (∀ d r, hs = d :: r → d.toNat ≠ 128) → pre f (val hs) = hs ∧ (hs ≠ [] → 0 < val hs) := by
 refine snoc_ind (p := fun hs => ∀ f, hs.length ≤ f → (∀ d ∈ hs, 128 ≤ d.toNat) → (∀ d r, hs = d :: r → d.toNat ≠ 128) → pre f (val hs) = hs ∧ (hs ≠ [] → 0 < val hs)) ?_ ?_ hs
 ·intro f _ _ _
  exact ⟨by rw [val_nil, pre_zero], fun h => absurd rfl h⟩
 ·intro ds d ih f hf hh hd
  have hlt := d.toNat_lt;have h128 : 128 ≤ d.toNat := hh d (by simp);rw [val_snoc];obtain ⟨g, rfl⟩ : ∃ g, f = g + 1 := ⟨f - 1, by simp at hf; omega⟩
  have ih' := ih g (by simp at hf; omega) (fun x hx => hh x (by simp [hx])) (fun x r e => hd x (r ++ [d]) (by rw [e]; rfl))
  have hpos : 0 < val ds * 128 + d.toNat % 128 := by
   cases ds with
   | nil =>
    have := hd d [] rfl;simp [val]; omega
   | cons x r =>
    have := ih'.2 (by simp);omega
  refine ⟨?_, fun _ => hpos⟩;rw [pre_step g _ hpos, show (val ds * 128 + d.toNat % 128) / 128 = val ds from by omega, ih'.1, show (val ds * 128 + d.toNat % 128) % 128 + 128 = d.toNat from by omega, u8_of]
theorem putN_val (t : List UInt8) (h : ld t < t.length) (h8 : ld t ≤ 8) : putN (val (t.take (ld t + 1))) = t.take (ld t + 1) ↔ (t.getD 0 0).toNat ≠ 128 := by
 have hlow := ld_low t h;have hlen : (t.take (ld t)).length = ld t := by rw [List.length_take]; omega
 have hv := val_lt (t.take (ld t));rw [hlen] at hv;have hv9 : val (t.take (ld t)) < 128 ^ 9 := Nat.lt_of_lt_of_le hv (Nat.pow_le_pow_right (by decide) (by omega));rw [val_take t _ h];have e1 : t.take (ld t + 1) = t.take (ld t) ++ [t[ld t]] := List.take_succ_eq_append_getElem h
 have e2 : putN (val (t.take (ld t)) * 128 + (t[ld t]).toNat % 128) = pre 9 (val (t.take (ld t))) ++ [t[ld t]] := by
  unfold putN;rw [show (val (t.take (ld t)) * 128 + (t[ld t]).toNat % 128) / 128 = val (t.take (ld t)) from by omega, show (val (t.take (ld t)) * 128 + (t[ld t]).toNat % 128) % 128 = (t[ld t]).toNat from by omega, u8_of]
 rw [e1, e2]
 have hall : ∀ d ∈ t.take (ld t), 128 ≤ d.toNat := by
  intro d hd;obtain ⟨j, hj, rfl⟩ := List.getElem_of_mem hd;rw [List.getElem_take];exact ld_high t j (by omega) (by omega)
 cases t with
 | nil => simp at h
 | cons x r =>
  simp only [List.getD_cons_zero];by_cases hx : x.toNat = 128
  ·have hld : ld (x :: r) = ld r + 1 := by simp [ld, hx]
   refine ⟨fun e => ?_, fun hne => absurd hx hne⟩;have e' := (List.append_left_inj _).1 e;rw [hld, List.take_succ_cons] at e';rw [hld, List.take_succ_cons] at hv9;exact absurd hx (pre_head 9 _ x _ hv9 e')
  ·refine ⟨fun _ => hx, fun _ => ?_⟩
   congr 1
   refine (pre_val _ 9 (by omega) hall ?_).1;intro d r' e;by_cases h0 : ld (x :: r) = 0
   ·rw [h0] at e; simp at e
   ·obtain ⟨m, hm⟩ : ∃ m, ld (x :: r) = m + 1 := ⟨ld (x :: r) - 1, by omega⟩
    rw [hm, List.take_succ_cons, List.cons.injEq] at e;rw [← e.1]; exact hx
end M
namespace M
theorem val_pre : ∀ (f n : Nat), n < 128 ^ f → val (pre f n) = n
 | 0, n, h => by
  have : n = 0 := by simpa using h
  subst this; rfl
 | f + 1, n, h => by
  by_cases h0 : n = 0
  ·subst h0; rw [pre_zero]; rfl
  ·rw [pre_step f n (by omega), val_snoc, val_pre f (n / 128) (by rw [Nat.pow_succ] at h; omega), u8_toNat _ (by omega)]
   omega
theorem pre_high : ∀ (f n : Nat), ∀ d ∈ pre f n, 128 ≤ d.toNat
 | 0, n => by simp [pre]
 | f + 1, n => by
  intro d hd;by_cases h0 : n = 0
  ·subst h0; simp [pre] at hd
  ·rw [pre_step f n (by omega), List.mem_append] at hd
   rcases hd with hd | hd
   ·exact pre_high f _ d hd
   ·have e : d = u8 (n % 128 + 128) := by simpa using hd
    rw [e, u8_toNat _ (by omega)]; omega
theorem pre_len8 (n : Nat) (h : n ≤ 9223372036854775807) : (pre 9 (n / 128)).length ≤ 8 := by
 rw [pre_fuel 8 (n / 128) (by omega)];exact pre_length 8 _
theorem ld_app : ∀ (hs : List UInt8) (d : UInt8) (r : List UInt8), (∀ x ∈ hs, 128 ≤ x.toNat) → d.toNat < 128 → ld (hs ++ d :: r) = hs.length
 | [], d, r, _, hd => by simp [ld]; omega
 | x :: hs, d, r, h, hd => by
  have := ld_app hs d r (fun y hy => h y (by simp [hy])) hd;have hx := h x (by simp);simp [ld, this, hx]
theorem val_putN (n : Nat) (h : n ≤ 9223372036854775807) : val (putN n) = n := by
 unfold putN;rw [val_snoc, val_pre 9 _ (by omega), u8_toNat _ (by omega)];omega
theorem gets_put (a c : List UInt8) (n : Nat) (h : n ≤ 9223372036854775807) : gets (a ++ putN n ++ c) a.length = some (n, a.length + (putN n).length) := by
 have h8 := pre_len8 n h;have hd : (a ++ putN n ++ c).drop a.length = putN n ++ c := by rw [List.append_assoc, List.drop_left]
 have hld : ld (putN n ++ c) = (pre 9 (n / 128)).length := by
  unfold putN;rw [List.append_assoc];exact ld_app _ _ _ (pre_high 9 _) (by rw [u8_toNat _ (by omega)]; omega)
 have hlen : (putN n).length = (pre 9 (n / 128)).length + 1 := by simp [putN]
 have ht : (putN n ++ c).take ((pre 9 (n / 128)).length + 1) = putN n := by rw [← hlen, List.take_left]
 unfold gets;rw [if_neg (by omega)];simp only [Int.toNat_natCast, hd, hld, ht, val_putN n h, and_true];rw [if_pos ⟨by rw [List.length_append]; omega, h8⟩, hlen];rfl
theorem getTs_put (a c t : List UInt8) (h : t.length ≤ 9223372036854775807) : getTs (a ++ (putN t.length ++ t) ++ c) a.length = some (t, a.length + (putN t.length).length + t.length) := by
 have e : a ++ (putN t.length ++ t) ++ c = a ++ putN t.length ++ (t ++ c) := by simp
 unfold getTs;rw [e, gets_put a (t ++ c) t.length h];simp only;rw [if_pos (by simp; omega)]
 have hd : (a ++ putN t.length ++ (t ++ c)).drop (a.length + (putN t.length).length) = t ++ c := by
  rw [← List.length_append, List.drop_left]
 rw [hd, Nat.add_sub_cancel_left, List.take_left]
theorem bigN_length (n : Nat) : (bigN n).length = 8 := big_length 8 n
theorem pre_len_mono : ∀ (f a b : Nat), a ≤ b → (pre f a).length ≤ (pre f b).length
 | 0, a, b, _ => by simp [pre]
 | f + 1, a, b, h => by
  by_cases ha : a = 0
  ·subst ha; simp [pre]
  ·rw [pre_step f a (by omega), pre_step f b (by omega)]
   have := pre_len_mono f (a / 128) (b / 128) (by omega);simp; omega
theorem putN_len_mono (a b : Nat) (h : a ≤ b) : (putN a).length ≤ (putN b).length := by
 have := pre_len_mono 9 (a / 128) (b / 128) (by omega);simp [putN]; omega
end M
section
open Go Go.RowKit
attribute [local go_sem ↓] run_index_S
attribute [local go_sem] S_append S_extract
def PutRel (n m : Nat) (acc : List UInt8) : Prop := ∃ k, k + acc.length = 10 ∧ m < 128 ^ k ∧ M.pre k m ++ acc = M.putN n
theorem PutRel.start (n : Nat) (h : n ≤ 9223372036854775807) : PutRel n (n / 128) [UInt8.ofNat (n % 128)] :=
 ⟨9, rfl, by omega, rfl⟩
theorem PutRel.step {n m : Nat} {acc : List UInt8} (h : PutRel n m acc) (hm : 0 < m) : PutRel n (m / 128) ((UInt8.ofNat (m % 128) + 128) :: acc) := by
 obtain ⟨k, h1, h2, h3⟩ := h;rcases k with _ | k
 ·simp at h2; omega
 ·refine ⟨k, by simp; omega, by rw [Nat.pow_succ] at h2; omega, ?_⟩
  rw [← h3, M.pre_step k m hm, List.append_assoc, M.u8, UInt8.ofNat_add]; rfl
theorem PutRel.done {n : Nat} {acc : List UInt8} (h : PutRel n 0 acc) : acc = M.putN n := by
 obtain ⟨k, h1, h2, h3⟩ := h;simpa [M.pre_zero] using h3
theorem PutRel.length {n m : Nat} {acc : List UInt8} (h : PutRel n m acc) : acc.length ≤ 10 := by
 obtain ⟨k, h1, _⟩ := h; omega
theorem Jbn (n : Nat) (w : World) (h2 : n ≤ 9223372036854775807) :
  Calls Tryz.prog 143 #[.int .i64 n] w fun e w' => e = .returned (.string (S (M.putN n))) ∧ Below w.heap.size w w' := by
 have kone := @Jdz Tryz.prog 116 9 5 Tryz.underlying116 Tryz.underlying5 Tryz.underlying9;have hneg : decide ((n : Int) < 0) = false := by simp
 go_enter Tryz.func143, Tryz.ntmps143;go_wp2_with fail;go_loopw [0, 3] (fun v s wr => ∃ m : Nat, ∃ acc : List UInt8, v = .int .i64 m ∧ s = .string ⟨acc.toArray⟩ ∧ PutRel n m acc ∧ m ≤ 9223372036854775807 ∧ Below w.heap.size w wr) (fun v _ _ => (intOf v).toNat)
 case atStart => exact ⟨n / 128, [UInt8.ofNat (n % 128)], rfl, rfl, PutRel.start n h2, by omega, Qa _⟩
 case round =>
  obtain ⟨m, acc, rfl, rfl, hr, hm2, hb⟩ := hrel;have hl := hr.length;by_cases hm : 0 < m
  ·go_wp2_with fail
   go_roundw
   case rel => exact ⟨m / 128, (UInt8.ofNat (m % 128) + 128) :: acc, rfl, rfl, hr.step hm, by omega, hb.alloc hb.size _⟩
   case measure => simp [intOf]; omega
  ·obtain rfl : m = 0 := by omega
   go_wp2_with fail;go_ret;exact ⟨ret_str hr.done, hb⟩
theorem Jku (l : List UInt8) (at_ : Int) (w : World) (hl : l.length ≤ 9223372036854775807) (h : at_ < 0 ∨ (l.length : Int) ≤ at_) :
  Calls Tryz.prog 168 #[.string (S l), .int .i64 at_] w fun e w' => e = .returned (.tuple #[.int .i64 0, .int .i64 0, .bool false]) ∧ w = w' := by
 by_cases h1 : at_ < 0
 ·go_enter Tryz.func168, Tryz.ntmps168
  go_wp2_with fail;go_ret3
  exact ⟨rfl, rfl⟩
 ·have h2 : (l.length : Int) ≤ at_ := by omega
  clear h;go_enter Tryz.func168, Tryz.ntmps168;go_wp2_with fail;go_ret3
  exact ⟨rfl, rfl⟩
def tri (r : Option (Nat × Nat)) : Value := match r with
 | some (n, next) => .tuple #[.int .i64 n, .int .i64 next, .bool true]
 | none => .tuple #[.int .i64 0, .int .i64 0, .bool false]
theorem Jfs {l : List UInt8} {a j : Nat} (h : j < M.ld (l.drop a)) : a + j < l.length ∧ 128 ≤ B l (a + j) := by
 have h1 := M.ld_le (l.drop a);have h2 : (l.drop a).length = l.length - a := List.length_drop;refine ⟨by omega, ?_⟩;have := M.ld_high (l.drop a) j h (by omega);rw [B_at l (a + j) (by omega)];simp at this;omega
theorem Jgy {l : List UInt8} {a : Nat} (h : a + M.ld (l.drop a) < l.length) : B l (a + M.ld (l.drop a)) < 128 := by
 have := M.ld_low (l.drop a) (by rw [List.length_drop]; omega);rw [B_at l _ h];simp at this;omega
theorem Jh2 (l : List UInt8) (a c : Nat) (h : a + c < l.length) : (M.val ((l.drop a).take c) : Int) * 128 + B l (a + c) % 128 = (M.val ((l.drop a).take (c + 1)) : Nat) := by
 rw [M.val_take (l.drop a) c (by rw [List.length_drop]; omega), B_at l _ h];simp
theorem Jgz (t : List UInt8) (c : Nat) (h : c ≤ 8) : M.val (t.take c) ≤ 72057594037927935 := by
 have h1 := M.val_lt (t.take c);have h2 : (t.take c).length ≤ 8 := by rw [List.length_take]; omega
 have h3 : 128 ^ (t.take c).length ≤ 128 ^ 8 := Nat.pow_le_pow_right (by decide) h2;omega
theorem Jnh (t : List UInt8) (c : Nat) (h : c ≤ 9) : M.val (t.take c) ≤ 9223372036854775807 := by
 have h1 := M.val_lt (t.take c);have h2 : (t.take c).length ≤ 9 := by rw [List.length_take]; omega
 have h3 : 128 ^ (t.take c).length ≤ 128 ^ 9 := Nat.pow_le_pow_right (by decide) h2;omega
theorem Jg0 {l : List UInt8} {a k v : Nat} {q : List UInt8} (hk : M.ld (l.drop a) = k) (h : a + k < l.length) (h8 : k ≤ 8) (hv : M.val ((l.drop a).take (k + 1)) = v) (hq : q = (l.drop a).take (k + 1)) (hp : M.putN v = q) :
  M.gets l a = some (v, a + k + 1) := by
 have h1 : k < (l.drop a).length := by rw [List.length_drop]; omega
 subst hv hq;simp only [M.gets, Int.toNat_natCast, hk];rw [if_neg (by omega), if_pos ⟨h1, h8, hp⟩]
theorem Jds {l : List UInt8} {a k v : Nat} {q : List UInt8} (hk : M.ld (l.drop a) = k) (hv : M.val ((l.drop a).take (k + 1)) = v) (hq : q = (l.drop a).take (k + 1)) (h : ¬ (a + k < l.length ∧ k ≤ 8 ∧ M.putN v = q)) :
  M.gets l a = none := by
 have h1 : (l.drop a).length = l.length - a := List.length_drop;subst hv hq;simp only [M.gets, Int.toNat_natCast, hk];rw [if_neg (by omega), if_neg (by rw [h1]; intro ⟨x, y, z⟩; exact h ⟨by omega, y, z⟩)]
theorem tri_some {l : List UInt8} {a n m : Nat} {v : Int} {k : Int} (h : M.gets l a = some (n, m)) (hv : v = n) (hk : k = m) : Ending.returned (.tuple #[.int .i64 v, .int .i64 k, .bool true]) = .returned (tri (M.gets l a)) := by
 rw [h, hv, hk]; rfl
theorem tri_none {l : List UInt8} {a : Nat} (h : M.gets l a = none) : Ending.returned (.tuple #[.int .i64 0, .int .i64 0, .bool false]) = .returned (tri (M.gets l a)) := by
 rw [h]; rfl
theorem Jly (l : List UInt8) (a : Nat) (w : World) (hl : l.length ≤ 9223372036854775807) (h : a < l.length) :
  Calls Tryz.prog 168 #[.string (S l), .int .i64 a] w fun e w' => e = .returned (tri (M.gets l a)) ∧ Below w.heap.size w w' := by
 have hneg : decide ((a : Int) < 0) = false := by simp
 have hout : decide (l.length ≤ a) = false := by simp; omega
 have hle := M.ld_le (l.drop a);have hdl : (l.drop a).length = l.length - a := List.length_drop;have hhi : ∀ j, j < M.ld (l.drop a) → a + j < l.length ∧ 128 ≤ B l (a + j) := fun j hj => Jfs hj
 have hlo : a + M.ld (l.drop a) < l.length → B l (a + M.ld (l.drop a)) < 128 := fun h => Jgy h
 rw [hdl] at hle;clear hdl;generalize hk : M.ld (l.drop a) = k at *;have HK := Qh hk;have HHI := Qh hhi;have HLO := Qh hlo;clear hk hhi hlo;go_enter Tryz.func168, Tryz.ntmps168;go_wp2_with fail;go_loop [7] (fun e => ∃ j : Nat, j ≤ k ∧ e = .int .i64 (a + j : Nat)) (fun e => l.length - (intOf e).toNat)
 case atStart => exact ⟨0, Nat.zero_le _, rfl⟩
 case round =>
  obtain ⟨j, hj, rfl⟩ := hrel;by_cases hjk : j < k
  ·obtain ⟨hb1, hb2⟩ := HHI.o j hjk
   go_wp2_with fail;go_round
   case rel => exact ⟨j + 1, by omega, by go_num⟩
   case measure => simp [intOf]; omega
  ·obtain rfl : j = k := by omega
   by_cases hend : a + j < l.length
   ·have hlow := HLO.o hend
    have hne : ((a : Int) + (j : Int) == (l.length : Int)) = false := by simp; omega
    by_cases h8 : j ≤ 8
    ·have hd8 : decide (8 < (a : Int) + (j : Int) - (a : Int)) = false := by simp; omega
     go_wp2_with fail;go_loop [8, 9] (fun n i => ∃ c : Nat, c ≤ j + 1 ∧ n = .int .i64 (M.val ((l.drop a).take c) : Nat) ∧ i = .int .i64 (a + c : Nat)) (fun _ i => l.length - (intOf i).toNat)
     case atStart => exact ⟨0, Nat.zero_le _, rfl, rfl⟩
     case round =>
      obtain ⟨c, hc, rfl, rfl⟩ := hrel;by_cases hcj : c < j + 1
      ·have hv := Jgz (l.drop a) c (by omega)
       have hst := Jh2 l a c (by omega);have hbr := Jan l (a + c);generalize M.val ((l.drop a).take c) = v at *;have HST := Qh hst;clear hst;go_wp2_with fail;go_round
       case rel => exact ⟨c + 1, by omega, by rw [← HST.o], by go_num⟩
       case measure => simp [intOf]; omega
      ·obtain rfl : c = j + 1 := by omega
       have hv := Jnh (l.drop a) (j + 1) (by omega);have hsl := Ja2 (P := Tryz.prog) 9 Tryz.underlying9 l (a : Int) ((a : Int) + (j : Int) + 1) a (a + j + 1) rfl rfl (by omega) (by omega);have ew : IntKind.i64.wrap ((a : Int) + (j : Int) + 1) = (a : Int) + (j : Int) + 1 := IntWalk.i64_in _ (by omega);have hpc : Jah l a (a + j + 1) = (l.drop a).take (j + 1) := by unfold Jah; rw [show a + j + 1 - a = j + 1 from by omega]
       generalize hvv : M.val ((l.drop a).take (j + 1)) = v at *;generalize hpp : Jah l a (a + j + 1) = q at *;have HV := Qh hvv;have HQ := Qh hpc;clear hvv hpp hpc;by_cases hput : M.putN v = q
       ·have HP := Qh hput
        have hbq : (M.putN v == q) = true := by simpa using hput
        clear hput;go_wp2_with fail;go_region_with (go_at_call 143; refine (Jbn _ _ hv).mono ?_; rintro e w' ⟨rfl, hb⟩)
        all_goals go_wp2_with fail
        go_ret3
        exact ⟨tri_some (Jg0 HK.o hend h8 HV.o HQ.o HP.o) rfl (by omega), (Below.refl _ _).drew.trans (by assumption)⟩
       ·have HP := Qh hput
        have hbq : (M.putN v == q) = false := by simpa using hput
        clear hput;go_wp2_with fail;go_region_with (go_at_call 143; refine (Jbn _ _ hv).mono ?_; rintro e w' ⟨rfl, hb⟩)
        all_goals go_wp2_with fail
        go_ret3
        exact ⟨tri_none (Jds HK.o HV.o HQ.o (fun x => HP.o x.2.2)), (Below.refl _ _).drew.trans (by assumption)⟩
    ·have hd8 : decide (8 < (a : Int) + (j : Int) - (a : Int)) = true := by simp; omega
     go_wp2_with fail;go_ret3
     exact ⟨tri_none (Jds HK.o rfl rfl (fun x => h8 x.2.1)), Below.refl _ _⟩
   ·have hne : ((a : Int) + (j : Int) == (l.length : Int)) = true := by simp; omega
    go_wp2_with fail;go_ret3
    exact ⟨tri_none (Jds HK.o rfl rfl (fun x => hend x.1)), Below.refl _ _⟩
end
section
open Go Go.RowKit
attribute [local go_sem ↓] run_index_S
attribute [local go_sem] S_append S_extract
theorem Jc9 (l : List UInt8) (at_ : Int) (w : World) (hl : l.length ≤ 9223372036854775807) :
  Calls Tryz.prog 168 #[.string (S l), .int .i64 at_] w fun e w' => e = .returned (tri (M.gets l at_)) ∧ Below w.heap.size w w' := by
 by_cases h : at_ < 0 ∨ (l.length : Int) ≤ at_
 ·refine (Jku l at_ w hl h).mono fun e w' ⟨he, hw⟩ => ?_
  rw [M.gets_out l at_ h];exact ⟨he, hw ▸ Below.refl _ _⟩
 ·obtain ⟨a, rfl⟩ := Int.eq_ofNat_of_zero_le (show 0 ≤ at_ by omega)
  exact Jly l a w hl (by omega)
theorem Jcu (l : List UInt8) (w : World) (hl : l.length ≤ 9223372036854775000) :
  Calls Tryz.prog 144 #[.string (S l)] w fun e w' => e = .returned (.string (S (M.putN l.length ++ l))) ∧ Below w.heap.size w w' := by
 have hp := M.putN_length l.length;go_enter Tryz.func144, Tryz.ntmps144;go_wp2_with (go_at_call 143; refine (Jbn _ _ (by omega)).mono ?_; rintro e w' ⟨rfl, hb⟩)
 go_ret;exact ⟨rfl, by assumption⟩
def triT (r : Option (List UInt8 × Nat)) : Value := match r with
 | some (t, next) => .tuple #[.string (S t), .int .i64 next, .bool true]
 | none => .tuple #[.string (S []), .int .i64 0, .bool false]
theorem triT_some {r : Option (List UInt8 × Nat)} {t u : List UInt8} {n : Nat} {v : Int} (h : r = some (u, n)) (ht : t = u) (hv : v = n) : Ending.returned (.tuple #[.string ⟨t.toArray⟩, .int .i64 v, .bool true]) = .returned (triT r) := by
 rw [h, hv, ht]; rfl
theorem triT_none {r : Option (List UInt8 × Nat)} (h : r = none) : Ending.returned (.tuple #[.string ⟨#[]⟩, .int .i64 0, .bool false]) = .returned (triT r) := by
 rw [h]; rfl
theorem Jgd (l : List UInt8) (at_ : Int) (w : World) (hl : l.length ≤ 9223372036854775807) :
  Calls Tryz.prog 169 #[.string (S l), .int .i64 at_] w fun e w' => e = .returned (triT (M.getTs l at_)) ∧ Below w.heap.size w w' := by
 cases hg : M.gets l at_ with
 | none =>
  have HG := Qh hg;clear hg;go_enter Tryz.func169, Tryz.ntmps169;go_wp2_with (go_at_call 168; refine (Jc9 _ _ _ hl).mono ?_; rintro e w' ⟨he, hb⟩; rw [HG.o] at he; subst he; simp only [tri])
  go_ret3
  exact ⟨triT_none (by unfold M.getTs; rw [HG.o]), by assumption⟩
 | some p =>
  obtain ⟨n, next⟩ := p;have hbd := M.gets_bounds hg;obtain ⟨b1, b2, b3, b4, b5, _⟩ := hbd;have HG := Qh hg;clear hg;by_cases hroom : next + n ≤ l.length
  ·have hd : decide ((l.length : Int) - (next : Int) < (n : Int)) = false := by simp; omega
   have hsl := Ja2 (P := Tryz.prog) 9 Tryz.underlying9 l (next : Int) ((next : Int) + (n : Int)) next (next + n) rfl rfl (by omega) (by omega);go_enter Tryz.func169, Tryz.ntmps169;go_wp2_with (go_at_call 168; refine (Jc9 _ _ _ hl).mono ?_; rintro e w' ⟨he, hb⟩; rw [HG.o] at he; subst he; simp only [tri])
   go_ret3
   exact ⟨triT_some (n := next + n) (by unfold M.getTs; rw [HG.o]; simp only; rw [if_pos hroom]; rfl) rfl (by omega), by assumption⟩
  ·have hd : decide ((l.length : Int) - (next : Int) < (n : Int)) = true := by simp; omega
   go_enter Tryz.func169, Tryz.ntmps169;go_wp2_with (go_at_call 168; refine (Jc9 _ _ _ hl).mono ?_; rintro e w' ⟨he, hb⟩; rw [HG.o] at he; subst he; simp only [tri])
   go_ret3
   exact ⟨triT_none (by unfold M.getTs; rw [HG.o]; simp only; rw [if_neg hroom]), by assumption⟩
end
section
open Go Go.RowKit
attribute [local go_sem ↓] run_index_S
attribute [local go_sem] S_append S_extract
theorem Jo9 (n : Nat) (h : n ≤ 9223372036854775807) : (⟨#[UInt8.ofNat (n / 72057594037927936), UInt8.ofNat (n / 281474976710656 % 256), UInt8.ofNat (n / 1099511627776 % 256), UInt8.ofNat (n / 4294967296 % 256), UInt8.ofNat (n / 16777216 % 256), UInt8.ofNat (n / 65536 % 256), UInt8.ofNat (n / 256 % 256), UInt8.ofNat (n % 256)]⟩ : ByteArray) = S (M.bigN n) := by
 have e : n / 72057594037927936 = n / 72057594037927936 % 256 := by omega
 rw [e];simp [M.bigN, M.big, M.u8]
theorem Jpa (n : Nat) (w : World) (h2 : n ≤ 9223372036854775807) :
  Calls Tryz.prog 162 #[.int .i64 n] w fun e w' => e = .returned (.string (S (M.bigN n))) ∧ Below w.heap.size w w' := by
 have hneg : decide ((n : Int) < 0) = false := by simp
 have kk := @Jfl Tryz.prog 116 9 5 186 Tryz.underlying116 Tryz.underlying5 Tryz.underlying9;go_enter Tryz.func162, Tryz.ntmps162;go_wp2_with fail;refine wp_loop_rounds 9 ?_;repeat (rw [rounds_succ]; go_wp2_with fail)
 go_ret;exact ⟨ret_string (Jo9 n h2), Qa _⟩
theorem Jni (n : Nat) (h : n ≤ 9223372036854775807) : Lib.bitLen n ≤ 63 := Lib.bitLen_le n 63 (by omega) (by omega)
theorem Jdh : ∀ (f x : Nat), x < 2 ^ f → x < 2 ^ Lib.bitLenAux f x ∧ (x ≠ 0 → 1 ≤ Lib.bitLenAux f x ∧ 2 ^ (Lib.bitLenAux f x - 1) ≤ x)
 | 0, x, h => by
  have : x = 0 := by simpa using h
  subst this; simp [Lib.bitLenAux]
 | f + 1, x, h => by
  by_cases h0 : x = 0
  ·subst h0; simp [Lib.bitLenAux]
  ·have ih := Jdh f (x / 2) (by rw [Nat.pow_succ] at h; omega)
   simp only [Lib.bitLenAux, if_neg h0];obtain ⟨h1, h2⟩ := ih;have e : (2 : Nat) ^ (1 + Lib.bitLenAux f (x / 2)) = 2 * 2 ^ Lib.bitLenAux f (x / 2) := by rw [Nat.add_comm, Nat.pow_succ, Nat.mul_comm]
   refine ⟨by omega, fun _ => ⟨by omega, ?_⟩⟩;rw [show 1 + Lib.bitLenAux f (x / 2) - 1 = Lib.bitLenAux f (x / 2) from by omega];by_cases h3 : x / 2 = 0
   ·have h1' : x = 1 := by omega
    subst h1';have : Lib.bitLenAux f 0 = 0 := by cases f <;> simp [Lib.bitLenAux]
    simp [this]
   ·obtain ⟨h4, h5⟩ := h2 h3
    have e2 : (2 : Nat) ^ Lib.bitLenAux f (x / 2) = 2 * 2 ^ (Lib.bitLenAux f (x / 2) - 1) := by
     rw [← Nat.pow_succ']; congr 1; omega
    omega
theorem Jlz (n L c : Nat) (h : n ≤ 9223372036854775807) (hL : L = Lib.bitLen n) (hc : c = (L + 6) / 7) (hn : 1 ≤ L) : n < 128 ^ c ∧ 128 ^ (c - 1) ≤ n := by
 have h1 := Jdh 64 n (by omega)
 have h0 : n ≠ 0 := by
  intro e;subst e;rw [hL] at hn;simp [Lib.bitLen, Lib.bitLenAux] at hn
 obtain ⟨h2, h3⟩ := h1;obtain ⟨h4, h5⟩ := h3 h0;change n < 2 ^ Lib.bitLen n at h2
 change 2 ^ (Lib.bitLen n - 1) ≤ n at h5
 rw [← hL] at h2 h5;have e1 : (128 : Nat) ^ c = 2 ^ (7 * c) := by rw [Nat.pow_mul]
 have e2 : (128 : Nat) ^ (c - 1) = 2 ^ (7 * (c - 1)) := by rw [Nat.pow_mul]
 rw [e1, e2];exact ⟨Nat.lt_of_lt_of_le h2 (Nat.pow_le_pow_right (by decide) (by omega)), Nat.le_trans (Nat.pow_le_pow_right (by decide) (by omega)) h5⟩
theorem info5 : (Tryz.prog.info? 5).map (fun i => (i.zero, i.size, i.bytes)) = some (some (.int .u8 0), 1, 1) := by kernel_rfl
theorem Jl0 : ∀ y : Fin 256, bits .or .u8 (y.val : Int) 128 = ((y.val % 128 + 128 : Nat) : Int) := by decide +kernel
theorem or128 (x : Nat) : bits .or .u8 ((x : Int) % 256) 128 = (x : Int) % 128 + 128 := by
 have := Jl0 ⟨x % 256, by omega⟩;simp only at this;rw [show ((x : Int) % 256) = ((x % 256 : Nat) : Int) from by omega, this];omega
theorem Jen : ∀ y : Fin 256, bits .andNot .u8 (y.val : Int) 128 = ((y.val % 128 : Nat) : Int) := by decide +kernel
theorem Jnj (x : Nat) : bits .andNot .u8 ((x : Int) % 128 + 128) 128 = (x : Int) % 128 := by
 have := Jen ⟨x % 128 + 128, by omega⟩;simp only at this;rw [show ((x : Int) % 128 + 128) = ((x % 128 + 128 : Nat) : Int) from by omega, this];omega
def Jbi (n c k : Nat) : List Value := (List.range c).map (fun i => if i < k then .int .u8 (((n / 128 ^ (c - 1 - i) : Nat) : Int) % 128 + 128) else .int .u8 0)
theorem Jb1 (n c k j : Nat) (hj : j < c) : (Jbi n c k)[j]? = some (if j < k then .int .u8 (((n / 128 ^ (c - 1 - j) : Nat) : Int) % 128 + 128) else .int .u8 0) := by
 simp [Jbi, hj]
theorem Jhk (n c k : Nat) (hk : k < c) : (Jbi n c k).set k (.int .u8 (((n / 128 ^ (c - 1 - k) : Nat) : Int) % 128 + 128)) = Jbi n c (k + 1) := by
 apply List.ext_getElem?
 intro j;rw [List.getElem?_set];by_cases hj : j < c
 ·rw [Jb1 n c (k + 1) j hj]
  by_cases e : k = j
  ·subst e; simp [Jbi, hj]
  ·rw [if_neg e, Jb1 n c k j hj]
   by_cases h1 : j < k
   ·rw [if_pos h1, if_pos (by omega)]
   ·rw [if_neg h1, if_neg (by omega)]
 ·have e : ¬ k = j := by omega
  rw [if_neg e];simp [Jbi, hj]
theorem Jhl (n c : Nat) : Jbi n c 0 = (madeCells (Value.int IntKind.u8 0).cells (c * 1)).toList := by
 rw [show (Value.int IntKind.u8 0).cells = #[.int .u8 0] from rfl, toList_madeCells_one];apply List.ext_getElem?
 intro j;by_cases hj : j < c
 ·rw [Jb1 n c 0 j hj]; simp [hj]
 ·simp [Jbi, hj]
theorem Jh3 (n c : Nat) (hc : 1 ≤ c) (hc9 : c ≤ 9) (h : n < 128 ^ c) (hlo : c = 1 ∨ 128 ^ (c - 1) ≤ n) (j : Nat) (hj : j < (M.putN n).length) :
  ((Jbi n c c).set (c - 1) (.int .u8 ((n : Int) % 128)))[j]? = some (.int .u8 ((M.putN n)[j].toNat : Int)) := by
 have he := M.putN_exact c n hc hc9 h hlo;have hlen : (M.putN n).length = c := by rw [he]; simp
 have hjc : j < c := by omega
 have e1 : (M.putN n)[j] = if j + 1 < c then M.u8 (n / 128 ^ (c - 1 - j) % 128 + 128) else M.u8 (n % 128) := by simp [he]
 rw [e1, List.getElem?_set];by_cases h1 : c - 1 = j
 ·rw [if_pos h1, if_pos (by simp [Jbi]; omega), if_neg (by omega), M.u8_toNat _ (by omega)]; rfl
 ·rw [if_neg h1, Jb1 n c c j hjc, if_pos hjc, if_pos (by omega), M.u8_toNat _ (by omega)]; rfl
theorem shift7 (n e : Nat) : (n : Int) / 2 ^ (7 * e) = ((n / 128 ^ e : Nat) : Int) := by
 rw [show (128 : Nat) = 2 ^ 7 from rfl, ← Nat.pow_mul];simp
theorem Jkd (n : Nat) (w : World) (h2 : n ≤ 9223372036854775807) :
  Calls Tryz.prog 118 #[.int .i64 n] w fun e w' => e = .returned (.string (S (M.putN n))) ∧ Below w.heap.size w w' := by
 have hneg : decide ((n : Int) < 0) = false := by simp
 have hL := Jni n h2;obtain ⟨L, hLL⟩ : ∃ L, L = Lib.bitLen n := ⟨_, rfl⟩
 rw [← hLL] at hL;obtain ⟨c, hc⟩ : ∃ c, c = max 1 ((L + 6) / 7) := ⟨_, rfl⟩
 have hdig : n < 128 ^ c ∧ (c = 1 ∨ 128 ^ (c - 1) ≤ n) := by
  by_cases hn : 1 ≤ L
  ·have := Jlz n L ((L + 6) / 7) h2 hLL rfl hn
   rw [show c = (L + 6) / 7 from by omega];exact ⟨this.1, .inr this.2⟩
  ·have h1 := Jdh 64 n (by omega)
   have h3 : Lib.bitLenAux 64 n = 0 := by change Lib.bitLen n = 0; omega
   rw [h3] at h1;have h4 := h1.1;rw [show c = 1 from by omega];exact ⟨by omega, .inl rfl⟩
 have hmx : max (1 : Int) (((L : Int) + 7 - 1) / 7) = (c : Int) := by omega
 have hc1 : 1 ≤ c := by omega
 have hc9 : c ≤ 9 := by omega
 have HL := Qh hLL;have HD := Qh hdig;clear hLL hc hdig;obtain ⟨i0, hi, hz0, hz1, hz2⟩ := info_parts info5;go_enter Tryz.func118, Tryz.ntmps118
 go_wp2_with (first
  | (go_at_call 161; refine (Tryz.bits_Len n w (by omega) (by omega)).mono ?_; rintro e w' ⟨rfl, hw⟩; obtain rfl := hw.symm; rw [Int.toNat_natCast, ← HL.o])
  | (at_make; refine wpList_make_full _ rfl (.tmp 15) (.tmp 15) 116 rfl w.heap.size 5 i0 (.int .u8 0) 1 Tryz.underlying116 hi hz0 hz1 .i64 .i64 c c c rfl rfl rfl rfl (by rw [hz2]; omega) (by unfold maxLen; omega) (Nat.le_refl _) ?_; intro w1 hown1 hgrow1))
 go_loopw [18] (fun i wr => ∃ k : Nat, k ≤ c ∧ i = .int .i64 k ∧ wr.ownsRow w.heap.size 5 1 (.slice (some ⟨w.heap.size, 0, none⟩) c c) c (Jbi n c k) ∧ Below w.heap.size w wr) (fun i _ => c - (intOf i).toNat)
 case atStart =>
  refine ⟨0, Nat.zero_le _, rfl, ?_, (Below.refl _ _).grown (by assumption) (Nat.le_refl _) (by intro k h; cases h)⟩;rw [Jhl];assumption
 case round =>
  obtain ⟨k, hk, rfl, hown, hb⟩ := hrel;by_cases hkc : k < c
  ·have hcell : wr.cell? ⟨w.heap.size, k, none⟩ = some (.int .u8 0) := by rw [hown.cellAt k (by omega), Jb1 n c k k hkc, if_neg (by omega)]
   have hfz := hown.frozenAt k;have hsh := shift7 n (c - 1 - k);have hor := or128 (n / 128 ^ (c - 1 - k));have hst := hown.stored k (.int .u8 (((n / 128 ^ (c - 1 - k) : Nat) : Int) % 128 + 128));rw [Jhk n c k hkc] at hst;generalize n / 128 ^ (c - 1 - k) = x at *;have HST := Qh hst;clear hst;go_wp2_with fail;go_roundw
   case rel => exact ⟨k + 1, by omega, by go_num, HST.o.1, hb.setCell (Nat.le_refl _) _⟩
   case measure => simp [intOf]; omega
  ·obtain rfl : k = c := by omega
   have hcell : wr.cell? ⟨w.heap.size, k - 1, none⟩ = some (.int .u8 ((n : Int) % 128 + 128)) := by rw [hown.cellAt (k - 1) (by omega), Jb1 n k k (k - 1) (by omega), if_pos (by omega)]; simp
   have hfz := hown.frozenAt (k - 1);have hcl := Jnj n;have hst := hown.stored (k - 1) (.int .u8 ((n : Int) % 128));have hlen : (M.putN n).length = k := by rw [M.putN_exact k n hc1 hc9 HD.o.1 HD.o.2]; simp
   have hconv := run_convert_bytes_back (P := Tryz.prog) (wr.setCell ⟨w.heap.size, k - 1, none⟩ (.int .u8 ((n : Int) % 128))) 116 9 5 ⟨w.heap.size, 0, none⟩ k (M.putN n) Tryz.underlying116 Tryz.underlying5 Tryz.underlying9
    (fun j hj => by rw [Addr.add_lit, Nat.zero_add, hst.1.cellAt j (by omega)]; exact Jh3 n k hc1 hc9 HD.o.1 HD.o.2 j hj)
   rw [hlen] at hconv;have HST := Qh hst;clear hst hlen;go_wp2_with fail;go_ret;exact ⟨rfl, hb.setCell (Nat.le_refl _) _⟩
end
section
open Go Go.RowKit
attribute [local go_sem ↓] run_index_S
attribute [local go_sem] S_append S_extract
theorem Jg1 : ∀ n : Int, 0 ≤ n → n < 2 ^ 63 → IntKind.i64.wrap n = n := fun n h0 h1 => IntWalk.i64_in n (by omega)
theorem join7 (v b : Int) (h0 : 0 ≤ v) (h1 : v ≤ 72057594037927935) (hb0 : 0 ≤ b) (hb1 : b < 128) : bits .or .i64 (v * 128) b = v * 128 + b :=
 bits_join .i64 63 (by decide) Jg1 7 _ _ (by omega) (by omega) (by omega) hb0 (by omega) (by omega)
theorem Jft (v b : Int) (h0 : 0 ≤ v) (h1 : v ≤ 36028797018963967) (hb0 : 0 ≤ b) (hb1 : b < 256) : bits .or .i64 (v * 256) b = v * 256 + b :=
 bits_join .i64 63 (by decide) Jg1 8 _ _ (by omega) (by omega) (by omega) hb0 (by omega) (by omega)
theorem Jl1 (y : Int) (h0 : 0 ≤ y) (h1 : y ≤ 255) : bits .andNot .u8 y 128 = y % 128 := by
 have := Jen ⟨y.toNat, by omega⟩;simp only at this;rw [show y = ((y.toNat : Nat) : Int) from by omega, this];omega
theorem Jl2 (l : List UInt8) (a : Nat) : ((l.drop a).getD 0 0).toNat = (B l a).toNat := by
 simp [B, List.getD]
theorem Jpb {l : List UInt8} {a k : Nat} (hk : M.ld (l.drop a) = k) (h : a + k < l.length) (h8 : k ≤ 8) (h128 : B l a ≠ 128) :
  M.gets l a = some (M.val ((l.drop a).take (k + 1)), a + k + 1) := by
 subst hk;have hr := Jan l a;refine Jg0 rfl h h8 rfl rfl ?_;exact (M.putN_val (l.drop a) (by rw [List.length_drop]; omega) h8).2 (by rw [Jl2]; omega)
theorem Jke {l : List UInt8} {a k : Nat} (hk : M.ld (l.drop a) = k) (h : ¬ (a + k < l.length ∧ k ≤ 8 ∧ B l a ≠ 128)) : M.gets l a = none := by
 subst hk;have hr := Jan l a;refine Jds rfl rfl rfl ?_;intro ⟨h1, h2, h3⟩;refine h ⟨h1, h2, ?_⟩;have := (M.putN_val (l.drop a) (by rw [List.length_drop]; omega) h2).1 h3;rw [Jl2] at this;omega
theorem get_in (l : List UInt8) (a : Nat) (w : World) (hl : l.length ≤ 9223372036854775807) (h : a < l.length) :
  Calls Tryz.prog 152 #[.string (S l), .int .i64 a] w fun e w' => e = .returned (tri (M.gets l a)) ∧ w = w' := by
 have hneg : decide ((a : Int) < 0) = false := by simp
 have hout : decide (l.length ≤ a) = false := by simp; omega
 by_cases h128 : B l a = 128
 ·have hq : (B l a == 128) = true := by simpa using h128
  have H := Qh h128;clear h128;go_enter Tryz.func152, Tryz.ntmps152;go_wp2_with fail;go_ret3
  exact ⟨tri_none (Jke rfl (fun x => x.2.2 H.o)), rfl⟩
 ·have hq : (B l a == 128) = false := by simpa using h128
  have H := Qh h128;clear h128;have hle := M.ld_le (l.drop a);have hdl : (l.drop a).length = l.length - a := List.length_drop;have hhi : ∀ j, j < M.ld (l.drop a) → a + j < l.length ∧ 128 ≤ B l (a + j) := fun j hj => Jfs hj
  have hlo : a + M.ld (l.drop a) < l.length → B l (a + M.ld (l.drop a)) < 128 := fun h => Jgy h
  rw [hdl] at hle;clear hdl;generalize hk : M.ld (l.drop a) = k at *;have HK := Qh hk;have HHI := Qh hhi;have HLO := Qh hlo;clear hk hhi hlo;obtain ⟨m, hm⟩ : ∃ m : Nat, m = min 9 (l.length - a) := ⟨_, rfl⟩
  have hmin : min (9 : Int) ((l.length : Int) - (a : Int)) = (m : Int) := by omega
  have hm9 : m ≤ 9 := by omega
  have hml : a + m ≤ l.length := by omega
  have HM := Qh hm;clear hm;go_enter Tryz.func152, Tryz.ntmps152;go_wp2_with fail;go_loop [4, 28] (fun n i => ∃ c : Nat, c ≤ k ∧ c ≤ m ∧ n = .int .i64 (M.val ((l.drop a).take c) : Nat) ∧ i = .int .i64 c) (fun _ i => m - (intOf i).toNat)
  case atStart => exact ⟨0, Nat.zero_le _, Nat.zero_le _, rfl, rfl⟩
  case round =>
   obtain ⟨c, hck, hcm, rfl, rfl⟩ := hrel;by_cases hc : c < m
   ·have hv := Jgz (l.drop a) c (by omega)
    have hst := Jh2 l a c (by omega);have hbr := Jan l (a + c);have hj := join7 (M.val ((l.drop a).take c)) (B l (a + c) % 128) (by omega) (by omega) (by omega) (by omega);have hcl := Jl1 (B l (a + c)) hbr.1 hbr.2;generalize hvv : M.val ((l.drop a).take c) = v at *;have HST := Qh hst;clear hst hvv;by_cases hk2 : c < k
    ·have hhigh := (HHI.o c hk2).2
     go_wp2_with fail;go_round
     case rel => exact ⟨c + 1, by omega, by omega, by rw [← HST.o], by go_num⟩
     case measure => simp [intOf]; omega
    ·obtain rfl : c = k := by omega
     have hlow := HLO.o (by omega);go_wp2_with fail;go_ret3
     exact ⟨tri_some (Jpb HK.o (by omega) (by omega) H.o) HST.o (by omega), rfl⟩
   ·obtain rfl : c = m := by omega
    go_wp2_with fail;go_ret3
    exact ⟨tri_none (Jke HK.o (fun x => by have := HM.o; omega)), rfl⟩
theorem Je6 (l : List UInt8) (at_ : Int) (w : World) (hl : l.length ≤ 9223372036854775807) :
  Calls Tryz.prog 152 #[.string (S l), .int .i64 at_] w fun e w' => e = .returned (tri (M.gets l at_)) ∧ w = w' := by
 by_cases h1 : at_ < 0
 ·go_enter Tryz.func152, Tryz.ntmps152
  go_wp2_with fail;go_ret3
  exact ⟨by rw [M.gets_out l at_ (.inl h1)]; rfl, rfl⟩
 ·by_cases h2 : (l.length : Int) ≤ at_
  ·go_enter Tryz.func152, Tryz.ntmps152
   go_wp2_with fail;go_ret3
   exact ⟨by rw [M.gets_out l at_ (.inr h2)]; rfl, rfl⟩
  ·obtain ⟨a, rfl⟩ := Int.eq_ofNat_of_zero_le (show 0 ≤ at_ by omega)
   exact get_in l a w hl (by omega)
theorem Jjg (l : List UInt8) (w : World) (hl : l.length ≤ 9223372036854775000) :
  Calls Tryz.prog 119 #[.string (S l)] w fun e w' => e = .returned (.string (S (M.putN l.length ++ l))) ∧ Below w.heap.size w w' := by
 have hp := M.putN_length l.length;go_enter Tryz.func119, Tryz.ntmps119;go_wp2_with (go_at_call 118; refine (Jkd _ _ (by omega)).mono ?_; rintro e w' ⟨rfl, hb⟩)
 go_ret;exact ⟨rfl, by assumption⟩
theorem Jjh (l : List UInt8) (at_ : Int) (w : World) (hl : l.length ≤ 9223372036854775807) :
  Calls Tryz.prog 153 #[.string (S l), .int .i64 at_] w fun e w' => e = .returned (triT (M.getTs l at_)) ∧ w = w' := by
 cases hg : M.gets l at_ with
 | none =>
  have HG := Qh hg;clear hg;go_enter Tryz.func153, Tryz.ntmps153;go_wp2_with (go_at_call 152; refine (Je6 _ _ _ hl).mono ?_; rintro e w' ⟨he, rfl⟩; rw [HG.o] at he; subst he; simp only [tri])
  go_ret3
  exact ⟨triT_none (by unfold M.getTs; rw [HG.o]), rfl⟩
 | some p =>
  obtain ⟨n, next⟩ := p;have hbd := M.gets_bounds hg;obtain ⟨b1, b2, b3, b4, b5, _⟩ := hbd;have HG := Qh hg;clear hg;by_cases hroom : next + n ≤ l.length
  ·have hd : decide ((l.length : Int) - (next : Int) < (n : Int)) = false := by simp; omega
   have hsl := Ja2 (P := Tryz.prog) 9 Tryz.underlying9 l (next : Int) ((next : Int) + (n : Int)) next (next + n) rfl rfl (by omega) (by omega);go_enter Tryz.func153, Tryz.ntmps153;go_wp2_with (go_at_call 152; refine (Je6 _ _ _ hl).mono ?_; rintro e w' ⟨he, rfl⟩; rw [HG.o] at he; subst he; simp only [tri])
   go_ret3
   exact ⟨triT_some (n := next + n) (by unfold M.getTs; rw [HG.o]; simp only; rw [if_pos hroom]; rfl) rfl (by omega), rfl⟩
  ·have hd : decide ((l.length : Int) - (next : Int) < (n : Int)) = true := by simp; omega
   go_enter Tryz.func153, Tryz.ntmps153;go_wp2_with (go_at_call 152; refine (Je6 _ _ _ hl).mono ?_; rintro e w' ⟨he, rfl⟩; rw [HG.o] at he; subst he; simp only [tri])
   go_ret3
   exact ⟨triT_none (by unfold M.getTs; rw [HG.o]; simp only; rw [if_neg hroom]), rfl⟩
end
end Go.Proofs.YtmammmjmipgmoaaGreatDoor
