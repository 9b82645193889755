import Derived.Test.YtmammmjmipgmoaaGreatDoorZHa
import Derived.Test.YtmammmjmipgmoaaGreatDoorZO
import Derived.Laws.AppendOwnNone
import Derived.Test.YtmammmjmipgmoaaGreatDoorZQh
set_option linter.unusedVariables false
set_option maxRecDepth 100000
set_option maxHeartbeats 16000000
namespace Go.Proofs.YtmammmjmipgmoaaGreatDoor
open Go Go.RowKit Go.Maps
theorem Jem {ops : Array Oper} {rest : List Oper} {o : Oper} {a : Act} {Q : Exit → Act → World → Prop} (w : World) (hgd : o.guard = none) (s x : Operand) (t : TypeId)
  (ho : o.op = .call { callee := .builtin .append, args := #[s, x], argTypes := #[t, t] })
  (base : Nat) (e : TypeId) (i : TypeInfo) (z : Value) (size bytes : Nat) (ht : Tryz.prog.underlying t = some (.slice e)) (hi : Tryz.prog.info? e = some i) (hz : i.zero = some z)
  (hsize : i.size = size) (hby : i.bytes = bytes) (hzs : z.cells.size = size) (hsz : 0 < size)
  (v : Value) (n : Nat) (xs : List Value) (hs : a.eval s = v) (hown : w.ownsRow base e size v n xs)
  (base' : Nat) (u : Value) (m : Nat) (ys : List Value) (hx : a.eval x = u) (hu : w.ownsRow base' e size u m ys) (h1 : ∀ u ∈ ys, u.oneCell' = true)
  (h63 : n + m ≤ maxLen) (hbytes : (n + m) * bytes ≤ 140737488355328) (hbase : base ≤ w.heap.size)
  (h : ∀ v' w', w'.ownsRow base e size v' (n + m) (xs ++ ys) → w.grownBy w' v.ownBlock → wpList Tryz.prog ops Q rest (a.put o.dst v') w') : wpList Tryz.prog ops Q (o :: rest) a w := by
 have hul := hu.1;rcases hu.2 with ⟨rfl, rfl⟩ | ⟨g, cap, cur, rfl, _, hg, _⟩
 ·have hy : ys = [] := List.eq_nil_of_length_eq_zero (by rw [hul]; simp)
  subst hy;refine wpList_append_own_none hgd s x t ho base e i size ht hi v n xs hs hown hx (h v w ?_ ⟨rfl, rfl, rfl, Nat.le_refl _, fun _ _ _ => rfl⟩);simpa using hown
 ·refine wpList_append_own w hgd s x t ho base e i z size bytes ht hi hz hsize hby hzs hsz v n xs hs hown ⟨g, 0, none⟩ m cap ys hx hul (fun j u' hj => ?_) h1 h63 hbytes hbase (fun v' w' h2 h3 _ => h v' w' h2 h3)
  exact hu.cells (g := g) rfl j u' hj
namespace Hl
def smOf (s : Sg) : Sm := ⟨s.n, ends s.L⟩
def RdOk (D : Dk.St) (Z : List Sg) : Prop := ∀ s ∈ Z, ∃ tl, Dk.read (nm s.n) D = (0, dat s.L ++ tl) ∧ Mays s.L ∧ Tail tl ∧ s.L.length ≤ 1000
def readAll (a c : Nat) (Z : List Sg) : List M.Sp := Z.flatMap fun s => part6 s.n a c s.L
theorem readAll_snoc (a c : Nat) (Z : List Sg) (s : Sg) : readAll a c (Z ++ [s]) = readAll a c Z ++ part6 s.n a c s.L := by unfold readAll; rw [List.flatMap_append]; simp
theorem readAll_len (a c : Nat) : ∀ (Z : List Sg), (∀ s ∈ Z, s.L.length ≤ 1000) → (readAll a c Z).length ≤ Z.length * 1000
 | [], _ => Nat.le_refl _
 | s :: Z, h => by
  have h1 := readAll_len a c Z (fun t ht => h t (List.mem_cons_of_mem _ ht));have h2 := h s (List.mem_cons_self ..);have h3 := part6_len s.n a c s.L;have e : readAll a c (s :: Z) = part6 s.n a c s.L ++ readAll a c Z := rfl;rw [e, List.length_append, List.length_cons];omega
theorem part6_low {n a c : Nat} {L : List M.Sp} (h : n + L.length ≤ a) : part6 n a c L = [] := by
 unfold part6;exact List.drop_eq_nil_of_le (by rw [List.length_take]; omega)
theorem part6_high {n a c : Nat} {L : List M.Sp} (h : c ≤ n) : part6 n a c L = [] := by
 unfold part6;rw [Nat.sub_eq_zero_of_le h];simp
def upTo6 (D : Dk.St) (G : Lg) (from_ most : Int) : Nat := from_.toNat + min most.toNat (sureL D G - from_.toNat)
def readE (D : Dk.St) (G : Lg) (from_ most : Int) : Int := if state D G ≠ 0 then state D G else if most < 0 then 2 else if from_ < (firstL D G : Nat) ∨ (sureL D G : Nat) < from_ then 4 else 0
def readS (Z : List Sg) (D : Dk.St) (G : Lg) (from_ most : Int) : List M.Sp := if readE D G from_ most = 0 then readAll from_.toNat (upTo6 D G from_ most) Z else []
def readNb (D : Dk.St) (G : Lg) (from_ most : Int) : Nat := if readE D G from_ most = 0 then upTo6 D G from_ most else 0
theorem ends_srt (L : List M.Sp) : (ends L).Pairwise (· ≤ ·) := by
 rw [List.pairwise_iff_getElem];intro i j hi hj hij;have e1 := ends_at L (i := i) (by rw [ends_len] at hi; exact hi);have e2 := ends_at L (i := j) (by rw [ends_len] at hj; exact hj);rw [List.getElem?_eq_getElem hi] at e1;rw [List.getElem?_eq_getElem hj] at e2;injection e1 with e1
 injection e2 with e2
 rw [e1, e2];exact dat_take_le L (by omega)
theorem srt_of {G : Lg} {Z : List Sg} (h : G.S = Z.map smOf) : Srt G := fun s hs => by
 rw [h] at hs;obtain ⟨z, _, rfl⟩ := List.mem_map.1 hs;exact ends_srt z.L
end Hl
section
variable {X : Nat → Prop} {B b d : Nat} {G : Hl.Lg} {D : Dk.St} {w w' : World}
open Hl
structure RaI6 (w : World) (Z : List Sg) (a c i : Nat) (K : List M.Sp) (v : Value) (wr : World) : Prop where
 b : Below w.heap.size w wr
 r : wr.ownsRow w.heap.size 39 8 v K.length (sps K)
 k : K = readAll a c (Z.take i)
theorem Joy (L : List M.Sp) : ∀ u ∈ sps L, u.oneCell' = true := by
 intro u hu;obtain ⟨x, _, h⟩ := List.mem_flatMap.1 hu;exact Jgh x u h
theorem RaI6.skip {w wr w' : World} {Z : List Sg} {a c i : Nat} {K : List M.Sp} {v : Value} (h : RaI6 w Z a c i K v wr) (hb : Below wr.heap.size wr w') (hi : i < Z.length) (hp : part6 Z[i].n a c Z[i].L = []) : RaI6 w Z a c (i + 1) K v w' :=
 ⟨Jaa h.b hb, Jaf h.r hb, by rw [List.take_succ_eq_append_getElem hi, readAll_snoc, hp, List.append_nil]; exact h.k⟩
def Jeg (K : List M.Sp) (n : Nat) (er : Int) (w : World) (e : Ending) (w' : World) : Prop :=
 ∃ ao cap, e = .returned (.tuple #[.slice ao K.length cap, .int .i64 (n : Nat), .int .i64 er]) ∧ w'.ownsRow w.heap.size 39 8 (.slice ao K.length cap) K.length (sps K) ∧ Below w.heap.size w w'
theorem Jb9 {w w' : World} {er : Int} (hb : Below w.heap.size w w') : Jeg [] 0 er w (.returned (.tuple #[.slice none 0 0, .int .i64 0, .int .i64 er])) w' := ⟨none, 0, rfl, World.ownsRow_nil _ _ _ _, hb⟩
theorem Jdp (h : HgX X B b d D G w) (Z : List Sg) (hG : G.S = Z.map smOf) (hZ : RdOk D Z) (from_ most : Int) (hf : -9223372036854775808 ≤ from_ ∧ from_ ≤ 9223372036854775807) (hmo : -9223372036854775808 ≤ most ∧ most ≤ 9223372036854775807) (hsu : sureL D G ≤ 1000) :
  Calls Tryz.prog 17 #[.pointer (some ⟨b, 0, none⟩), .int .i64 from_, .int .i64 most] w (Jeg (readS Z D G from_ most) (readNb D G from_ most) (readE D G from_ most) w) := by
 have CS := Qh (Jay h);unfold readS readNb;obtain ⟨er, her⟩ : ∃ er, er = readE D G from_ most := ⟨_, rfl⟩
 rw [← her];unfold readE at her;by_cases hs : Hl.state D G = 0
 ·rw [if_neg (by simp [hs])] at her
  rw [hs] at CS;by_cases h0 : most < 0
  ·rw [if_pos h0] at her
   subst her;rw [if_neg (by decide), if_neg (by decide)];have d0 : decide (most < 0) = true := by simpa using h0
   clear h hG hZ hsu hs;go_enter Tryz.func17, Tryz.ntmps17;go_wp2_with fail;with_reducible refine CS.o.mono ?_
   rintro e w1 ⟨rfl, hb⟩;have HB := Qh hb;clear hb CS;go_wp2_with fail;go_ret3
   exact Jb9 HB.o
  ·rw [if_neg h0] at her
   have d0 : decide (most < 0) = false := by simpa using h0
   have CU := Qh (fun W (k : Below w.heap.size w W) => Je0 (h.below k) (srt_of hG));have CF := Qh (fun W (k : Below w.heap.size w W) => Jdb (h.below k))
   have HF2 := Qh (show firstL D G ≤ 1000000000 from by
    unfold firstL;rw [if_pos hs];cases hS : G.S with
    | nil => simp
    | cons s r =>
     have := (h.ok.seg s (by rw [hS]; simp)).1;unfold Sm.fin at this;simp
     omega)
   unfold upTo6;obtain ⟨su, hsu2⟩ : ∃ su, su = sureL D G := ⟨_, rfl⟩
   obtain ⟨fi, hfi⟩ : ∃ fi, fi = firstL D G := ⟨_, rfl⟩
   rw [← hsu2, ← hfi] at her;rw [← hsu2] at hsu CU ⊢;rw [← hfi] at CF HF2;clear hsu2 hfi;by_cases hbad : from_ < (fi : Nat) ∨ (su : Nat) < from_
   ·rw [if_pos hbad] at her
    subst her;rw [if_neg (by decide), if_neg (by decide)];have RN := Qh (fun w' (k : Below w.heap.size w w') => Jb9 (er := 4) k);clear h hG hZ hs;by_cases hb1 : from_ < (fi : Nat)
    ·have d1 : decide (from_ < (fi : Int)) = true := by simpa using hb1
     clear hbad;go_enter Tryz.func17, Tryz.ntmps17;go_wp2_with fail;with_reducible refine CS.o.mono ?_
     rintro e w1 ⟨rfl, hb⟩;have HB := Qh hb;clear hb CS;go_wp2_with fail;with_reducible refine (CU.o _ HB.o).mono ?_
     rintro e w2 ⟨rfl, hb⟩;replace HB := Qh (Jaa HB.o hb);clear hb CU;go_wp2_with fail;with_reducible refine (CF.o _ HB.o).mono ?_
     rintro e w3 ⟨rfl, hb⟩;replace HB := Qh (Jaa HB.o hb);clear hb CF;go_wp2_with fail;go_ret3
     exact RN.o _ HB.o
    ·have d1 : decide (from_ < (fi : Int)) = false := by simpa using hb1
     have d2 : decide ((su : Int) < from_) = true := by simpa using hbad.resolve_left hb1
     clear hbad;go_enter Tryz.func17, Tryz.ntmps17;go_wp2_with fail;with_reducible refine CS.o.mono ?_
     rintro e w1 ⟨rfl, hb⟩;have HB := Qh hb;clear hb CS;go_wp2_with fail;with_reducible refine (CU.o _ HB.o).mono ?_
     rintro e w2 ⟨rfl, hb⟩;replace HB := Qh (Jaa HB.o hb);clear hb CU;go_wp2_with fail;with_reducible refine (CF.o _ HB.o).mono ?_
     rintro e w3 ⟨rfl, hb⟩;replace HB := Qh (Jaa HB.o hb);clear hb CF;go_wp2_with fail;go_ret3
     exact RN.o _ HB.o
   ·rw [if_neg hbad] at her
    subst her;rw [if_pos rfl, if_pos rfl];obtain ⟨a, rfl⟩ : ∃ a : Nat, from_ = (a : Int) := ⟨from_.toNat, by omega⟩
    obtain ⟨mo, rfl⟩ : ∃ m : Nat, most = (m : Int) := ⟨most.toNat, by omega⟩
    simp only [Int.toNat_natCast];have hau : a ≤ su := by omega
    obtain ⟨c, hc⟩ : ∃ c, c = a + min mo (su - a) := ⟨_, rfl⟩
    have hcs : c ≤ su := by omega
    have hcw : IntKind.i64.wrap ((a : Int) + min (mo : Int) ((su : Int) - (a : Int))) = (c : Int) := by
     rw [IntWalk.i64_in _ (by omega)]; omega
    have hmn : min (mo : Int) ((su : Int) - (a : Int)) = ((c - a : Nat) : Int) := by omega
    have hsb : IntKind.i64.wrap ((su : Int) - (a : Int)) = (su : Int) - (a : Int) := IntWalk.i64_in _ (by omega);have HCW2 := Qh (show IntKind.i64.wrap ((a : Int) + ((c - a : Nat) : Int)) = (c : Int) from by rw [IntWalk.i64_in _ (by omega)]; omega);rw [← hc];have d1 : decide ((a : Int) < (fi : Int)) = false := by simp; omega
    have d1' : decide (a < fi) = false := by simp; omega
    have d2 : decide ((su : Int) < (a : Int)) = false := by simp; omega
    have d2' : decide (su < a) = false := by simp; omega
    obtain ⟨vs, P, hL, hD, hN, hv, h3⟩ := h
    have CR := Qh (fun (z : Sg) (hz : z ∈ Z) (v : Value) (hn : z.n ≤ 1000) W (k : Below w.heap.size w W) => show Calls Tryz.prog 57 #[.pointer (some ⟨b, 0, none⟩), .agg #[.int .i64 (z.n : Nat), v], .int .i64 (a : Nat), .int .i64 (c : Nat)] W fun e w' => ∃ ao cap, e = .returned (.tuple #[.slice ao (part6 z.n a c z.L).length cap, .int .i64 0]) ∧ w'.ownsRow W.heap.size 39 8 (.slice ao (part6 z.n a c z.L).length cap) (part6 z.n a c z.L).length (sps (part6 z.n a c z.L)) ∧ Below W.heap.size W w' from by
     obtain ⟨tl, q1, q2, q3, q4⟩ := hZ z hz;have q5 := dat_most q2;have q6 := q3.2
     exact Jm8 (smOf z) v a c (hD.below k) (hv.below k) z.L tl q1 (hL.box.below k) (by show 2 < 4; decide) rfl q2 q3 (by rw [List.length_append]; omega) q4 hn (by omega) (by omega))
    have hZl : ∀ s ∈ Z, s.L.length ≤ 1000 := fun s hs => by obtain ⟨tl, _, _, _, q⟩ := hZ s hs; exact q
    obtain ⟨ao, cap, rfl, -, -⟩ := hL.row.val;have C3 := Qh hL.cell3;have HL := Qh hL;have HG := Qh hG;have HZl := Qh hZl;have hM : P.length ≤ 1000 := by have := hL.ok.few; have := hL.len; omega
    have hMZ : Z.length = P.length := by rw [hL.len, hG, List.length_map]
    have HI0 := Qh (fun W (k : Below w.heap.size w W) => (show RaI6 w Z a c 0 [] (.slice none 0 0) W from ⟨k, World.ownsRow_nil _ _ _ _, by simp [readAll]⟩));have HCW := Qh hcw;obtain ⟨i0, z0, hi0, hz0, h01, h02, h03⟩ := Jdl;clear hL hD hN hv h3 hs hG hZ hZl hbad hcw hc;generalize hMM : P.length = PL at *;have hcw2 : IntKind.i64.wrap ((a : Int) + ((c - a : Nat) : Int)) = (c : Int) := HCW2.o;go_enter Tryz.func17, Tryz.ntmps17;go_wp2_with fail;with_reducible refine CS.o.mono ?_
    rintro e w1 ⟨rfl, hb⟩;have HB := Qh hb;clear hb CS;go_wp2_with fail;with_reducible refine (CU.o _ HB.o).mono ?_
    rintro e w2 ⟨rfl, hb⟩;replace HB := Qh (Jaa HB.o hb);clear hb CU;go_wp2_with fail;with_reducible refine (CF.o _ HB.o).mono ?_
    rintro e w3 ⟨rfl, hb⟩;replace HB := Qh (Jaa HB.o hb);have c3 := Jab C3.o HB.o;clear hb CF;go_wp2_with fail;have HI := Qh (HI0.o w3 HB.o);clear HI0 d0 d1 d1' d2 d2' hcw2 hmn hsb hf hmo c3;go_loopw [6, 46] (fun v6 vi wr => ∃ (i cap6 : Nat) (ao6 : Option Addr) (K : List M.Sp), i ≤ PL ∧ vi = .int .i64 i ∧ v6 = .slice ao6 K.length cap6 ∧ Hid (RaI6 w Z a c i K v6 wr)) (fun _ vi _ => PL - (intOf vi).toNat)
    case atStart => exact ⟨0, 0, none, [], Nat.zero_le _, rfl, rfl, HI⟩
    case round =>
     clear HI;obtain ⟨w4, rfl⟩ : ∃ x, x = wr := ⟨_, rfl⟩
     obtain ⟨i, cap6, ao6, K, hi, rfl, rfl, HI⟩ := hrel;by_cases hlt : i < PL
     ·have d1 : decide ((i : Int) < (PL : Int)) = true := by simpa using hlt
      have d1' : decide (i < PL) = true := by simpa using hlt
      have hip : i < P.length := by omega
      obtain ⟨g, o, cap', hv9, k1, k2, k3, k4, k5, k6⟩ := HL.o.row.shape (by omega);rw [hMM] at hv9;simp only [Value.slice.injEq] at hv9;obtain ⟨rfl, -, rfl⟩ := hv9;obtain ⟨p, hp⟩ : ∃ p, p = P[i] := ⟨_, rfl⟩
      have hpm : p ∈ P := by rw [hp]; exact List.getElem_mem _
      have hat := segsV_at P i hip;rw [← hp] at hat;have hiz : i < Z.length := by omega
      obtain ⟨z, hz⟩ : ∃ z, z = Z[i] := ⟨_, rfl⟩
      have hzm : z ∈ Z := by rw [hz]; exact List.getElem_mem _
      have hpz : p.1 = smOf z := by
       have e1 : (P.map (·.1))[i]'(by simp; omega) = (Z.map smOf)[i]'(by simp; omega) := by simp only [HL.o.seg, HG.o]
       simp only [List.getElem_map] at e1;rw [hp, e1, hz]
      have hpn : p.1.n = z.n := by rw [hpz]; rfl
      have hpe : p.1.es.length = z.L.length := by rw [hpz]; exact ends_len _
      have HB4 := Qh HI.o.b;have c5 : w4.cell? ⟨g, o + i * 2, none⟩ = some (.int .i64 (z.n : Nat)) := Jab (by rw [k3 (i * 2) (by omega), Nat.mul_comm i 2, ← hpn]; exact hat.1) HB4.o;have c6 : w4.cell? ⟨g, o + i * 2 + 1, none⟩ = some p.2 := Jab (by rw [Nat.add_assoc, k3 (i * 2 + 1) (by omega), Nat.mul_comm i 2]; exact hat.2) HB4.o;have hpS : p.1 ∈ G.S := by rw [← HL.o.seg]; exact List.mem_map_of_mem hpm
      have hrow := HL.o.ends p hpm;have hsm := (HL.o.ok.seg p.1 hpS).1;unfold Sm.fin at hsm;rw [hpe, hpn] at hsm;obtain ⟨ae, ce, hp2⟩ := Jac hrow;rw [hpe] at hp2;rw [hp2] at c6;have CE := Qh (fun W => Jgs z.n z.L.length ce ae (by omega) (by omega) W);have CR2 := Qh (fun W (k : Below w.heap.size w W) => CR.o z hzm (.slice ae z.L.length ce) (by omega) W k)
      have hlen2 : (readAll a c (Z.take i)).length ≤ 1000 * 1000 := by
       have := readAll_len a c (Z.take i) (fun s hs => HZl.o s (List.mem_of_mem_take hs));have h2 : (Z.take i).length ≤ 1000 := by rw [List.length_take]; omega
       omega
      rw [← HI.o.k] at hlen2;have hpl : (part6 z.n a c z.L).length ≤ 1000 := by have := HZl.o z hzm; rw [part6_len]; omega
      have HSK := Qh (fun (w' : World) (hb : Below w4.heap.size w4 w') (hq : part6 z.n a c z.L = []) => HI.o.skip hb hiz (by rw [← hz]; exact hq));have HNX := Qh (fun (w' : World) (v : Value) (hb : Below w.heap.size w w') (hr : w'.ownsRow w.heap.size 39 8 v (K ++ part6 z.n a c z.L).length (sps (K ++ part6 z.n a c z.L))) => (show RaI6 w Z a c (i + 1) (K ++ part6 z.n a c z.L) v w' from ⟨hb, hr, by rw [List.take_succ_eq_append_getElem hiz, readAll_snoc, ← HI.o.k, ← hz]⟩));have HLO := Qh (fun (q : z.n + z.L.length ≤ a) => part6_low (c := c) (L := z.L) q);have HHI := Qh (fun (q : c ≤ z.n) => part6_high (a := a) (L := z.L) q);have HRK := Qh HI.o.r;clear k1 k2 k3 k4 k5 k6 hp hpm hat hz hzm hpz hpn hpe hpS hrow hp2 HI CR;generalize part6 z.n a c z.L = pt at *;generalize z.L.length = L at *;generalize z.n = pn at *;go_wp2_with fail;have hb5 := (Below.refl w4.heap.size w4).alloc (Nat.le_refl _) (.cells #[.int .i64 (pn : Nat), .slice ae L ce] 88);have bk5 := Jae #[.int .i64 (pn : Nat), .slice ae L ce] 88 w4;have HB5 := Qh hb5;obtain ⟨bg, hbg⟩ : ∃ x, x = w4.heap.size := ⟨_, rfl⟩
      have HBK := Qh bk5;rw [← hbg] at HBK ⊢;clear hb5 bk5 hbg c5 c6;generalize w4.alloc (.cells #[.int .i64 (pn : Nat), .slice ae L ce] 88) = w5 at *;have q0 := HBK.o.cell 0;have q1 := HBK.o.cell 1;go_wp2_with fail;with_reducible refine (CE.o _).mono ?_
      rintro e w6 ⟨rfl, hb⟩;have HB6 := Qh (Jaa HB5.o hb);have HBK6 := Qh (HBK.o.below hb);clear hb CE q0 q1;have q0 := HBK6.o.cell 0;have q1 := HBK6.o.cell 1;by_cases h1 : pn + L ≤ a
      ·have d3 : decide ((pn : Int) + (L : Int) ≤ (a : Int)) = true := by simp; omega
       have d3' : decide (pn + L ≤ a) = true := by simpa using h1
       have HEnd := Qh (HSK.o w6 HB6.o (HLO.o h1));go_wp2_with fail;go_roundw
       case rel => exact ⟨i + 1, cap6, ao6, K, by omega, by go_num, rfl, HEnd⟩
       case measure => simp [intOf]; omega
      ·have d3 : decide ((pn : Int) + (L : Int) ≤ (a : Int)) = false := by simp; omega
       have d3' : decide (pn + L ≤ a) = false := by simpa using h1
       by_cases h2 : c ≤ pn
       ·have d4 : decide ((c : Int) ≤ (pn : Int)) = true := by simp; omega
        have d4' : decide (c ≤ pn) = true := by simpa using h2
        have HEnd := Qh (HSK.o w6 HB6.o (HHI.o h2));go_wp2_with fail;go_roundw
        case rel => exact ⟨i + 1, cap6, ao6, K, by omega, by go_num, rfl, HEnd⟩
        case measure => simp [intOf]; omega
       ·have d4 : decide ((c : Int) ≤ (pn : Int)) = false := by simp; omega
        have d4' : decide (c ≤ pn) = false := by simpa using h2
        have HB6w := Qh (Jaa HB4.o HB6.o);have HK6 := Qh (Jaf HRK.o HB6.o);clear HSK HLO HHI HRK;go_wp2_with fail;with_reducible refine (CR2.o _ HB6w.o).mono ?_
        rintro e w7 ⟨aop, capp, rfl, hrp, hb7⟩;have HP := Qh hrp;have HB7 := Qh (Jaa HB6w.o hb7);have HK7 := Qh (Jaf HK6.o hb7);clear hrp hb7 CR2 q0 q1;go_wp2_with (at_builtin; refine Jem _ rfl _ _ 52 rfl w.heap.size 39 i0 z0 8 88 Tryz.underlying52 hi0 hz0 h01 h02 h03 (by decide) (.slice ao6 K.length cap6) K.length (sps K) rfl HK7.o w6.heap.size (.slice aop pt.length capp) pt.length (sps pt) rfl HP.o (Joy _) (by unfold maxLen; omega) (by omega) HB7.o.size ?_; intro v8 w8 ho8 hg8; obtain ⟨ao8, cap8, rfl⟩ := Jac ho8; have HEnd := Qh (HNX.o w8 (.slice ao8 (K.length + pt.length) cap8) (HB7.o.grown hg8 HB7.o.size (fun q hq => (HK7.o.lt q hq).1)) (by rw [List.length_append, Jd8]; exact ho8)); clear ho8 hg8)
        go_roundw
        case rel => exact ⟨i + 1, cap8, ao8, K ++ pt, by omega, by go_num, by simp, HEnd⟩
        case measure => simp [intOf]; omega
     ·have d1 : decide ((i : Int) < (PL : Int)) = false := by simpa using hlt
      have d1' : decide (i < PL) = false := by simpa using hlt
      have HE := Qh (show K = readAll a c Z from by rw [HI.o.k, List.take_of_length_le (by omega)]);have HRK := Qh HI.o.r;have HB4 := Qh HI.o.b;clear HI;go_wp2_with fail;go_ret3
      rw [← HE.o];exact ⟨ao6, cap6, rfl, HRK.o, HB4.o⟩
 ·rw [if_pos hs] at her
  subst her;rw [if_neg hs, if_neg hs];clear h hG hZ hsu;generalize Hl.state D G = z at *;have dz : (z != 0) = true := by simpa using hs
  go_enter Tryz.func17, Tryz.ntmps17;go_wp2_with fail;with_reducible refine CS.o.mono ?_
  rintro e w1 ⟨rfl, hb⟩;have HB := Qh hb;clear hb CS;go_wp2_with fail;go_ret3
  exact Jb9 HB.o
end
end Go.Proofs.YtmammmjmipgmoaaGreatDoor
