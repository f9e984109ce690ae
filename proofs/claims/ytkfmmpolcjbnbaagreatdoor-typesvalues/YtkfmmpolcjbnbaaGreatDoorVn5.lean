/-
  Plain facts on the document's floats: the shifting to and fro is together.
  Plain facts of texts in quotes.
  The walk of the document's quoted: bytes in quotes.
-/
import Derived.Test.YtkfmmpolcjbnbaaGreatDoorVn1
import Derived.Test.YtkfmmpolcjbnbaaGreatDoorWhl2
import Derived.Test.YtkfmmpolcjbnbaaGreatDoorDig
import Derived.Test.YtkfmmpolcjbnbaaGreatDoorVn3
import Derived.Test.YtkfmmpolcjbnbaaGreatDoorRd4
namespace Go.Proofs.YtkfmmpolcjbnbaaGreatDoor
open Pl Go.RowKit

theorem hexC_ft (c d : Nat) (h : hexC false c = some d) : hexC true c = some d := by
  unfold hexC at h ⊢
  by_cases h1 : 48 ≤ c ∧ c ≤ 57
  · rw [if_pos h1] at h ⊢; exact h
  rw [if_neg h1] at h ⊢
  by_cases h2 : 97 ≤ c ∧ c ≤ 102
  · rw [if_pos h2] at h ⊢; exact h
  rw [if_neg h2, if_neg (by intro h; exact absurd h.1 (by decide))] at h
  cases h
theorem hexF_ft : ∀ (l : List UInt8) (a n : Nat), hexF false a l = some n → hexF true a l = some n
  | [], a, n, h => h
  | c :: l, a, n, h => by
    simp only [hexF] at h ⊢
    cases hc : hexC false c.toNat with
    | none => rw [hc] at h; cases h
    | some d =>
      rw [hc] at h
      rw [hexC_ft _ _ hc]
      exact hexF_ft l _ n h
theorem hexC_back (c : UInt8) (d : Nat) (h : hexC false c.toNat = some d) : UInt8.ofNat (hexZ (d : Int)).toNat = c := by
  have hb := c.toNat_lt
  unfold hexC at h
  apply UInt8.toNat_inj.1
  by_cases h1 : 48 ≤ c.toNat ∧ c.toNat ≤ 57
  · rw [if_pos h1] at h
    cases h
    have : (hexZ ((c.toNat - 48 : Nat) : Int)).toNat = c.toNat := by unfold hexZ; rw [if_pos (by omega)]; omega
    rw [this]; simp
  rw [if_neg h1] at h
  by_cases h2 : 97 ≤ c.toNat ∧ c.toNat ≤ 102
  · rw [if_pos h2] at h
    cases h
    have : (hexZ ((c.toNat - 87 : Nat) : Int)).toNat = c.toNat := by unfold hexZ; rw [if_neg (by omega)]; omega
    rw [this]; simp
  rw [if_neg h2, if_neg (by intro h; exact absurd h.1 (by decide))] at h
  cases h
theorem hexR_mod (n m : Nat) : ∀ d, n % 16 ^ d = m % 16 ^ d → hexR (n : Int) d = hexR (m : Int) d
  | 0, _ => rfl
  | d + 1, h => by
    have e16 : (16 : Nat) ^ (d + 1) = 16 ^ d * 16 := Nat.pow_succ 16 d
    have h1 : n % 16 ^ d = m % 16 ^ d := by
      have := congrArg (· % 16 ^ d) h
      simp only [e16] at this
      rwa [Nat.mod_mul_right_mod, Nat.mod_mul_right_mod] at this
    have h2 : n / 16 ^ d % 16 = m / 16 ^ d % 16 := by
      have := congrArg (· / 16 ^ d) h
      simp only [e16] at this
      rwa [Nat.mod_mul_right_div_self, Nat.mod_mul_right_div_self] at this
    have p : (2 : Int) ^ (4 * d) = ((16 ^ d : Nat) : Int) := by rw [Int.natCast_pow, show ((16 : Nat) : Int) = 2 ^ 4 from rfl, ← Int.pow_mul]
    show hexZ ((n : Int) / 2 ^ (4 * d) % 16) :: hexR (n : Int) d = hexZ ((m : Int) / 2 ^ (4 * d) % 16) :: hexR (m : Int) d
    rw [hexR_mod n m d h1, p, show (n : Int) / ((16 ^ d : Nat) : Int) % 16 = ((n / 16 ^ d % 16 : Nat) : Int) from by simp, h2]
    simp
/-- Small digits are those that hex tells. -/
theorem hexF_small : ∀ (l : List UInt8) (n : Nat), hexF false 0 l = some n → byteL (hexR (n : Int) l.length) = l
  | [], n, _ => rfl
  | c :: l, n, h => by
    simp only [hexF] at h
    cases hc : hexC false c.toNat with
    | none => rw [hc] at h; cases h
    | some d =>
      rw [hc] at h
      replace h : hexF false (16 * 0 + d) l = some n := h
      rw [Nat.mul_zero, Nat.zero_add, hexF_shift] at h
      cases hr : hexF false 0 l with
      | none => rw [hr] at h; cases h
      | some r =>
        rw [hr] at h
        replace h : some (d * 16 ^ l.length + r) = some n := h
        have hn := Option.some.inj h
        have hrl := hexF_lt false l 0 r hr
        rw [Nat.zero_add, Nat.one_mul] at hrl
        have hd := hexC_lt false _ _ hc
        have ih := hexF_small l r hr
        have p : (2 : Int) ^ (4 * l.length) = ((16 ^ l.length : Nat) : Int) := by rw [Int.natCast_pow, show ((16 : Nat) : Int) = 2 ^ 4 from rfl, ← Int.pow_mul]
        have e1 : (n : Int) / 2 ^ (4 * l.length) % 16 = (d : Int) := by
          rw [p, show (n : Int) / ((16 ^ l.length : Nat) : Int) % 16 = ((n / 16 ^ l.length % 16 : Nat) : Int) from by simp, ← hn, Nat.mul_comm, Nat.mul_add_div (Nat.pow_pos (by decide)), Nat.div_eq_of_lt hrl, Nat.add_zero, Nat.mod_eq_of_lt hd]
        show byteL (hexZ ((n : Int) / 2 ^ (4 * l.length) % 16) :: hexR (n : Int) l.length) = c :: l
        rw [e1, hexR_mod n r l.length (by rw [← hn, Nat.mul_comm, Nat.mul_add_mod])]
        show UInt8.ofNat (hexZ (d : Int)).toNat :: byteL (hexR (r : Int) l.length) = c :: l
        rw [hexC_back c d hc, ih]
theorem hexZ_all5 : ((List.range 16).all fun d => hexC false (UInt8.ofNat (hexZ (d : Int)).toNat).toNat == some d) = true := by decide +kernel
theorem hexZ_f (d : Nat) (h : d < 16) : hexC false (UInt8.ofNat (hexZ (d : Int)).toNat).toNat = some d := by
  have := List.all_eq_true.1 hexZ_all5 d (List.mem_range.2 h)
  simpa using this
theorem hexF_hexR (n : Nat) : ∀ d, hexF false 0 (byteL (hexR (n : Int) d)) = some (n % 16 ^ d)
  | 0 => by simp [hexR, byteL, hexF, Nat.mod_one]
  | d + 1 => by
    have p : (2 : Int) ^ (4 * d) = ((16 ^ d : Nat) : Int) := by rw [Int.natCast_pow, show ((16 : Nat) : Int) = 2 ^ 4 from rfl, ← Int.pow_mul]
    have e1 : (n : Int) / 2 ^ (4 * d) % 16 = ((n / 16 ^ d % 16 : Nat) : Int) := by rw [p]; simp
    show (hexC false (UInt8.ofNat (hexZ ((n : Int) / 2 ^ (4 * d) % 16)).toNat).toNat).bind (fun q => hexF false (16 * 0 + q) (byteL (hexR (n : Int) d))) = _
    rw [e1, hexZ_f _ (Nat.mod_lt _ (by decide))]
    show hexF false (16 * 0 + n / 16 ^ d % 16) (byteL (hexR (n : Int) d)) = _
    rw [Nat.mul_zero, Nat.zero_add, hexF_shift, hexF_hexR n d]
    show some (n / 16 ^ d % 16 * 16 ^ (byteL (hexR (n : Int) d)).length + n % 16 ^ d) = _
    rw [show (byteL (hexR (n : Int) d)).length = d from by simp [byteL, hexR_len]]
    congr 1
    rw [Nat.pow_succ, Nat.mod_mul, Nat.mul_comm (16 ^ d) (n / 16 ^ d % 16), Nat.add_comm]
/-- Digits are small just if hex tells them. -/
theorem hex_same (l : List UInt8) (n : Nat) (h : hexF true 0 l = some n) : (hexF false 0 l = some n ∧ byteL (hexR (n : Int) l.length) = l) ∨ (hexF false 0 l = none ∧ byteL (hexR (n : Int) l.length) ≠ l) := by
  cases hf : hexF false 0 l with
  | some m =>
    have := hexF_ft l 0 m hf
    rw [h] at this
    cases this
    exact .inl ⟨rfl, hexF_small l n hf⟩
  | none =>
    refine .inr ⟨rfl, fun e => ?_⟩
    have := hexF_hexR n l.length
    rw [e, hf] at this
    cases this

/-- What the document tells of m times 2^e once it is shifted. -/
def upV (fb b : Nat) (m : Nat) (k : Int) : Option Nat :=
  if 2 ^ (fb + 1) ≤ m ∨ k < 0 then none else if m < 2 ^ fb then some m else if (2 * b + 1 : Int) ≤ k + 1 then none else some ((k + 1).toNat * 2 ^ fb + (m - 2 ^ fb))
theorem upV_tog (fb b M L j : Nat) (E : Int) (hM1 : 2 ^ (L - 1) ≤ M) (hM2 : M < 2 ^ L) (hL1 : 1 ≤ L)
    (hj : j = 0 ∨ (M * 2 ^ (j - 1) < 2 ^ fb ∧ 1 - (b : Int) - fb < E - (j - 1 : Nat))) (hend : ¬ (M * 2 ^ j < 2 ^ fb ∧ 1 - (b : Int) - fb < E - j)) (hb : 1 ≤ b) :
    upV fb b (M * 2 ^ j) (E - j - (1 - (b : Int) - fb)) = togM fb (b : Int) E M L := by
  have hp := Nat.two_pow_pos fb
  have hp1 : 2 ^ (fb + 1) = 2 * 2 ^ fb := by rw [Nat.pow_succ, Nat.mul_comm]
  unfold upV togM
  by_cases c1 : E < 1 - (b : Int) - fb
  · have j0 : j = 0 := by rcases hj with h | h; exact h; omega
    subst j0
    rw [if_pos (by right; omega), if_pos (.inl c1)]
  by_cases c2 : fb + 1 < L
  · have h1 : 2 ^ (fb + 1) ≤ 2 ^ (L - 1) := Nat.pow_le_pow_right (by decide) (by omega)
    have j0 : j = 0 := by
      rcases hj with h | h
      · exact h
      · have : M ≤ M * 2 ^ (j - 1) := Nat.le_mul_of_pos_right _ (Nat.two_pow_pos _)
        omega
    subst j0
    rw [if_pos (by left; rw [Nat.pow_zero, Nat.mul_one]; omega), if_pos (.inr (.inr c2))]
  obtain ⟨k0, hk0⟩ : ∃ k0 : Nat, E = (k0 : Int) + (1 - (b : Int) - fb) := ⟨(E - (1 - (b : Int) - fb)).toNat, by omega⟩
  have hjk : j ≤ k0 := by rcases hj with h | h; omega; omega
  have t1 : M * 2 ^ (fb + 1 - L) < 2 ^ (fb + 1) := by
    have : M * 2 ^ (fb + 1 - L) < 2 ^ L * 2 ^ (fb + 1 - L) := Nat.mul_lt_mul_of_pos_right hM2 (Nat.two_pow_pos _)
    rwa [← Nat.pow_add, show L + (fb + 1 - L) = fb + 1 from by omega] at this
  have t2 : 2 ^ fb ≤ M * 2 ^ (fb + 1 - L) := by
    have : 2 ^ (L - 1) * 2 ^ (fb + 1 - L) ≤ M * 2 ^ (fb + 1 - L) := Nat.mul_le_mul_right _ hM1
    rwa [← Nat.pow_add, show L - 1 + (fb + 1 - L) = fb from by omega] at this
  have hjl : j ≤ fb + 1 - L := by
    rcases hj with h | h
    · omega
    · rcases Nat.lt_or_ge (fb + 1 - L) j with h' | h'
      · have : M * 2 ^ (fb + 1 - L) ≤ M * 2 ^ (j - 1) := Nat.mul_le_mul_left _ (Nat.pow_le_pow_right (by decide) (by omega))
        omega
      · exact h'
  have hmj : M * 2 ^ j ≤ M * 2 ^ (fb + 1 - L) := Nat.mul_le_mul_left _ (Nat.pow_le_pow_right (by decide) hjl)
  by_cases c3 : k0 + L ≤ fb
  · have jk : j = k0 := by
      rcases Nat.lt_or_ge j k0 with h | h
      · exfalso
        apply hend
        refine ⟨?_, by omega⟩
        have : M * 2 ^ j < 2 ^ L * 2 ^ j := Nat.mul_lt_mul_of_pos_right hM2 (Nat.two_pow_pos _)
        rw [← Nat.pow_add] at this
        have : 2 ^ (L + j) ≤ 2 ^ fb := Nat.pow_le_pow_right (by decide) (by omega)
        omega
      · omega
    subst jk
    have hlt : M * 2 ^ j < 2 ^ fb := (tog_small fb j L M hM2 (by omega)).1
    rw [if_neg (by omega), if_pos hlt, if_neg (by omega), if_pos (by omega), show (E - (1 - (b : Int) - fb)).toNat = j from by omega]
  · have jl : j = fb + 1 - L := by
      rcases Nat.lt_or_ge j (fb + 1 - L) with h | h
      · exfalso
        apply hend
        refine ⟨?_, by omega⟩
        have : M * 2 ^ j < 2 ^ L * 2 ^ j := Nat.mul_lt_mul_of_pos_right hM2 (Nat.two_pow_pos _)
        rw [← Nat.pow_add] at this
        have : 2 ^ (L + j) ≤ 2 ^ fb := Nat.pow_le_pow_right (by decide) (by omega)
        omega
      · omega
    subst jl
    rw [if_neg (by omega), if_neg (by omega)]
    by_cases c4 : (b : Int) < E + L - 1
    · rw [if_pos (by omega), if_pos (.inr (.inl c4))]
    · rw [if_neg (by omega), if_neg (by omega), if_neg (by omega)]
      rw [show (E - ((fb + 1 - L : Nat) : Int) - (1 - (b : Int) - fb) + 1).toNat = (E + L - 1 + (b : Int)).toNat from by omega]
#print axioms upV_tog
#print axioms hex_same
end Go.Proofs.YtkfmmpolcjbnbaaGreatDoor
namespace Go.Proofs.YtkfmmpolcjbnbaaGreatDoor
open Pl Go.RowKit

theorem qL_cut : ∀ (r : Nat) (l : List UInt8) (R : Nat), l.length ≤ R → qL r l = (qL R l).bind fun zs => if zs.length ≤ r then some zs else none
  | 0, l, R, h => by
    by_cases hne : l = []
    · subst hne; rw [qL_nil, qL_nil]; rfl
    obtain ⟨n, rfl⟩ : ∃ n, R = n + 1 := ⟨R - 1, by have := List.length_pos_iff.2 hne; omega⟩
    simp only [qL]
    rw [if_neg hne, if_neg hne]
    cases quoR l with
    | none => rfl
    | some p =>
      show none = ((qL n (l.drop p.2)).map fun bs => (p.1 : Int) :: bs).bind _
      cases qL n (l.drop p.2) with
      | none => rfl
      | some bs => show none = if ((p.1 : Int) :: bs).length ≤ 0 then some ((p.1 : Int) :: bs) else none; rw [if_neg (by simp)]
  | r + 1, l, R, h => by
    by_cases hne : l = []
    · subst hne; rw [qL_nil, qL_nil]; show some [] = if ([] : List Int).length ≤ r + 1 then some [] else none; rw [if_pos (by simp)]
    obtain ⟨n, rfl⟩ : ∃ n, R = n + 1 := ⟨R - 1, by have := List.length_pos_iff.2 hne; omega⟩
    simp only [qL]
    rw [if_neg hne, if_neg hne]
    cases hq : quoR l with
    | none => rfl
    | some p =>
      obtain ⟨c, u⟩ := p
      have hu := quoR_used l c u hne hq
      show (qL r (l.drop u)).map (fun bs => (c : Int) :: bs) = ((qL n (l.drop u)).map fun bs => (c : Int) :: bs).bind _
      rw [qL_cut r (l.drop u) n (by rw [List.length_drop]; omega)]
      cases qL n (l.drop u) with
      | none => rfl
      | some bs =>
        show (if bs.length ≤ r then some bs else none).map _ = if ((c : Int) :: bs).length ≤ r + 1 then some ((c : Int) :: bs) else none
        by_cases hb : bs.length ≤ r
        · rw [if_pos hb, if_pos (by simp; omega)]; rfl
        · rw [if_neg hb, if_neg (by simp; omega)]; rfl

theorem ownD_next {w w' : World} {B k : Nat} {v : Value} {xs : List Value} (h : w.ownsRow B 5 1 v k xs) (hb : Below w.heap.size w w') : w'.ownsRow B 5 1 v k xs := by
  refine h.kept (row := none) ⟨hb.os, hb.tape, hb.output, hb.size, fun k hk _ => hb.block k hk⟩ ?_
  cases hv : v.ownBlock with
  | none => exact .inl rfl
  | some x => exact .inr (by simp)

theorem two_le (a p : Nat) (h : 2 ≤ a - p) : p + 1 < a := by omega

/-- The inside of a text in quotes. -/
def inner (l : List UInt8) : List UInt8 := (l.drop 1).take (l.length - 2)
/-- What unquoted tells. -/
def uqV (l : List UInt8) : Option (List Int) := if 2 ≤ l.length ∧ l.getLast? = some 34 then qL (inner l).length (inner l) else none
theorem inner_len (l : List UInt8) : (inner l).length = l.length - 2 := by unfold inner; rw [List.length_take, List.length_drop]; omega
theorem inner_ch (l : List UInt8) (p k : Nat) (h : p + k < l.length - 2) : ch ((inner l).drop p) k = ch l (p + k + 1) := by
  unfold inner
  simp [ch, List.getD_eq_getElem?_getD, List.getElem?_drop, h]
theorem inner_two (l : List UInt8) (p : Nat) (h : p + 4 ≤ l.length - 2) : (((inner l).drop p).drop 2).take 2 = (l.drop (p + 3)).take 2 := by
  unfold inner
  rw [List.drop_drop, List.drop_take, List.drop_drop, List.take_take, show min 2 (l.length - 2 - (p + 2)) = 2 from by omega, show 1 + (p + 2) = p + 3 from by omega]
#print axioms qL_cut
end Go.Proofs.YtkfmmpolcjbnbaaGreatDoor
namespace Go.Proofs.YtkfmmpolcjbnbaaGreatDoor
open Pl Go.RowKit

theorem own_str {w : World} {B : Nat} {v : Value} {xs : List Value} {zs : List Int} (h : w.ownsRow B 5 1 v zs.length xs) (hz : xs = zs.map (Value.int .u8)) (ho : Oct zs) :
    (convert 23 9 v).run Tryz.prog w = .ok (.string (strOfNums zs)) w := by
  rcases h.2 with ⟨rfl, h0⟩ | ⟨g, cap, cur, rfl, hg, hc, hn, hm, hs, ht⟩
  · have : zs = [] := List.eq_nil_of_length_eq_zero h0
    subst this
    exact (row_nil w).str' 0
  · have r : Row w (some ⟨g, 0, none⟩) zs.length zs := ⟨rfl, ho, fun _ => ⟨g, 0, rfl, fun i hi => by
      have := h.cellAt i (by omega)
      rw [Nat.zero_add, this, hz]
      simp [List.getD_eq_getElem?_getD, hi]⟩⟩
    exact r.str' cap

theorem lit_cells (W : World) (c : Array Value) (T : TypeId) (l : List Value) (h : c.toList = l) : ∀ j u, l[j]? = some u → (W.alloc (.cells c T)).cell? ((⟨W.heap.size, 0, none⟩ : Addr).add j) = some u := by
  intro j u hj
  rw [Lib.add_plain, Nat.zero_add, World.cell?_alloc_new, ← Array.getElem?_toList, h]
  exact hj
theorem ints_one (l : List Int) : ∀ u ∈ l.map (Value.int .u8), u.oneCell' = true := by
  intro u hu
  obtain ⟨_, _, rfl⟩ := List.mem_map.1 hu
  rfl

/-- What stays owned through what leaves all blocks as they were. -/
theorem own_next {w w' : World} {B e size : Nat} {v : Value} {n : Nat} {xs : List Value} (h : w.ownsRow B e size v n xs) (hb : Below w.heap.size w w') : w'.ownsRow B e size v n xs := by
  refine h.kept (row := none) ⟨hb.os, hb.tape, hb.output, hb.size, fun k hk _ => hb.block k hk⟩ ?_
  cases h : v.ownBlock with
  | none => exact .inl rfl
  | some x => exact .inr (by simp)

end Go.Proofs.YtkfmmpolcjbnbaaGreatDoor
