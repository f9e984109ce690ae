/-
  Plain facts on reading decimal digits: what is told is read.
  The walk of readText: a bare text, or one in quotes.
  readValue at every kind, and Value of any text of any type.
-/
import Derived.Test.YtkfmmpolcjbnbaaGreatDoorRd9
import Derived.Test.YtkfmmpolcjbnbaaGreatDoorHex
import Derived.Test.YtkfmmpolcjbnbaaGreatDoorRd4
import Derived.Laws.IdiomStrings
import Derived.Test.YtkfmmpolcjbnbaaGreatDoorRdG
namespace Go.Proofs.YtkfmmpolcjbnbaaGreatDoor
open Pl Go.RowKit

theorem digit_byte (d : Nat) (h : d < 10) : (UInt8.ofNat (48 + d)).toNat = 48 + d := by simp; omega

theorem decDig_small (u : Nat) (h : u < 10) : Lib.decDigits u = [UInt8.ofNat (48 + u)] := by rw [Lib.decDigits, dif_pos h]
theorem decDig_step (u : Nat) (h : ¬ u < 10) : Lib.decDigits u = Lib.decDigits (u / 10) ++ [UInt8.ofNat (48 + u % 10)] := by rw [Lib.decDigits, dif_neg h]

/-- A number but 0 has no nought ahead, and only digits. -/
theorem dec_head (u : Nat) : u ≠ 0 → ∃ c r, Lib.decDigits u = c :: r ∧ 49 ≤ c.toNat ∧ c.toNat ≤ 57 := by
  induction u using Nat.strongRecOn with
  | _ u ih =>
    intro h0
    by_cases h : u < 10
    · rw [decDig_small u h]
      exact ⟨_, _, rfl, by rw [digit_byte u h]; omega, by rw [digit_byte u h]; omega⟩
    · obtain ⟨c, r, e, h1, h2⟩ := ih (u / 10) (by omega) (by omega)
      rw [decDig_step u h, e]
      exact ⟨c, r ++ [UInt8.ofNat (48 + u % 10)], rfl, h1, h2⟩

theorem decFold_dec (most u : Nat) : decFold most 0 (Lib.decDigits u) = if u ≤ most then some u else none := by
  induction u using Nat.strongRecOn with
  | _ u ih =>
    by_cases h : u < 10
    · rw [decDig_small u h]
      show (decStep most 0 (UInt8.ofNat (48 + u)).toNat).bind _ = _
      rw [digit_byte u h]
      unfold decStep
      by_cases hu : u ≤ most
      · rw [if_pos (by omega), if_pos hu]
        show some (10 * 0 + (48 + u - 48)) = some u
        congr 1
        omega
      · rw [if_neg (by omega), if_neg hu]; rfl
    · rw [decDig_step u h, decFold_snoc, ih (u / 10) (by omega), digit_byte (u % 10) (by omega)]
      by_cases h1 : u / 10 ≤ most
      · rw [if_pos h1]
        show decStep most (u / 10) (48 + u % 10) = _
        unfold decStep
        by_cases hu : u ≤ most
        · rw [if_pos (by omega), if_pos hu]
          congr 1
          omega
        · rw [if_neg (by omega), if_neg hu]
      · rw [if_neg h1, if_neg (by omega)]; rfl

theorem decV_dec (most u : Nat) : decV most (Lib.decDigits u) = if u ≤ most then some u else none := by
  rw [← decFold_dec]
  refine decV_good most _ ?_
  by_cases h0 : u = 0
  · subst h0
    exact .inl (decDig_small 0 (by decide))
  · obtain ⟨c, r, e, h1, _⟩ := dec_head u h0
    rw [e]
    refine .inr ⟨by simp, ?_⟩
    simp
    intro h
    rw [h] at h1
    exact absurd h1 (by decide)

theorem unsV_dec (most u : Nat) : unsV most (Lib.decDigits u) = if u ≤ most then some u else none := by
  have hp : Lib.hasPrefix (Lib.decDigits u) [48, 120] = false := by
    by_cases h0 : u = 0
    · subst h0
      rw [decDig_small 0 (by decide)]
      decide
    · obtain ⟨c, r, e, h1, _⟩ := dec_head u h0
      rw [e]
      have hc : (48 == c) = false := by
        rw [beq_eq_false_iff_ne]
        rintro rfl
        exact absurd h1 (by decide)
      unfold Lib.hasPrefix
      simp [List.isPrefixOf, hc]
  unfold unsV
  rw [if_neg (by rw [hp]; decide), decV_dec]

theorem sgnV_pos (below above u : Nat) : sgnV below above (Lib.decDigits u) = if u ≤ above then some u else none := by
  unfold sgnV
  rw [if_neg, decV_dec]
  by_cases h0 : u = 0
  · subst h0
    rw [decDig_small 0 (by decide)]
    decide
  · obtain ⟨c, r, e, h1, _⟩ := dec_head u h0
    rw [e]
    simp
    rintro rfl
    exact absurd h1 (by decide)
theorem sgnV_neg (below above u : Nat) (h0 : u ≠ 0) : sgnV below above (45 :: Lib.decDigits u) = if u ≤ below then some (18446744073709551616 - u) else none := by
  unfold sgnV
  rw [if_pos (show (45 :: Lib.decDigits u).head? = some 45 from rfl), List.tail_cons, decV_dec]
  by_cases h : u ≤ below
  · rw [if_pos h, if_pos h]
    show (if u = 0 then none else some (18446744073709551616 - u)) = _
    rw [if_neg h0]
  · rw [if_neg h, if_neg h]; rfl

theorem bytesL_snoc (n : Int) (k : Nat) : bytesL n (k + 1) = bytesL n k ++ [n / 2 ^ (8 * k) % 256] := by
  simp [bytesL, List.range_succ]
theorem num_bytes (n : Nat) : ∀ k, num (bytesL (n : Int) k) = ((n % 2 ^ (8 * k) : Nat) : Int)
  | 0 => by simp [bytesL, num, Nat.mod_one]
  | k + 1 => by
    rw [bytesL_snoc, num_snoc, num_bytes n k, bytesL_length]
    have e : (2 : Int) ^ (8 * k) = ((2 ^ (8 * k) : Nat) : Int) := (Int.natCast_pow 2 (8 * k)).symm
    rw [e, Nat.mul_add, Nat.pow_add, Nat.mod_mul]
    generalize 2 ^ (8 * k) = P
    rw [show (2 : Nat) ^ (8 * 1) = 256 from rfl, show ((n : Int) / (P : Int)) % 256 = ((n / P % 256 : Nat) : Int) from by rw [Int.natCast_emod, Int.natCast_ediv]; rfl]
    generalize n / P % 256 = q
    rw [Int.natCast_add, Int.natCast_mul, Int.mul_comm (P : Int)]
theorem num_same : ∀ (a b : List Int), Oct a → Oct b → a.length = b.length → num a = num b → a = b
  | [], [], _, _, _, _ => rfl
  | [], _ :: _, _, _, h, _ => by simp at h
  | _ :: _, [], _, _, h, _ => by simp at h
  | x :: a, y :: b, oa, ob, hl, hn => by
    have hx := oa x (by simp)
    have hy := ob y (by simp)
    simp only [num] at hn
    have e1 : x = y := by omega
    have e2 : num a = num b := by omega
    rw [e1, num_same a b (fun n hn => oa n (by simp [hn])) (fun n hn => ob n (by simp [hn])) (by simpa using hl) e2]
theorem bytes_mod (n m k : Nat) (h : n % 2 ^ (8 * k) = m % 2 ^ (8 * k)) : bytesL (n : Int) k = bytesL (m : Int) k :=
  num_same _ _ (bytesL_oct _ _) (bytesL_oct _ _) (by rw [bytesL_length, bytesL_length]) (by rw [num_bytes, num_bytes, h])

theorem ownRow {w : World} {B : Nat} {v : Value} {k : Nat} {xs : List Value} {zs : List Int} (h : w.ownsRow B 5 1 v k xs) (hz : xs = zs.map (Value.int .u8)) (ho : Oct zs) (hl : zs.length = k) :
    ∃ a cap, v = .slice a k cap ∧ k ≤ cap ∧ cap ≤ maxLen ∧ Row w a k zs := by
  rcases h.2 with ⟨rfl, rfl⟩ | ⟨g, cap, cur, rfl, hg, hc, hn, hm, hs, ht⟩
  · have : zs = [] := List.eq_nil_of_length_eq_zero hl
    subst this
    exact ⟨none, 0, rfl, Nat.le_refl _, by decide, row_nil w⟩
  · refine ⟨_, cap, rfl, hn, hm, ⟨hl, ho, fun _ => ⟨g, 0, rfl, fun i hi => ?_⟩⟩⟩
    have := h.cellAt i (by omega)
    rw [Nat.zero_add, this, hz]
    simp [List.getD_eq_getElem?_getD, hl, hi]
#print axioms sgnV_neg
#print axioms bytes_mod
end Go.Proofs.YtkfmmpolcjbnbaaGreatDoor
namespace Go.Proofs.YtkfmmpolcjbnbaaGreatDoor
open Pl Go.RowKit

/-- The bytes that the inside of quotes tells, at most so many. -/
def qL : Nat → List UInt8 → Option (List Int)
  | 0, l => if l = [] then some [] else none
  | r + 1, l => if l = [] then some [] else (quoR l).bind fun p => (qL r (l.drop p.2)).map fun bs => (p.1 : Int) :: bs
/-- The bytes of a text that is bare or in quotes. -/
def txtV (l : List UInt8) : Option (List Int) :=
  if Lib.hasPrefix l [34] = true then (if Lib.hasSuffix (Lib.trimPrefix l [34]) [34] = true then qL 4096 (Lib.trimSuffix (Lib.trimPrefix l [34]) [34]) else none)
  else if l.length ≤ 4096 then some (l.map fun c => (c.toNat : Int)) else none

theorem qL_nil (r : Nat) : qL r [] = some [] := by cases r <;> simp [qL]
theorem quoR_used (l : List UInt8) (c u : Nat) (hne : l ≠ []) (h : quoR l = some (c, u)) : 1 ≤ u ∧ u ≤ l.length ∧ c < 256 := by
  have h0 : 0 < l.length := List.length_pos_iff.2 hne
  have hb0 : ch l 0 < 256 := UInt8.toNat_lt _
  have hb1 : ch l 1 < 256 := UInt8.toNat_lt _
  unfold quoR at h
  split at h
  · split at h
    · simp at h; omega
    · simp at h
  split at h
  · simp at h; omega
  split at h
  · next h4 =>
    cases hx : hexF false 0 ((l.drop 2).take 2) with
    | none => rw [hx] at h; simp at h
    | some n =>
      rw [hx] at h
      have := hexF2_lt false _ n (by simp; omega) hx
      simp at h
      omega
  · simp at h

theorem trimS_len (l p : List UInt8) : (Lib.trimSuffix l p).length ≤ l.length := by
  unfold Lib.trimSuffix
  split
  · rw [List.length_take]; omega
  · exact Nat.le_refl _

theorem slice_from (l : List UInt8) (a : Nat) (h : a ≤ l.length) (w : World) : (Instr.slice 9 (.string (str l)) (some (.int .i64 (a : Int))) none none).run Tryz.prog w = .ok (.string (str (l.drop a))) w := by
  have hs : (str l).size = l.length := by unfold str; simp [ByteArray.size]
  rw [run_slice_string_l (P := Tryz.prog) w 9 (str l) Tryz.underlying9 .i64 _ (by omega) (by rw [hs]; omega)]
  congr 2
  apply ByteArray.ext
  simp [str, ByteArray.data_extract, ByteArray.size]
  rw [List.take_of_length_le (by simp)]

/-- A text as bytes of one's own. -/
theorem bytes_told (l : List UInt8) (w : World) (hl : l.length ≤ 1000000) : ∃ a cap w', (convert 9 23 (.string (str l))).run Tryz.prog w = .ok (.slice a l.length cap) w' ∧ ReadsTo w (some (l.map fun c => (c.toNat : Int))) (.returned (.slice a l.length cap)) w' := by
  have hs : (str l).size = l.length := by unfold str; simp [ByteArray.size]
  have hrun := run_bytes_of_string (P := Tryz.prog) w 9 23 5 (str l) Tryz.underlying9 Tryz.underlying23 Tryz.underlying5
  rw [hs] at hrun
  have hge := grownCap_ge w l.length 0 5
  have hle := grownCap_le_maxLen w l.length 0 5 (by unfold maxLen; omega)
  generalize grownCap w l.length 0 5 = cap at *
  refine ⟨_, _, _, hrun, ⟨_, _, _, rfl, ⟨⟨by simp, fun n hn => ?_, fun hp => ⟨_, 0, rfl, fun i hi => ?_⟩⟩, hge, hle, fun _ => ⟨_, rfl, Nat.le_refl _, fun i hi => ?_⟩⟩⟩, Below.al (Below.drew (Below.refl _ _)) _⟩
  · obtain ⟨c, _, rfl⟩ := List.mem_map.1 hn
    have := c.toNat_lt
    omega
  · have e : (w.drew.alloc (.cells (bytesRow (str l) cap) 5 ((bytesRow (str l) cap).size, (bytesRow (str l) cap).size + 1))).heap[w.heap.size]? = some (.cells (bytesRow (str l) cap) 5 ((bytesRow (str l) cap).size, (bytesRow (str l) cap).size + 1)) := by show (w.heap.push _)[w.heap.size]? = _; simp
    unfold World.cell?
    rw [e]
    have hi' : i < (str l).data.size := by show i < (str l).size; omega
    simp [bytesRow, Array.getElem?_append, hi, str, List.getD_eq_getElem?_getD]
  · have e : (w.drew.alloc (.cells (bytesRow (str l) cap) 5 ((bytesRow (str l) cap).size, (bytesRow (str l) cap).size + 1))).heap[w.heap.size]? = some (.cells (bytesRow (str l) cap) 5 ((bytesRow (str l) cap).size, (bytesRow (str l) cap).size + 1)) := by show (w.heap.push _)[w.heap.size]? = _; simp
    unfold World.frozen?
    rw [e]
    have : l.length ≤ (bytesRow (str l) cap).size := by simp [bytesRow, str]
    simp
    omega

/-- Bytes of one's own that are told. -/
theorem own_told {w w' : World} {v : Value} {k : Nat} {zs : List Int} (h : w'.ownsRow w.heap.size 5 1 v k (zs.map (Value.int .u8))) (ho : Oct zs) (hl : zs.length = k) :
    ∃ a cap, v = .slice a k cap ∧ Told w w' a k cap zs := by
  rcases h.2 with ⟨rfl, rfl⟩ | ⟨g, cap, cur, rfl, hg, hc, hn, hm, hs, ht⟩
  · have : zs = [] := List.eq_nil_of_length_eq_zero hl
    subst this
    exact ⟨none, 0, rfl, row_nil w', Nat.le_refl _, by decide, fun h => absurd h (by decide)⟩
  · refine ⟨_, cap, rfl, ⟨hl, ho, fun _ => ⟨g, 0, rfl, fun i hi => ?_⟩⟩, hn, hm, fun _ => ⟨g, rfl, hg, fun i _ => ?_⟩⟩
    · have := h.cellAt i (by omega)
      rw [Nat.zero_add, this]
      simp [List.getD_eq_getElem?_getD, hl, hi]
    · unfold World.frozen?
      rw [hc]
      simp

set_option maxHeartbeats 4000000 in
set_option maxRecDepth 100000 in
theorem textRd_any (l : List UInt8) (w : World) (hl : l.length ≤ 1000000) :
    Calls Tryz.prog 31 #[.string (str l)] w (ReadsTo w (txtV l)) := by
  have hcp := fun w => Tryz.strings_CutPrefix (str l) ⟨#[34]⟩ w
  rw [show (str l).data.toList = l from rfl, show (⟨#[34]⟩ : ByteArray).data.toList = [34] from rfl] at hcp
  obtain ⟨sl, HSL, _, hsz, _⟩ := str_facts l
  by_cases a0 : Lib.hasPrefix l [34] = true
  rotate_left
  · have a0' : Lib.hasPrefix l [34] = false := by simpa using a0
    rw [a0'] at hcp
    obtain ⟨st, HC⟩ : ∃ st, Hid (∀ w : World, Calls Tryz.prog 54 #[.string (str l), .string ⟨#[34]⟩] w fun e w' => e = .returned (.tuple #[.string st, .bool false]) ∧ w' = w) := ⟨_, hcp⟩
    have HB : Hid (∀ w : World, ∃ a cap w', (convert 9 23 (.string (str l))).run Tryz.prog w = .ok (.slice a l.length cap) w' ∧ ReadsTo w (some (l.map fun c => (c.toNat : Int))) (.returned (.slice a l.length cap)) w') := fun w => bytes_told l w hl
    rw [HSL.out] at HC HB ⊢
    clear hcp
    by_cases a1 : l.length ≤ 4096
    · rw [show txtV l = some (l.map fun c => (c.toNat : Int)) from by unfold txtV; rw [if_neg a0, if_pos a1]]
      have g1 : (l.length : Int) ≤ 4096 := by omega
      obtain ⟨a, cap, w', hrun, hto⟩ := HB.out w
      have HT : Hid (ReadsTo w (some (l.map fun c => (c.toNat : Int))) (.returned (.slice a l.length cap)) w') := hto
      clear hto HB a0 a0' a1
      go_enter Tryz.func31, Tryz.ntmps31
      go_wp2_with fail
      refine (HC.out _).mono ?_
      rintro e w ⟨rfl, rfl⟩
      go_wp2_with fail
      refine (must_true _).mono ?_
      rintro e w ⟨rfl, rfl⟩
      go_wp2_with fail
      go_ret
      exact HT.out
    · rw [show txtV l = none from by unfold txtV; rw [if_neg a0, if_neg a1]]
      have g1 : ¬ (l.length : Int) ≤ 4096 := by omega
      clear HB a0 a0' 
      go_enter Tryz.func31, Tryz.ntmps31
      go_wp2_with fail
      refine (HC.out _).mono ?_
      rintro e w ⟨rfl, rfl⟩
      go_wp2_with fail
      first
        | refine (must_false _).mono ?_
        | (rw [show decide (l.length ≤ 4096) = false from by simp; omega]; refine (must_false _).mono ?_)
        | (rw [show decide ((l.length : Int) ≤ 4096) = false from by simp; omega]; refine (must_false _).mono ?_)
      rintro e w ⟨rfl, rfl⟩
      go_wp2_with fail
      exact ⟨rfl, rfl, Below.refl _ _⟩
  rw [a0] at hcp
  have htl := trim_len l [34]
  have TV : Hid (txtV l = (if Lib.hasSuffix (Lib.trimPrefix l [34]) [34] = true then qL 4096 (Lib.trimSuffix (Lib.trimPrefix l [34]) [34]) else none)) := by show _ = _; unfold txtV; rw [if_pos a0]
  rw [TV.out]
  clear TV a0
  generalize Lib.trimPrefix l [34] = m at *
  have HC : Hid (∀ w : World, Calls Tryz.prog 54 #[.string (str l), .string ⟨#[34]⟩] w fun e w' => e = .returned (.tuple #[.string (str m), .bool true]) ∧ w' = w) := hcp
  have hms : (str m).size = m.length := by unfold str; simp [ByteArray.size]
  have hcs := fun w => Tryz.strings_CutSuffix (str m) ⟨#[34]⟩ w (by rw [hms]; omega)
  rw [show (str m).data.toList = m from rfl, show (⟨#[34]⟩ : ByteArray).data.toList = [34] from rfl] at hcs
  have htl2 := trimS_len m [34]
  rw [HSL.out] at HC ⊢
  clear hcp hms
  by_cases a1 : Lib.hasSuffix m [34] = true
  rotate_left
  · have a1' : Lib.hasSuffix m [34] = false := by simpa using a1
    rw [a1'] at hcs
    rw [if_neg a1]
    obtain ⟨st, HD⟩ : ∃ st, Hid (∀ w : World, Calls Tryz.prog 61 #[.string (str m), .string ⟨#[34]⟩] w fun e w' => e = .returned (.tuple #[.string st, .bool false]) ∧ w' = w) := ⟨_, hcs⟩
    clear hcs a1 a1' htl2
    generalize str m = sm at *
    go_enter Tryz.func31, Tryz.ntmps31
    go_wp2_with fail
    refine (HC.out _).mono ?_
    rintro e w ⟨rfl, rfl⟩
    go_wp2_with fail
    refine (HD.out _).mono ?_
    rintro e w ⟨rfl, rfl⟩
    go_wp2_with fail
    refine (must_false _).mono ?_
    rintro e w ⟨rfl, rfl⟩
    go_wp2_with fail
    exact ⟨rfl, rfl, Below.refl _ _⟩
  rw [a1] at hcs
  rw [if_pos a1]
  clear a1
  generalize Lib.trimSuffix m [34] = r at *
  have HD : Hid (∀ w : World, Calls Tryz.prog 61 #[.string (str m), .string ⟨#[34]⟩] w fun e w' => e = .returned (.tuple #[.string (str r), .bool true]) ∧ w' = w) := hcs
  have hr : r.length ≤ 1000000 := by omega
  obtain ⟨i0, hi, hz0, hz1, hz2⟩ := info_parts info8
  obtain ⟨sr, HSR⟩ : ∃ s, Hid (str r = s) := ⟨_, rfl⟩
  obtain ⟨R, HR⟩ : ∃ R, Hid (R = qL 4096 r) := ⟨_, rfl⟩
  rw [← HR.out]
  rw [HSR.out] at HD
  clear hcs htl2 htl
  generalize str m = sm at *
  go_enter Tryz.func31, Tryz.ntmps31
  go_wp2_with fail
  refine (HC.out _).mono ?_
  rintro e w ⟨rfl, rfl⟩
  go_wp2_with fail
  refine (HD.out _).mono ?_
  rintro e w ⟨rfl, rfl⟩
  go_wp2_with fail
  refine (must_true _).mono ?_
  rintro e w ⟨rfl, rfl⟩
  go_wp2_with fail
  clear HC HD
  go_loopw [3, 6] (fun t v wr => ∃ (l' : List UInt8) (bs : List Int), t = .string (str l') ∧ l'.length ≤ 1000000 ∧ bs.length ≤ 4096 ∧ R = (qL (4096 - bs.length) l').map (fun cs => bs ++ cs) ∧ Oct bs ∧ Below w.heap.size w wr ∧ wr.ownsRow w.heap.size 5 1 v bs.length (bs.map (Value.int .u8)))
    (fun t _ _ => match t with | .string x => x.size | _ => 0)
  case atStart => exact ⟨r, [], by rw [HSR.out], hr, by simp, by simp [HR.out], fun n hn => by simp at hn, Below.refl _ _, World.ownsRow_nil _ _ _ _⟩
  case round =>
    obtain ⟨l', bs, rfl, hl', hbl, hq, hob, hb, hown⟩ := hrel
    obtain ⟨s', HS', hs'l, hs'z, _⟩ := str_facts l'
    have SF := slice_from l'
    have QA := fun w hne => quotedRd_any l' w hne hl'
    rw [HS'.out] at SF QA ⊢
    by_cases hne : l' = []
    · subst hne
      rw [qL_nil] at hq
      have HQ : R = some bs := by rw [hq]; simp
      clear hq HR
      subst HQ
      obtain ⟨a, cap, rfl, ht⟩ := own_told hown hob rfl
      have HT : Hid (Told w wr a bs.length cap bs) := ht
      clear hown SF QA ht
      go_wp2_with fail
      go_ret
      exact ⟨⟨_, _, _, rfl, HT.out⟩, hb⟩
    · have HB : Hid (∀ n : Nat, n + 1 ≤ 4096 → qL (n + 1) l' = (quoR l').bind fun p => (qL n (l'.drop p.2)).map fun bs => (p.1 : Int) :: bs) := fun n _ => by show _ = _; simp [qL, hne]
      have HB0 : Hid (qL 0 l' = none) := by show _ = _; simp [qL, hne]
      have emp2 : l'.isEmpty = false := by simpa using hne
      have emp : s'.toList.isEmpty = false := by rw [hs'l]; exact emp2
      have QA' := fun w => QA w hne
      have UB := fun c u h => quoR_used l' c u hne h
      clear QA
      cases hp : quoR l' with
      | none =>
        have HE : R = none := by
          rw [hq]
          by_cases h : bs.length = 4096
          · rw [h]; rw [show 4096 - 4096 = 0 from rfl, HB0.out]; rfl
          · rw [show 4096 - bs.length = (4096 - bs.length - 1) + 1 by omega, HB.out _ (by omega), hp]; rfl
        rw [hp] at QA'
        have HD : Hid (∀ w : World, Calls Tryz.prog 62 #[.string s'] w fun e w' => e = .panicked bad ∧ w' = w) := QA'
        clear QA' hq HB HB0 hown UB SF hp HR
        subst HE
        go_wp2_with fail
        refine (HD.out _).mono ?_
        rintro e wr ⟨rfl, rfl⟩
        go_wp2_with fail
        first | exact ⟨rfl, rfl, hb⟩ | exact ⟨rfl, ⟨rfl, hb⟩⟩
      | some p =>
        obtain ⟨c, u⟩ := p
        obtain ⟨u1, u2, c2⟩ := UB c u hp
        have sf := SF u u2
        rw [hp] at QA'
        have HD : Hid (∀ w : World, Calls Tryz.prog 62 #[.string s'] w fun e w' => e = .returned (.tuple #[.int .u8 (c : Int), .int .i64 (u : Int)]) ∧ w' = w) := QA'
        have OWN : Hid (wr.ownsRow w.heap.size 5 1 u6 bs.length (bs.map (Value.int .u8))) := hown
        have HSZ : Hid (s'.size = l'.length) := hs'z
        have HN : Hid (bs.length + 1 ≤ 4096 → R = (qL (4096 - (bs.length + 1)) (l'.drop u)).map fun cs => (bs ++ [(c : Int)]) ++ cs) := fun h => by
          rw [hq, show 4096 - bs.length = (4096 - (bs.length + 1)) + 1 by omega, HB.out _ (by omega), hp]
          show (Option.map _ (qL _ (l'.drop u))).map _ = _
          rw [Option.map_map]
          congr 1
          funext cs
          simp
        have HX : Hid (¬ bs.length + 1 ≤ 4096 → R = none) := fun h => by
          rw [hq, show 4096 - bs.length = 0 by omega, HB0.out]; rfl
        have hdl : (l'.drop u).length ≤ 1000000 := by rw [List.length_drop]; omega
        have HDS : Hid ((str (l'.drop u)).size < s'.size) := by
          show _ < _
          rw [hs'z]
          have : (str (l'.drop u)).size = l'.length - u := by unfold str; simp [ByteArray.size]
          have := List.length_pos_iff.2 hne
          omega
        have wc : (c : Int) % 256 = (c : Int) := by omega
        clear QA' hq HB HB0 hown UB SF hp HS' hs'z hs'l
        obtain ⟨t', HT'⟩ : ∃ t, Hid (str (l'.drop u) = t) := ⟨_, rfl⟩
        rw [HT'.out] at sf HDS
        by_cases hroom : bs.length + 1 ≤ 4096
        · have groom : ((bs.length : Int) + 1) ≤ 4096 := by omega
          have groom' : ((bs.length + 1 : Nat) : Int) ≤ 4096 := by omega
          go_wp2_with fail
          refine (HD.out _).mono ?_
          rintro e wr ⟨rfl, rfl⟩
          go_wp2_with (at_builtin; refine wpList_append_own _ rfl _ _ 23 rfl w.heap.size 5 i0 (.int .u8 0) 1 1 Tryz.underlying23 hi hz0 hz1 hz2 rfl (by decide) _ _ _ rfl (OWN.out.alloc _) ⟨wr.heap.size, 0, none⟩ 1 1 [.int .u8 (c : Int)] rfl rfl ?c1 ?c2 ?c3 ?c4 ?c5 ?_)
          case c1 =>
            intro j u hj
            match j, hj with
            | 0, hj => simp at hj; subst hj; simp [Addr.add]
          case c2 => intro u hu; simp at hu; subst hu; rfl
          case c3 => unfold maxLen; omega
          case c4 => omega
          case c5 => have := hb.size; simp; omega
          intro v' w2 hown' hgrow _
          have hown2 : w2.ownsRow w.heap.size 5 1 v' (bs.length + 1) ((bs ++ [(c : Int)]).map (Value.int .u8)) := by rw [List.map_append]; exact hown'
          have hob2 : Oct (bs ++ [(c : Int)]) := fun n hn => by
            rcases List.mem_append.1 hn with h | h
            · exact hob n h
            · simp at h; omega
          obtain ⟨a, cap, rfl, _⟩ := own_told hown2 hob2 (by simp)
          have OWN2 : Hid (w2.ownsRow w.heap.size 5 1 (.slice a (bs.length + 1) cap) (bs.length + 1) ((bs ++ [(c : Int)]).map (Value.int .u8))) := hown2
          have hb2 : Below w.heap.size w w2 := (Below.al hb _).grown hgrow (by have := hb.size; simp; omega) (fun j hj => (OWN.out.lt j hj).1)
          clear hown' hown2 hgrow
          go_wp2_with fail
          refine (must_true _).mono ?_
          rintro e w2 ⟨rfl, rfl⟩
          go_wp2_with fail
          exact ⟨⟨l'.drop u, bs ++ [(c : Int)], by rw [HT'.out], hdl, by simp; omega, by rw [List.length_append]; exact HN.out hroom, hob2, hb2, by rw [List.length_append]; exact OWN2.out⟩, HDS.out⟩
        · have HE : R = none := HX.out hroom
          have groom : ¬ ((bs.length : Int) + 1) ≤ 4096 := by omega
          clear HX HN HR
          subst HE
          go_wp2_with fail
          refine (HD.out _).mono ?_
          rintro e wr ⟨rfl, rfl⟩
          go_wp2_with (at_builtin; refine wpList_append_own _ rfl _ _ 23 rfl w.heap.size 5 i0 (.int .u8 0) 1 1 Tryz.underlying23 hi hz0 hz1 hz2 rfl (by decide) _ _ _ rfl (OWN.out.alloc _) ⟨wr.heap.size, 0, none⟩ 1 1 [.int .u8 (c : Int)] rfl rfl ?c1 ?c2 ?c3 ?c4 ?c5 ?_)
          case c1 =>
            intro j u hj
            match j, hj with
            | 0, hj => simp at hj; subst hj; simp [Addr.add]
          case c2 => intro u hu; simp at hu; subst hu; rfl
          case c3 => unfold maxLen; omega
          case c4 => omega
          case c5 => have := hb.size; simp; omega
          intro v' w2 hown' hgrow _
          have hown2 : w2.ownsRow w.heap.size 5 1 v' (bs.length + 1) ((bs ++ [(c : Int)]).map (Value.int .u8)) := by rw [List.map_append]; exact hown'
          have hob2 : Oct (bs ++ [(c : Int)]) := fun n hn => by
            rcases List.mem_append.1 hn with h | h
            · exact hob n h
            · simp at h; omega
          obtain ⟨a, cap, rfl, _⟩ := own_told hown2 hob2 (by simp)
          have hb2 : Below w.heap.size w w2 := (Below.al hb _).grown hgrow (by have := hb.size; simp; omega) (fun j hj => (OWN.out.lt j hj).1)
          clear hown' hown2 hgrow
          go_wp2_with fail
          first
            | refine (must_false _).mono ?_
            | (rw [show decide ((bs.length : Int) + 1 ≤ 4096) = false from by simp; omega]; refine (must_false _).mono ?_)
            | (rw [show decide (bs.length + 1 ≤ 4096) = false from by simp; omega]; refine (must_false _).mono ?_)
          rintro e w2 ⟨rfl, rfl⟩
          go_wp2_with fail
          first | exact ⟨rfl, rfl, hb2⟩ | exact ⟨rfl, ⟨rfl, hb2⟩⟩
#print axioms textRd_any
end Go.Proofs.YtkfmmpolcjbnbaaGreatDoor
namespace Go.Proofs.YtkfmmpolcjbnbaaGreatDoor
open Pl Go.RowKit

/-- The bytes of a text of a type. -/
def valN (t : Int) (l : List UInt8) : Option (List Int) :=
  if kindN t = 1 then truV l
  else if kindN t = 2 ∨ kindN t = 3 then intV t l
  else if kindN t = 4 then (if t = 17 then (flt64V l).map fun n => bytesL (n : Int) 8 else (flt32V l).map fun n => bytesL (n : Int) 4)
  else if kindN t = 5 then momV l
  else if kindN t = 6 then txtV l
  else octV l

set_option maxRecDepth 100000 in
theorem readV1 (z : Int) (l : List UInt8) (W : World) : Calls Tryz.prog 12 #[.int .u8 1, .int .i64 z, .string (str l)] W (ReadsTo W (truV l)) := by
  have h := fun W => truth_any l W
  generalize str l = s at *
  generalize truV l = v at *
  cases v with
  | none =>
    go_enter Tryz.func12, Tryz.ntmps12
    go_wp2_with fail
    refine (h _).mono ?_
    rintro e w ⟨rfl, hb⟩
    go_wp2_with fail
    exact ⟨rfl, rfl, hb⟩
  | some zs =>
    go_enter Tryz.func12, Tryz.ntmps12
    go_wp2_with fail
    refine (h _).mono ?_
    rintro e w ⟨⟨a, len, cap, rfl, ht⟩, hb⟩
    go_wp2_with fail
    go_ret
    exact ⟨⟨_, _, _, rfl, ht⟩, hb⟩

set_option maxRecDepth 100000 in
theorem readV5 (z : Int) (l : List UInt8) (W : World) (hl : l.length ≤ 1000000) : Calls Tryz.prog 12 #[.int .u8 5, .int .i64 z, .string (str l)] W (ReadsTo W (momV l)) := by
  have h := fun W => momentRd_any l W hl
  generalize str l = s at *
  generalize momV l = v at *
  cases v with
  | none =>
    go_enter Tryz.func12, Tryz.ntmps12
    go_wp2_with fail
    refine (h _).mono ?_
    rintro e w ⟨rfl, hb⟩
    go_wp2_with fail
    exact ⟨rfl, rfl, hb⟩
  | some zs =>
    go_enter Tryz.func12, Tryz.ntmps12
    go_wp2_with fail
    refine (h _).mono ?_
    rintro e w ⟨⟨a, len, cap, rfl, ht⟩, hb⟩
    go_wp2_with fail
    go_ret
    exact ⟨⟨_, _, _, rfl, ht⟩, hb⟩

set_option maxRecDepth 100000 in
theorem readV6 (z : Int) (l : List UInt8) (W : World) (hl : l.length ≤ 1000000) : Calls Tryz.prog 12 #[.int .u8 6, .int .i64 z, .string (str l)] W (ReadsTo W (txtV l)) := by
  have h := fun W => textRd_any l W hl
  generalize str l = s at *
  generalize txtV l = v at *
  cases v with
  | none =>
    go_enter Tryz.func12, Tryz.ntmps12
    go_wp2_with fail
    refine (h _).mono ?_
    rintro e w ⟨rfl, hb⟩
    go_wp2_with fail
    exact ⟨rfl, rfl, hb⟩
  | some zs =>
    go_enter Tryz.func12, Tryz.ntmps12
    go_wp2_with fail
    refine (h _).mono ?_
    rintro e w ⟨⟨a, len, cap, rfl, ht⟩, hb⟩
    go_wp2_with fail
    go_ret
    exact ⟨⟨_, _, _, rfl, ht⟩, hb⟩

set_option maxRecDepth 100000 in
theorem readV7 (z : Int) (l : List UInt8) (W : World) (hl : l.length ≤ 1000000) : Calls Tryz.prog 12 #[.int .u8 7, .int .i64 z, .string (str l)] W (ReadsTo W (octV l)) := by
  have h := fun W => octetsRd_any l W hl
  generalize str l = s at *
  generalize octV l = v at *
  cases v with
  | none =>
    go_enter Tryz.func12, Tryz.ntmps12
    go_wp2_with fail
    refine (h _).mono ?_
    rintro e w ⟨rfl, hb⟩
    go_wp2_with fail
    exact ⟨rfl, rfl, hb⟩
  | some zs =>
    go_enter Tryz.func12, Tryz.ntmps12
    go_wp2_with fail
    refine (h _).mono ?_
    rintro e w ⟨⟨a, len, cap, rfl, ht⟩, hb⟩
    go_wp2_with fail
    go_ret
    exact ⟨⟨_, _, _, rfl, ht⟩, hb⟩

set_option maxRecDepth 100000 in
theorem readV48 (l : List UInt8) (W : World) (hl : l.length ≤ 1000000) (hT : Tab64 W) : Calls Tryz.prog 12 #[.int .u8 4, .int .i64 8, .string (str l)] W (ReadsTo W ((flt64V l).map fun n => bytesL (n : Int) 8)) := by
  have h := floatRd64_any l W hl hT
  generalize str l = s at *
  generalize flt64V l = v at *
  cases v with
  | none =>
    replace h : Calls Tryz.prog 29 #[.string s, .int .i64 8] W fun e w' => e = .panicked bad ∧ Below W.heap.size W w' := h
    show Calls _ _ _ _ (ReadsTo W none)
    go_enter Tryz.func12, Tryz.ntmps12
    go_wp2_with fail
    refine h.mono ?_
    rintro e w ⟨rfl, hb⟩
    go_wp2_with fail
    exact ⟨rfl, rfl, hb⟩
  | some n =>
    replace h : Calls Tryz.prog 29 #[.string s, .int .i64 8] W fun e w' => e = .returned (.int .u64 (n : Int)) ∧ Below W.heap.size W w' := h
    show Calls _ _ _ _ (ReadsTo W (some (bytesL (n : Int) 8)))
    go_enter Tryz.func12, Tryz.ntmps12
    go_wp2_with fail
    refine h.mono ?_
    rintro e w ⟨rfl, hb⟩
    go_wp2_with fail
    refine (bytesOf_any (n : Int) 8 _ (by omega) (by decide)).mono ?_
    rintro e w2 ⟨v, rfl, hf⟩
    obtain ⟨hr, rfl, hz, hb2⟩ := hf
    go_wp2_with fail
    go_ret
    exact reads_bytes hb ⟨hr, rfl, hz, hb2⟩ (by decide)

set_option maxRecDepth 100000 in
theorem readV44 (l : List UInt8) (W : World) (hl : l.length ≤ 1000000) (hT : Tab64 W) : Calls Tryz.prog 12 #[.int .u8 4, .int .i64 4, .string (str l)] W (ReadsTo W ((flt32V l).map fun n => bytesL (n : Int) 4)) := by
  have h := floatRd32_any l W hl hT
  generalize str l = s at *
  generalize flt32V l = v at *
  cases v with
  | none =>
    replace h : Calls Tryz.prog 29 #[.string s, .int .i64 4] W fun e w' => e = .panicked bad ∧ Below W.heap.size W w' := h
    show Calls _ _ _ _ (ReadsTo W none)
    go_enter Tryz.func12, Tryz.ntmps12
    go_wp2_with fail
    refine h.mono ?_
    rintro e w ⟨rfl, hb⟩
    go_wp2_with fail
    exact ⟨rfl, rfl, hb⟩
  | some n =>
    replace h : Calls Tryz.prog 29 #[.string s, .int .i64 4] W fun e w' => e = .returned (.int .u64 (n : Int)) ∧ Below W.heap.size W w' := h
    show Calls _ _ _ _ (ReadsTo W (some (bytesL (n : Int) 4)))
    go_enter Tryz.func12, Tryz.ntmps12
    go_wp2_with fail
    refine h.mono ?_
    rintro e w ⟨rfl, hb⟩
    go_wp2_with fail
    refine (bytesOf_any (n : Int) 4 _ (by omega) (by decide)).mono ?_
    rintro e w2 ⟨v, rfl, hf⟩
    obtain ⟨hr, rfl, hz, hb2⟩ := hf
    go_wp2_with fail
    go_ret
    exact reads_bytes hb ⟨hr, rfl, hz, hb2⟩ (by decide)

/-- Value of any text of any type that is one. -/
theorem value_any (t : Int) (l : List UInt8) (w : World) (hk : kindN t ≠ 0) (hl : l.length ≤ 1000000) (hT : Tabs w) :
    Calls Tryz.prog 5 #[.int .u8 t, .string (str l)] w (ValueTo w (valN t l)) := by
  have hb := kind_bd t
  unfold valN
  by_cases h1 : kindN t = 1
  · rw [if_pos h1]
    exact value_of t _ _ w hk hT fun W _ => by rw [h1]; exact readV1 _ l W
  rw [if_neg h1]
  by_cases h2 : kindN t = 2 ∨ kindN t = 3
  · rw [if_pos h2]
    exact valueInt_any t l w h2 hl hT
  rw [if_neg h2]
  by_cases h4 : kindN t = 4
  · rw [if_pos h4]
    rcases float_types t h4 with ⟨rfl, hs⟩ | ⟨rfl, hs⟩
    · rw [if_neg (by decide)]
      exact value_of 8 _ _ w hk hT fun W hW => by rw [h4, hs]; exact readV44 l W hl hW.t64
    · rw [if_pos rfl]
      exact value_of 17 _ _ w hk hT fun W hW => by rw [h4, hs]; exact readV48 l W hl hW.t64
  rw [if_neg h4]
  by_cases h5 : kindN t = 5
  · rw [if_pos h5]
    exact value_of t _ _ w hk hT fun W _ => by rw [h5]; exact readV5 _ l W hl
  rw [if_neg h5]
  by_cases h6 : kindN t = 6
  · rw [if_pos h6]
    exact value_of t _ _ w hk hT fun W _ => by rw [h6]; exact readV6 _ l W hl
  rw [if_neg h6]
  have h7 : kindN t = 7 := by omega
  exact value_of t _ _ w hk hT fun W _ => by rw [h7]; exact readV7 _ l W hl

set_option maxRecDepth 100000 in
/-- Value of a type that is none. -/
theorem value_none (t : Int) (s : ByteArray) (w : World) (hk : kindN t = 0) :
    Calls Tryz.prog 5 #[.int .u8 t, .string s] w fun e w' => e = .returned (.tuple #[.slice none 0 0, .int .i64 10]) ∧ Below w.heap.size w w' := by
  go_enter_defers Tryz.func5, Tryz.ntmps5
  go_wp2_with fail
  refine (kindOf_any _ _).mono ?_
  rintro e w ⟨rfl, rfl⟩
  rw [hk]
  go_wp2_with fail
  simp [bodyPostD, Leaves, results, Tryz.results5, go_sem]
  exact Below.al (Below.al (Below.refl _ _) _) _
#print axioms value_any
end Go.Proofs.YtkfmmpolcjbnbaaGreatDoor
