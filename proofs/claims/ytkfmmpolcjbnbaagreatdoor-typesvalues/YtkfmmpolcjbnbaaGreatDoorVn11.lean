/-
  The walks of the document's value, kind by kind.
-/
import Derived.Test.YtkfmmpolcjbnbaaGreatDoorVn10
import Derived.Test.YtkfmmpolcjbnbaaGreatDoorVn4
namespace Go.Proofs.YtkfmmpolcjbnbaaGreatDoor
open Pl Go.RowKit

set_option linter.unusedSimpArgs false in
set_option maxHeartbeats 4000000 in
set_option maxRecDepth 100000 in
theorem valueDw (t : Int) (l : List UInt8) (w : World) (hl : l.length ≤ 1000000) (hk : kindN t = 2 ∨ kindN t = 3) : Calls Tryz.prog 14 #[.int .u8 t, .string (str l)] w (RefTo w (intV t l)) := by
  have KD := fun w => refKind_any t w
  have HW := fun w => wholeD_any t l w hk hl
  have hlt : letN t = 105 ∨ letN t = 117 := by unfold letN; rcases hk with h | h <;> rw [h] <;> simp
  generalize letN t = K at *
  generalize str l = s at *
  generalize intV t l = R at *
  rcases hlt with rfl | rfl
  all_goals
    go_enter Tryz.func14, Tryz.ntmps14
    go_wp2_with fail
    refine (KD _).mono ?_
    rintro e w ⟨rfl, rfl⟩
    clear KD
    go_wp2_with fail
    refine (HW _).mono ?_
    cases R with
    | none =>
      rintro e w' ⟨⟨v, rfl⟩, hb⟩
      go_wp2_with fail
      go_ret2
      exact ⟨⟨_, rfl⟩, hb⟩
    | some zs =>
      rintro e w' ⟨⟨a, len, cap, rfl, ht⟩, hb⟩
      go_wp2_with fail
      go_ret2
      exact ⟨⟨_, _, _, rfl, ht⟩, hb⟩

/-- The document's real, of the two types of floats. -/
def RealIs : Prop := ∀ (l : List UInt8) (w : World), l.length ≤ 1000000 → Calls Tryz.prog 35 #[.int .u8 17, .string (str l)] w (RefTo w ((flt64V l).map fun n : Nat => bytesL (n : Int) 8)) ∧ Calls Tryz.prog 35 #[.int .u8 8, .string (str l)] w (RefTo w ((flt32V l).map fun n : Nat => bytesL (n : Int) 4))
def UnqIs : Prop := ∀ (l : List UInt8) (w : World), l.length ≤ 1000000 → Calls Tryz.prog 39 #[.string (str l)] w (RefTo w (uqV l))

set_option linter.unusedSimpArgs false in
set_option maxHeartbeats 4000000 in
set_option maxRecDepth 100000 in
theorem valueDf17 (hR : RealIs) (l : List UInt8) (w : World) (hl : l.length ≤ 1000000) : Calls Tryz.prog 14 #[.int .u8 17, .string (str l)] w (RefTo w ((flt64V l).map fun n : Nat => bytesL (n : Int) 8)) := by
  have KD := fun w => refKind_any 17 w
  rw [show letN 17 = 102 from by decide] at KD
  have HW := fun w => (hR l w hl).1
  generalize str l = s at *
  generalize (((flt64V l).map fun n : Nat => bytesL (n : Int) 8) : Option (List Int)) = R at *
  go_enter Tryz.func14, Tryz.ntmps14
  go_wp2_with fail
  refine (KD _).mono ?_
  rintro e w ⟨rfl, rfl⟩
  clear KD
  go_wp2_with fail
  refine (HW _).mono ?_
  cases R with
  | none =>
    rintro e w' ⟨⟨v, rfl⟩, hb⟩
    go_wp2_with fail
    go_ret2
    exact ⟨⟨_, rfl⟩, hb⟩
  | some zs =>
    rintro e w' ⟨⟨a, len, cap, rfl, ht⟩, hb⟩
    go_wp2_with fail
    go_ret2
    exact ⟨⟨_, _, _, rfl, ht⟩, hb⟩

set_option linter.unusedSimpArgs false in
set_option maxHeartbeats 4000000 in
set_option maxRecDepth 100000 in
theorem valueDf8 (hR : RealIs) (l : List UInt8) (w : World) (hl : l.length ≤ 1000000) : Calls Tryz.prog 14 #[.int .u8 8, .string (str l)] w (RefTo w ((flt32V l).map fun n : Nat => bytesL (n : Int) 4)) := by
  have KD := fun w => refKind_any 8 w
  rw [show letN 8 = 102 from by decide] at KD
  have HW := fun w => (hR l w hl).2
  generalize str l = s at *
  generalize (((flt32V l).map fun n : Nat => bytesL (n : Int) 4) : Option (List Int)) = R at *
  go_enter Tryz.func14, Tryz.ntmps14
  go_wp2_with fail
  refine (KD _).mono ?_
  rintro e w ⟨rfl, rfl⟩
  clear KD
  go_wp2_with fail
  refine (HW _).mono ?_
  cases R with
  | none =>
    rintro e w' ⟨⟨v, rfl⟩, hb⟩
    go_wp2_with fail
    go_ret2
    exact ⟨⟨_, rfl⟩, hb⟩
  | some zs =>
    rintro e w' ⟨⟨a, len, cap, rfl, ht⟩, hb⟩
    go_wp2_with fail
    go_ret2
    exact ⟨⟨_, _, _, rfl, ht⟩, hb⟩

theorem told1 (w : World) (c : Int) (h : 0 ≤ c ∧ c < 256) : Told w (w.alloc (.cells #[.int .u8 c] 5)) (some ⟨w.heap.size, 0, none⟩) 1 1 [c] :=
  ⟨row_lit w _ _ [c] 1 rfl (fun n hn => by simp at hn; omega) rfl, Nat.le_refl _, by decide, fun _ => ⟨_, rfl, Nat.le_refl _, fun i _ => World.frozen?_alloc_new _ _ _ i⟩⟩

set_option linter.unusedSimpArgs false in
set_option maxHeartbeats 4000000 in
set_option maxRecDepth 100000 in
theorem valueD1 (l : List UInt8) (w : World) : Calls Tryz.prog 14 #[.int .u8 1, .string (str l)] w (RefTo w (truV l)) := by
  have KD := fun w => refKind_any 1 w
  rw [show letN 1 = 98 from by decide] at KD
  by_cases h1 : l = [116, 114, 117, 101]
  · have HV : Hid (truV l = some [1]) := by show _ = _; unfold truV; rw [if_pos h1]
    rw [HV.out]
    subst h1
    have T1 : Hid _ := told1 w 1 (by decide)
    show Calls Tryz.prog 14 #[.int .u8 1, .string ⟨#[116, 114, 117, 101]⟩] w _
    go_enter Tryz.func14, Tryz.ntmps14
    go_wp2_with fail
    refine (KD _).mono ?_
    rintro e w ⟨rfl, rfl⟩
    clear KD
    go_wp2_with fail
    go_ret2
    exact ⟨⟨_, _, _, rfl, T1.out⟩, Below.al (Below.refl _ _) _⟩
  by_cases h2 : l = [102, 97, 108, 115, 101]
  · have HV : Hid (truV l = some [0]) := by show _ = _; unfold truV; rw [if_neg h1, if_pos h2]
    rw [HV.out]
    subst h2
    clear h1
    have T1 : Hid _ := told1 w 0 (by decide)
    show Calls Tryz.prog 14 #[.int .u8 1, .string ⟨#[102, 97, 108, 115, 101]⟩] w _
    go_enter Tryz.func14, Tryz.ntmps14
    go_wp2_with fail
    refine (KD _).mono ?_
    rintro e w ⟨rfl, rfl⟩
    clear KD
    go_wp2_with fail
    go_ret2
    exact ⟨⟨_, _, _, rfl, T1.out⟩, Below.al (Below.refl _ _) _⟩
  have HV : Hid (truV l = none) := by show _ = _; unfold truV; rw [if_neg h1, if_neg h2]
  rw [HV.out]
  obtain ⟨s, HS, htl, hsz, _⟩ := str_facts l
  rw [HS.out]
  have q3 : (l == [116, 114, 117, 101]) = false := by simp [h1]
  have q4 : (l == [102, 97, 108, 115, 101]) = false := by simp [h2]
  go_enter Tryz.func14, Tryz.ntmps14
  go_wp2_with fail
  refine (KD _).mono ?_
  rintro e w ⟨rfl, rfl⟩
  clear KD
  go_wp2_with fail
  go_ret2
  exact ⟨⟨_, rfl⟩, Below.al (Below.refl _ _) _⟩

set_option linter.unusedSimpArgs false in
set_option maxHeartbeats 4000000 in
set_option maxRecDepth 100000 in
theorem bytesO_any (n : Int) (size : Nat) (w : World) (h8 : size ≤ 8) :
    Calls Tryz.prog 38 #[.int .u64 n, .int .i64 (size : Int)] w fun e w' => (∃ v, e = .returned v ∧ w'.ownsRow w.heap.size 5 1 v size ((bytesL n size).map (Value.int .u8))) ∧ Below w.heap.size w w' := by
  obtain ⟨i0, hi, hz0, hz1, hz2⟩ := info_parts info8
  have hs8 : (size : Int) ≤ 8 := by omega
  go_enter Tryz.func38, Tryz.ntmps38
  go_wp2_with fail
  go_loopw [5, 6] (fun v i wr => ∃ k : Nat, k ≤ size ∧ i = .int .i64 (k : Int) ∧ Below w.heap.size w wr ∧ wr.ownsRow w.heap.size 5 1 v k ((bytesL n k).map (Value.int .u8)))
    (fun _ i _ => size - (intOf i).toNat)
  case atStart => exact ⟨0, Nat.zero_le _, rfl, Below.refl _ _, World.ownsRow_nil _ _ _ _⟩
  case round =>
    obtain ⟨k, hk, rfl, hb, hown⟩ := hrel
    by_cases hlt : k < size
    · have hlt' : (k : Int) < (size : Int) := by omega
      have hk0 : (0 : Int) ≤ (k : Int) := by omega
      have BS : Hid (bytesL n (k + 1) = bytesL n k ++ [n / 2 ^ (8 * k) % 256]) := bytesL_snoc n k
      go_wp2_with (at_builtin; refine wpList_append_own _ rfl _ _ 23 rfl w.heap.size 5 i0 (.int .u8 0) 1 1 Tryz.underlying23 hi hz0 hz1 hz2 rfl (by decide) _ _ _ rfl (hown.alloc _) ⟨wr.heap.size, 0, none⟩ 1 1 [.int .u8 (n / 2 ^ (8 * k) % 256)] rfl rfl ?c1 ?c2 ?c3 ?c4 ?c5 ?_)
      case c1 =>
        intro j u hj
        match j, hj with
        | 0, hj => simp at hj; subst hj; simp [Addr.add]
      case c2 => intro u hu; simp at hu; subst hu; rfl
      case c3 => unfold maxLen; omega
      case c4 => omega
      case c5 => have := hb.size; simp; omega
      intro v' w2 hown' hgrow _
      go_wp2_with fail
      refine ⟨⟨k + 1, by omega, by go_num, (Below.al hb _).grown hgrow (by have := hb.size; simp; omega) (fun j hj => (hown.lt j hj).1), ?_⟩, by simp [intOf]; omega⟩
      rw [BS.out, List.map_append]
      exact hown'
    · obtain rfl : k = size := by omega
      go_wp2_with fail
      go_ret
      exact ⟨⟨_, rfl, hown⟩, hb⟩

set_option linter.unusedSimpArgs false in
set_option maxHeartbeats 4000000 in
set_option maxRecDepth 100000 in
theorem momD12 (s sx sy : ByteArray) (o b1 b2 : Bool) (n1 n2 : Nat) (w : World)
    (HC : ∀ w : World, Calls Tryz.prog 36 #[.string s, .int .u8 58] w fun e w' => e = .returned (.tuple #[.string sx, .string sy, .bool o]) ∧ Below w.heap.size w w')
    (H1 : ∀ w : World, Calls Tryz.prog 37 #[.string sx] w fun e w' => e = .returned (.tuple #[.int .u64 (n1 : Int), .bool b1]) ∧ w' = w)
    (H2 : ∀ w : World, Calls Tryz.prog 37 #[.string sy] w fun e w' => e = .returned (.tuple #[.int .u64 (n2 : Int), .bool b2]) ∧ w' = w) :
    Calls Tryz.prog 14 #[.int .u8 12, .string s] w (RefTo w (if o = true ∧ b1 = true ∧ b2 = true ∧ n1 < 65536 ∧ n2 < 86400000 then some (bytesL (n2 : Int) 4 ++ bytesL (n1 : Int) 2) else none)) := by
  obtain ⟨R, HR⟩ : ∃ R, Hid (R = (if o = true ∧ b1 = true ∧ b2 = true ∧ n1 < 65536 ∧ n2 < 86400000 then some (bytesL (n2 : Int) 4 ++ bytesL (n1 : Int) 2) else none)) := ⟨_, rfl⟩
  rw [← HR.out]
  have KD := fun w => refKind_any 12 w
  rw [show letN 12 = 116 from by decide] at KD
  obtain ⟨i0, hi, hz0, hz1, hz2⟩ := info_parts info8
  have X1 : Hid (∀ w : World, Calls Tryz.prog 38 #[.int .u64 (n2 : Int), .int .i64 4] w fun e w' => (∃ v, e = .returned v ∧ w'.ownsRow w.heap.size 5 1 v 4 ((bytesL (n2 : Int) 4).map (Value.int .u8))) ∧ Below w.heap.size w w') := fun w => bytesO_any n2 4 w (by omega)
  have X2 : Hid (∀ w : World, Calls Tryz.prog 38 #[.int .u64 (n1 : Int), .int .i64 2] w fun e w' => (∃ a cap, e = .returned (.slice a 2 cap) ∧ Told w w' a 2 cap (bytesL (n1 : Int) 2)) ∧ Below w.heap.size w w') := fun w => bytesD_any n1 2 w (by omega)
  go_enter Tryz.func14, Tryz.ntmps14
  go_wp2_with fail
  refine (KD _).mono ?_
  rintro e w ⟨rfl, rfl⟩
  clear KD
  go_wp2_with fail
  refine (HC _).mono ?_
  rintro e w1 ⟨rfl, B1⟩
  clear HC
  go_wp2_with fail
  refine (H1 _).mono ?_
  rintro e w1 ⟨rfl, rfl⟩
  clear H1
  go_wp2_with fail
  refine (H2 _).mono ?_
  rintro e w1 ⟨rfl, rfl⟩
  clear H2
  go_wp2_with fail
  refine (X1.out _).mono ?_
  rintro e w2 ⟨⟨v, rfl, own⟩, b2'⟩
  clear X1
  have B2 : Below w.heap.size w w2 := Below.andThen B1 b2'
  have SZ : Hid (w1.heap.size ≤ w2.heap.size) := b2'.size
  have OW : Hid (w2.ownsRow w1.heap.size 5 1 v 4 ((bytesL (n2 : Int) 4).map (Value.int .u8))) := own
  clear own b2'
  go_wp2_with fail
  refine (X2.out _).mono ?_
  rintro e w3 ⟨⟨a, cap, rfl, ht⟩, b3⟩
  clear X2
  obtain ⟨gb, rfl, _, _⟩ := ht.own (by decide)
  have B3 : Below w.heap.size w w3 := Below.andThen B2 b3
  have OZ : Hid (w3.ownsRow w1.heap.size 5 1 v 4 ((bytesL (n2 : Int) 4).map (Value.int .u8))) := ownD_next OW.out b3
  have NW := ht.row.cellsAt (by decide)
  have o1 : ∀ v ∈ (bytesL (n1 : Int) 2).map (Value.int .u8), v.oneCell' = true := fun u hu => by obtain ⟨_, _, rfl⟩ := List.mem_map.1 hu; rfl
  have hl2 : ((bytesL (n1 : Int) 2).map (Value.int .u8)).length = 2 * 1 := by rw [List.length_map, bytesL_length]
  have s13 : w1.heap.size ≤ w3.heap.size := by have := (OW.out.lt); have := B1.size; have := b3.size; have q := B2.size; first | exact (Nat.le_trans SZ.out b3.size) | omega
  clear OW b3 ht
  go_wp2_with (at_builtin; refine wpList_append_own _ rfl _ _ 23 rfl w1.heap.size 5 i0 (.int .u8 0) 1 1 Tryz.underlying23 hi hz0 hz1 hz2 rfl (by decide) _ 4 _ rfl OZ.out ⟨gb, 0, none⟩ 2 cap ((bytesL (n1 : Int) 2).map (Value.int .u8)) rfl hl2 NW o1 (by decide) (by omega) s13 ?_)
  intro v' w4 hown' hgrow _
  have B4 : Below w.heap.size w w4 := B3.grown hgrow B3.size (fun j hj => by have := (OZ.out.lt j hj).1; have := B1.size; omega)
  rw [← List.map_append] at hown'
  obtain ⟨a', cap', rfl, ht⟩ := own_told hown' (fun n hn => (List.mem_append.1 hn).elim (bytesL_oct _ _ n) (bytesL_oct _ _ n)) (by rw [List.length_append, bytesL_length, bytesL_length])
  have HT : Hid (Told w w4 a' 6 cap' (bytesL (n2 : Int) 4 ++ bytesL (n1 : Int) 2)) := ⟨ht.row, ht.le, ht.max, fun hp => by obtain ⟨g, e, h1, h2⟩ := ht.own hp; exact ⟨g, e, by have := B1.size; omega, h2⟩⟩
  clear ht hown' hgrow OZ NW o1 hl2 s13
  by_cases hall : o = true ∧ b1 = true ∧ b2 = true ∧ n1 < 65536 ∧ n2 < 86400000
  · have HE : R = some (bytesL (n2 : Int) 4 ++ bytesL (n1 : Int) 2) := by rw [HR.out, if_pos hall]
    clear HR
    subst HE
    obtain ⟨rfl, rfl, rfl, g1, g2⟩ := hall
    have g1' : (n1 : Int) < 65536 := by omega
    have g2' : (n2 : Int) < 86400000 := by omega
    go_wp2_with fail
    go_ret2
    exact ⟨⟨_, _, _, rfl, HT.out⟩, B4⟩
  · have HE : R = none := by rw [HR.out, if_neg hall]
    clear HR
    subst HE
    have sp : o = false ∨ (o = true ∧ b1 = false) ∨ (o = true ∧ b1 = true ∧ b2 = false) ∨ (o = true ∧ b1 = true ∧ b2 = true ∧ ¬ (n1 : Int) < 65536) ∨ (o = true ∧ b1 = true ∧ b2 = true ∧ (n1 : Int) < 65536 ∧ ¬ (n2 : Int) < 86400000) := by
      cases o <;> cases b1 <;> cases b2 <;> simp at hall ⊢
      omega
    clear hall HT
    rcases sp with rfl | ⟨rfl, rfl⟩ | ⟨rfl, rfl, rfl⟩ | ⟨rfl, rfl, rfl, g1⟩ | ⟨rfl, rfl, rfl, g1, g2⟩
    all_goals
      go_wp2_with fail
      go_ret2
      exact ⟨⟨_, rfl⟩, B4⟩

set_option linter.unusedSimpArgs false in
set_option maxHeartbeats 4000000 in
set_option maxRecDepth 100000 in
theorem momD13 (s sx sy : ByteArray) (o b1 b2 : Bool) (n1 n2 : Nat) (w : World)
    (HC : ∀ w : World, Calls Tryz.prog 36 #[.string s, .int .u8 58] w fun e w' => e = .returned (.tuple #[.string sx, .string sy, .bool o]) ∧ Below w.heap.size w w')
    (H1 : ∀ w : World, Calls Tryz.prog 37 #[.string sx] w fun e w' => e = .returned (.tuple #[.int .u64 (n1 : Int), .bool b1]) ∧ w' = w)
    (H2 : ∀ w : World, Calls Tryz.prog 37 #[.string sy] w fun e w' => e = .returned (.tuple #[.int .u64 (n2 : Int), .bool b2]) ∧ w' = w) :
    Calls Tryz.prog 14 #[.int .u8 13, .string s] w (RefTo w (if o = true ∧ b1 = true ∧ b2 = true ∧ n1 < 65536 ∧ n2 < 86400000 then some (bytesL (n2 : Int) 4 ++ bytesL (n1 : Int) 2) else none)) := by
  obtain ⟨R, HR⟩ : ∃ R, Hid (R = (if o = true ∧ b1 = true ∧ b2 = true ∧ n1 < 65536 ∧ n2 < 86400000 then some (bytesL (n2 : Int) 4 ++ bytesL (n1 : Int) 2) else none)) := ⟨_, rfl⟩
  rw [← HR.out]
  have KD := fun w => refKind_any 13 w
  rw [show letN 13 = 116 from by decide] at KD
  obtain ⟨i0, hi, hz0, hz1, hz2⟩ := info_parts info8
  have X1 : Hid (∀ w : World, Calls Tryz.prog 38 #[.int .u64 (n2 : Int), .int .i64 4] w fun e w' => (∃ v, e = .returned v ∧ w'.ownsRow w.heap.size 5 1 v 4 ((bytesL (n2 : Int) 4).map (Value.int .u8))) ∧ Below w.heap.size w w') := fun w => bytesO_any n2 4 w (by omega)
  have X2 : Hid (∀ w : World, Calls Tryz.prog 38 #[.int .u64 (n1 : Int), .int .i64 2] w fun e w' => (∃ a cap, e = .returned (.slice a 2 cap) ∧ Told w w' a 2 cap (bytesL (n1 : Int) 2)) ∧ Below w.heap.size w w') := fun w => bytesD_any n1 2 w (by omega)
  go_enter Tryz.func14, Tryz.ntmps14
  go_wp2_with fail
  refine (KD _).mono ?_
  rintro e w ⟨rfl, rfl⟩
  clear KD
  go_wp2_with fail
  refine (HC _).mono ?_
  rintro e w1 ⟨rfl, B1⟩
  clear HC
  go_wp2_with fail
  refine (H1 _).mono ?_
  rintro e w1 ⟨rfl, rfl⟩
  clear H1
  go_wp2_with fail
  refine (H2 _).mono ?_
  rintro e w1 ⟨rfl, rfl⟩
  clear H2
  go_wp2_with fail
  refine (X1.out _).mono ?_
  rintro e w2 ⟨⟨v, rfl, own⟩, b2'⟩
  clear X1
  have B2 : Below w.heap.size w w2 := Below.andThen B1 b2'
  have SZ : Hid (w1.heap.size ≤ w2.heap.size) := b2'.size
  have OW : Hid (w2.ownsRow w1.heap.size 5 1 v 4 ((bytesL (n2 : Int) 4).map (Value.int .u8))) := own
  clear own b2'
  go_wp2_with fail
  refine (X2.out _).mono ?_
  rintro e w3 ⟨⟨a, cap, rfl, ht⟩, b3⟩
  clear X2
  obtain ⟨gb, rfl, _, _⟩ := ht.own (by decide)
  have B3 : Below w.heap.size w w3 := Below.andThen B2 b3
  have OZ : Hid (w3.ownsRow w1.heap.size 5 1 v 4 ((bytesL (n2 : Int) 4).map (Value.int .u8))) := ownD_next OW.out b3
  have NW := ht.row.cellsAt (by decide)
  have o1 : ∀ v ∈ (bytesL (n1 : Int) 2).map (Value.int .u8), v.oneCell' = true := fun u hu => by obtain ⟨_, _, rfl⟩ := List.mem_map.1 hu; rfl
  have hl2 : ((bytesL (n1 : Int) 2).map (Value.int .u8)).length = 2 * 1 := by rw [List.length_map, bytesL_length]
  have s13 : w1.heap.size ≤ w3.heap.size := by have := (OW.out.lt); have := B1.size; have := b3.size; have q := B2.size; first | exact (Nat.le_trans SZ.out b3.size) | omega
  clear OW b3 ht
  go_wp2_with (at_builtin; refine wpList_append_own _ rfl _ _ 23 rfl w1.heap.size 5 i0 (.int .u8 0) 1 1 Tryz.underlying23 hi hz0 hz1 hz2 rfl (by decide) _ 4 _ rfl OZ.out ⟨gb, 0, none⟩ 2 cap ((bytesL (n1 : Int) 2).map (Value.int .u8)) rfl hl2 NW o1 (by decide) (by omega) s13 ?_)
  intro v' w4 hown' hgrow _
  have B4 : Below w.heap.size w w4 := B3.grown hgrow B3.size (fun j hj => by have := (OZ.out.lt j hj).1; have := B1.size; omega)
  rw [← List.map_append] at hown'
  obtain ⟨a', cap', rfl, ht⟩ := own_told hown' (fun n hn => (List.mem_append.1 hn).elim (bytesL_oct _ _ n) (bytesL_oct _ _ n)) (by rw [List.length_append, bytesL_length, bytesL_length])
  have HT : Hid (Told w w4 a' 6 cap' (bytesL (n2 : Int) 4 ++ bytesL (n1 : Int) 2)) := ⟨ht.row, ht.le, ht.max, fun hp => by obtain ⟨g, e, h1, h2⟩ := ht.own hp; exact ⟨g, e, by have := B1.size; omega, h2⟩⟩
  clear ht hown' hgrow OZ NW o1 hl2 s13
  by_cases hall : o = true ∧ b1 = true ∧ b2 = true ∧ n1 < 65536 ∧ n2 < 86400000
  · have HE : R = some (bytesL (n2 : Int) 4 ++ bytesL (n1 : Int) 2) := by rw [HR.out, if_pos hall]
    clear HR
    subst HE
    obtain ⟨rfl, rfl, rfl, g1, g2⟩ := hall
    have g1' : (n1 : Int) < 65536 := by omega
    have g2' : (n2 : Int) < 86400000 := by omega
    go_wp2_with fail
    go_ret2
    exact ⟨⟨_, _, _, rfl, HT.out⟩, B4⟩
  · have HE : R = none := by rw [HR.out, if_neg hall]
    clear HR
    subst HE
    have sp : o = false ∨ (o = true ∧ b1 = false) ∨ (o = true ∧ b1 = true ∧ b2 = false) ∨ (o = true ∧ b1 = true ∧ b2 = true ∧ ¬ (n1 : Int) < 65536) ∨ (o = true ∧ b1 = true ∧ b2 = true ∧ (n1 : Int) < 65536 ∧ ¬ (n2 : Int) < 86400000) := by
      cases o <;> cases b1 <;> cases b2 <;> simp at hall ⊢
      omega
    clear hall HT
    rcases sp with rfl | ⟨rfl, rfl⟩ | ⟨rfl, rfl, rfl⟩ | ⟨rfl, rfl, rfl, g1⟩ | ⟨rfl, rfl, rfl, g1, g2⟩
    all_goals
      go_wp2_with fail
      go_ret2
      exact ⟨⟨_, rfl⟩, B4⟩

theorem endN_two (o : Option Nat) : ∃ (n : Nat) (b : Bool), endN o = .tuple #[.int .u64 (n : Int), .bool b] ∧ ((b = true ∧ o = some n) ∨ (b = false ∧ o = none)) := by
  cases o with
  | none => exact ⟨0, false, rfl, .inr ⟨rfl, rfl⟩⟩
  | some n => exact ⟨n, true, rfl, .inl ⟨rfl, rfl⟩⟩

theorem valueD5_12 (l : List UInt8) (w : World) (hl : l.length ≤ 1000000) : Calls Tryz.prog 14 #[.int .u8 12, .string (str l)] w (RefTo w (momV l)) := by
  have hc := fun w => cutD_any 58 l w hl
  unfold cutT at hc
  cases hq : cutU 58 l with
  | none =>
    rw [hq] at hc
    obtain ⟨n1, b1, e1, p1⟩ := endN_two (decV 18446744073709551615 l)
    obtain ⟨n2, b2, e2, p2⟩ := endN_two (decV 18446744073709551615 [])
    have := momD12 (str l) (str l) ⟨#[]⟩ false b1 b2 n1 n2 w hc (fun w => by rw [← e1]; exact refNumberD_any l w hl) (fun w => by rw [← e2]; exact refNumberD_any [] w (by simp))
    rw [if_neg (by simp)] at this
    rw [show momV l = none from by unfold momV; rw [hq]; rfl]
    exact this
  | some p =>
    obtain ⟨d, ms⟩ := p
    rw [hq] at hc
    have he := cutU_eq 58 l _ hq
    have hlen : l.length = d.length + 1 + ms.length := by rw [he]; simp; omega
    obtain ⟨n1, b1, e1, p1⟩ := endN_two (decV 18446744073709551615 d)
    obtain ⟨n2, b2, e2, p2⟩ := endN_two (decV 18446744073709551615 ms)
    have := momD12 (str l) (str d) (str ms) true b1 b2 n1 n2 w hc (fun w => by rw [← e1]; exact refNumberD_any d w (by omega)) (fun w => by rw [← e2]; exact refNumberD_any ms w (by omega))
    have HM : momV l = if true = true ∧ b1 = true ∧ b2 = true ∧ n1 < 65536 ∧ n2 < 86400000 then some (bytesL (n2 : Int) 4 ++ bytesL (n1 : Int) 2) else none := by
      unfold momV
      rw [hq]
      show (decV 86399999 ms).bind _ = _
      rw [decV_most 86399999 (by decide) ms, decV_most 65535 (by decide) d]
      rcases p1 with ⟨rfl, q1⟩ | ⟨rfl, q1⟩ <;> rcases p2 with ⟨rfl, q2⟩ | ⟨rfl, q2⟩ <;> rw [q1, q2]
      · by_cases g2 : n2 ≤ 86399999
        · by_cases g1 : n1 ≤ 65535
          · rw [if_pos ⟨rfl, rfl, rfl, by omega, by omega⟩]
            simp [g1, g2]
          · rw [if_neg (by omega)]
            simp [g1, g2]
        · rw [if_neg (by omega)]
          simp [g2]
      · simp
      · by_cases g2 : n2 ≤ 86399999 <;> simp [g2]
      · simp
    rw [HM]
    exact this

theorem valueD5_13 (l : List UInt8) (w : World) (hl : l.length ≤ 1000000) : Calls Tryz.prog 14 #[.int .u8 13, .string (str l)] w (RefTo w (momV l)) := by
  have hc := fun w => cutD_any 58 l w hl
  unfold cutT at hc
  cases hq : cutU 58 l with
  | none =>
    rw [hq] at hc
    obtain ⟨n1, b1, e1, p1⟩ := endN_two (decV 18446744073709551615 l)
    obtain ⟨n2, b2, e2, p2⟩ := endN_two (decV 18446744073709551615 [])
    have := momD13 (str l) (str l) ⟨#[]⟩ false b1 b2 n1 n2 w hc (fun w => by rw [← e1]; exact refNumberD_any l w hl) (fun w => by rw [← e2]; exact refNumberD_any [] w (by simp))
    rw [if_neg (by simp)] at this
    rw [show momV l = none from by unfold momV; rw [hq]; rfl]
    exact this
  | some p =>
    obtain ⟨d, ms⟩ := p
    rw [hq] at hc
    have he := cutU_eq 58 l _ hq
    have hlen : l.length = d.length + 1 + ms.length := by rw [he]; simp; omega
    obtain ⟨n1, b1, e1, p1⟩ := endN_two (decV 18446744073709551615 d)
    obtain ⟨n2, b2, e2, p2⟩ := endN_two (decV 18446744073709551615 ms)
    have := momD13 (str l) (str d) (str ms) true b1 b2 n1 n2 w hc (fun w => by rw [← e1]; exact refNumberD_any d w (by omega)) (fun w => by rw [← e2]; exact refNumberD_any ms w (by omega))
    have HM : momV l = if true = true ∧ b1 = true ∧ b2 = true ∧ n1 < 65536 ∧ n2 < 86400000 then some (bytesL (n2 : Int) 4 ++ bytesL (n1 : Int) 2) else none := by
      unfold momV
      rw [hq]
      show (decV 86399999 ms).bind _ = _
      rw [decV_most 86399999 (by decide) ms, decV_most 65535 (by decide) d]
      rcases p1 with ⟨rfl, q1⟩ | ⟨rfl, q1⟩ <;> rcases p2 with ⟨rfl, q2⟩ | ⟨rfl, q2⟩ <;> rw [q1, q2]
      · by_cases g2 : n2 ≤ 86399999
        · by_cases g1 : n1 ≤ 65535
          · rw [if_pos ⟨rfl, rfl, rfl, by omega, by omega⟩]
            simp [g1, g2]
          · rw [if_neg (by omega)]
            simp [g1, g2]
        · rw [if_neg (by omega)]
          simp [g2]
      · simp
      · by_cases g2 : n2 ≤ 86399999 <;> simp [g2]
      · simp
    rw [HM]
    exact this

set_option linter.unusedSimpArgs false in
set_option maxHeartbeats 4000000 in
set_option maxRecDepth 100000 in
theorem valueD6 (hU : UnqIs) (l : List UInt8) (w : World) (hl : l.length ≤ 1000000) : Calls Tryz.prog 14 #[.int .u8 9, .string (str l)] w (RefTo w (txtW l)) := by
  have KD := fun w => refKind_any 9 w
  rw [show letN 9 = 115 from by decide] at KD
  unfold txtW
  by_cases hq : l.head? = some 34
  · rw [if_pos hq]
    have HW := fun w => hU l w hl
    have h0 : 0 < l.length := by cases l with | nil => simp at hq | cons a b => simp
    obtain ⟨s, HS, htl, hsz, hix⟩ := str_facts l
    have e0 : (l[0].toNat : Int) = 34 := by
      have : l[0] = 34 := by cases l with | nil => simp at hq | cons a b => simpa using hq
      rw [this]; rfl
    have x0 : ∀ w : World, (Instr.index 9 (.string s) (.int .i64 0)).run Tryz.prog w = .ok (.int .u8 34) w := fun w => by
      have := hix 0 h0 w
      rw [e0] at this
      exact this
    have g0 : (0 : Int) < (l.length : Int) := by omega
    rw [HS.out] at HW ⊢
    generalize uqV l = R at *
    clear hix htl HS e0 hq
    go_enter Tryz.func14, Tryz.ntmps14
    go_wp2_with fail
    refine (KD _).mono ?_
    rintro e w ⟨rfl, rfl⟩
    clear KD
    go_wp2_with fail
    refine (HW _).mono ?_
    cases R with
    | none =>
      rintro e w' ⟨⟨v, rfl⟩, hb⟩
      go_wp2_with fail
      go_ret2
      exact ⟨⟨_, rfl⟩, hb⟩
    | some zs =>
      rintro e w' ⟨⟨a, len, cap, rfl, ht⟩, hb⟩
      go_wp2_with fail
      go_ret2
      exact ⟨⟨_, _, _, rfl, ht⟩, hb⟩
  · rw [if_neg hq]
    have HB : Hid (∀ w : World, ∃ a cap w', (convert 9 23 (.string (str l))).run Tryz.prog w = .ok (.slice a l.length cap) w' ∧ ReadsTo w (some (l.map fun c => (c.toNat : Int))) (.returned (.slice a l.length cap)) w') := fun w => bytes_told l w hl
    obtain ⟨a, cap, w', hrun, ⟨⟨a2, len2, cap2, ee, ht⟩, hb⟩⟩ := HB.out w
    cases ee
    obtain ⟨s, HS, htl, hsz, hix⟩ := str_facts l
    rw [HS.out] at hrun ⊢
    have HT : Hid (Told w w' a l.length cap (l.map fun c => (c.toNat : Int))) := ht
    clear HB ht HS
    cases l with
    | nil =>
      have sz : s.size = 0 := hsz
      clear hix htl hsz hq
      go_enter Tryz.func14, Tryz.ntmps14
      go_wp2_with fail
      refine (KD _).mono ?_
      rintro e w ⟨rfl, rfl⟩
      clear KD
      go_wp2_with fail
      go_ret2
      exact ⟨⟨_, _, _, rfl, HT.out⟩, hb⟩
    | cons c m =>
      have x0 : ∀ w : World, (Instr.index 9 (.string s) (.int .i64 0)).run Tryz.prog w = .ok (.int .u8 ((c.toNat : Nat) : Int)) w := fun w => hix 0 (by simp) w
      have q0 : (((c.toNat : Nat) : Int) == 34) = false := by
        have : c ≠ 34 := fun h => hq (by rw [h]; rfl)
        have : c.toNat ≠ 34 := fun h => this (UInt8.toNat_inj.1 h)
        simp; omega
      have g0 : (0 : Int) < ((c :: m).length : Int) := by rw [List.length_cons]; omega
      clear hix htl hq
      obtain ⟨N, hN⟩ : ∃ N, N = (c :: m).length := ⟨_, rfl⟩
      rw [← hN] at hrun hsz g0 HT
      obtain ⟨C, hC⟩ : ∃ C, C = c.toNat := ⟨_, rfl⟩
      rw [← hC] at x0 q0
      clear hN hC
      go_enter Tryz.func14, Tryz.ntmps14
      go_wp2_with fail
      refine (KD _).mono ?_
      rintro e w ⟨rfl, rfl⟩
      clear KD
      go_wp2_with fail
      go_ret2
      exact ⟨⟨_, _, _, rfl, HT.out⟩, hb⟩

set_option linter.unusedSimpArgs false in
set_option maxHeartbeats 4000000 in
set_option maxRecDepth 100000 in
theorem valueD7_10 (l : List UInt8) (w : World) (hl : l.length ≤ 1000000) : Calls Tryz.prog 14 #[.int .u8 10, .string (str l)] w (RefTo w (octW l)) := by
  have KD := fun w => refKind_any 10 w
  rw [show letN 10 = 115 from by decide] at KD
  obtain ⟨i0, hi, hz0, hz1, hz2⟩ := info_parts info8
  have SL : Hid (∀ k, k < l.length / 2 → ∀ w : World, (Instr.slice 9 (.string (str l)) (some (.int .i64 (2 * (k : Int)))) (some (.int .i64 (2 * (k : Int) + 2))) none).run Tryz.prog w = .ok (.string (str ((l.drop (2 * k)).take 2))) w) := fun k hk w => by
    have := slice_str l (2 * k) (2 * k + 2) (by omega) (by omega) w
    rw [show 2 * k + 2 - 2 * k = 2 by omega] at this
    exact this
  have HH : Hid (∀ (k : Nat) (w : World), k < l.length / 2 → Calls Tryz.prog 40 #[.string (str ((l.drop (2 * k)).take 2))] w fun e w' => e = .returned (endN (pr l k)) ∧ w' = w) := fun k w hk => by
    have := hexD_any ((l.drop (2 * k)).take 2) w
    have q2l : ((l.drop (2 * k)).take 2).length = 2 := by rw [List.length_take, List.length_drop]; omega
    rw [show hexV ((l.drop (2 * k)).take 2) = pr l k from by unfold hexV pr; rw [if_neg (by rintro (h | h); rw [h] at q2l; simp at q2l; omega)]] at this
    exact this
  obtain ⟨s, HS, htl, hsz, hix⟩ := str_facts l
  rw [HS.out] at SL ⊢
  clear hix htl HS
  have RES : Hid (∀ k, k = l.length / 2 → (∀ j, j < k → (pr l j).isSome = true) → ((l.length % 2 = 0 → octW l = some ((List.range k).map fun i => (((pr l i).getD 0 : Nat) : Int))) ∧ (l.length % 2 ≠ 0 → octW l = none))) := fun k hk hj => by
    subst hk
    refine ⟨fun h => by unfold octW; rw [if_pos ⟨h, hj⟩], fun h => by unfold octW; rw [if_neg (fun x => h x.1)]⟩
  have BAD : Hid (∀ k, k < l.length / 2 → pr l k = none → octW l = none) := fun k hk hn => by
    unfold octW
    rw [if_neg]
    rintro ⟨_, h⟩
    have := h k hk
    rw [hn] at this
    cases this
  obtain ⟨O, HO⟩ : ∃ O, Hid (O = octW l) := ⟨_, rfl⟩
  rw [← HO.out] at RES BAD ⊢
  have m2 : (l.length : Int).tmod 2 = ((l.length % 2 : Nat) : Int) := by rw [Int.tmod_eq_emod_of_nonneg (by omega)]; omega
  clear HO
  go_enter Tryz.func14, Tryz.ntmps14
  go_wp2_with fail
  refine (KD _).mono ?_
  rintro e w ⟨rfl, rfl⟩
  clear KD
  go_wp2_with fail
  go_loopw [14, 15] (fun v i wr => ∃ k : Nat, k ≤ l.length / 2 ∧ i = .int .i64 (2 * (k : Int)) ∧ (∀ j, j < k → (pr l j).isSome = true) ∧ Below w.heap.size w wr ∧ wr.ownsRow w.heap.size 5 1 v k (((List.range k).map fun i => (((pr l i).getD 0 : Nat) : Int)).map (Value.int .u8)))
    (fun _ i _ => l.length + 2 - (intOf i).toNat)
  case atStart => exact ⟨0, Nat.zero_le _, rfl, fun j hj => absurd hj (by omega), Below.refl _ _, World.ownsRow_nil _ _ _ _⟩
  case round =>
    obtain ⟨k, hk, rfl, hj, hb, hown⟩ := hrel
    have OWN : Hid (wr.ownsRow w.heap.size 5 1 u14 k (((List.range k).map fun i => (((pr l i).getD 0 : Nat) : Int)).map (Value.int .u8))) := hown
    clear hown
    have w1' : IntKind.i64.wrap (2 * (k : Int) + 1) = 2 * (k : Int) + 1 := by rw [IntKind.wrap_i64]; omega
    have w2' : IntKind.i64.wrap (2 * (k : Int) + 2) = 2 * (k : Int) + 2 := by rw [IntKind.wrap_i64]; omega
    by_cases hlt : k < l.length / 2
    · have g : 2 * (k : Int) + 1 < (l.length : Int) := by omega
      have sl := SL.out k hlt
      have hx := fun w => HH.out k w hlt
      cases hp : pr l k with
      | none =>
        have HE : O = none := BAD.out k hlt hp
        rw [hp] at hx
        replace hx : ∀ w : World, Calls Tryz.prog 40 #[.string (str ((l.drop (2 * k)).take 2))] w fun e w' => e = .returned (.tuple #[.int .u64 0, .bool false]) ∧ w' = w := hx
        generalize str ((l.drop (2 * k)).take 2) = sq at *
        clear SL HH RES BAD OWN hj hp
        subst HE
        go_wp2_with fail
        refine (hx _).mono ?_
        rintro e wr ⟨rfl, rfl⟩
        go_wp2_with fail
        go_ret2
        exact ⟨⟨_, rfl⟩, hb⟩
      | some n =>
        have hn : n < 256 := by have := pr_lt l k; rw [hp] at this; exact this
        rw [hp] at hx
        replace hx : ∀ w : World, Calls Tryz.prog 40 #[.string (str ((l.drop (2 * k)).take 2))] w fun e w' => e = .returned (.tuple #[.int .u64 (n : Int), .bool true]) ∧ w' = w := hx
        have NX : Hid ((∀ j, j < k + 1 → (pr l j).isSome = true) ∧ ((List.range (k + 1)).map fun i => (((pr l i).getD 0 : Nat) : Int)) = ((List.range k).map fun i => (((pr l i).getD 0 : Nat) : Int)) ++ [(n : Int)]) := by
          refine ⟨fun j h => ?_, ?_⟩
          · rcases Nat.lt_succ_iff_lt_or_eq.1 h with h | h
            · exact hj j h
            · rw [h, hp]; rfl
          · rw [List.range_succ, List.map_append, List.map_singleton, hp]; rfl
        have wn : IntKind.u8.wrap (n : Int) = (n : Int) := by simp [IntKind.wrap, IntKind.bits, IntKind.signed]; omega
        generalize str ((l.drop (2 * k)).take 2) = sq at *
        clear SL HH RES BAD hj hp
        go_wp2_with fail
        refine (hx _).mono ?_
        rintro e wr ⟨rfl, rfl⟩
        clear hx sl
        go_wp2_with (at_builtin; refine wpList_append_own _ rfl _ _ 23 rfl w.heap.size 5 i0 (.int .u8 0) 1 1 Tryz.underlying23 hi hz0 hz1 hz2 rfl (by decide) _ _ _ rfl (OWN.out.alloc _) ⟨wr.heap.size, 0, none⟩ 1 1 [.int .u8 (n : Int)] rfl rfl (fun j u hj => by match j, hj with | 0, hj => simp at hj; subst hj; simp [Addr.add]) (fun u hu => by simp at hu; subst hu; rfl) (by unfold maxLen; omega) (by omega) (by have := hb.size; simp; omega) ?_)
        intro v' w2 hown' hgrow _
        have hb2 : Below w.heap.size w w2 := (Below.al hb _).grown hgrow (by have := hb.size; simp; omega) (fun j hj => (OWN.out.lt j hj).1)
        have OWN2 : Hid (w2.ownsRow w.heap.size 5 1 v' (k + 1) (((List.range (k + 1)).map fun i => (((pr l i).getD 0 : Nat) : Int)).map (Value.int .u8))) := by
          show w2.ownsRow _ _ _ _ _ _
          rw [NX.out.2, List.map_append]; first | exact hown' | (rw [List.map_map]; exact hown')
        clear hown' hgrow OWN
        go_wp2_with fail
        exact ⟨⟨k + 1, by omega, by first | go_num | (congr 1; omega), NX.out.1, hb2, OWN2.out⟩, by simp [intOf]; omega⟩
    · have hk2 : k = l.length / 2 := by omega
      have g : ¬ 2 * (k : Int) + 1 < (l.length : Int) := by omega
      obtain ⟨r1, r2⟩ := RES.out k hk2 hj
      have ho : Oct ((List.range k).map fun i => (((pr l i).getD 0 : Nat) : Int)) := fun n hn => by
        obtain ⟨i, _, rfl⟩ := List.mem_map.1 hn
        have := pr_lt l i
        omega
      obtain ⟨a, cap, rfl, ht⟩ := own_told OWN.out ho (by simp)
      clear hk2
      by_cases h2 : l.length % 2 = 0
      · have m5' : (l.length : Int) % 2 = 0 := by omega
        have HE := r1 h2
        have m2' : (l.length : Int).tmod 2 = 0 := by rw [m2, h2]; rfl
        have HT : Hid _ := ht
        clear SL HH RES BAD OWN hj m2 ht r1 r2 ho
        subst HE
        go_wp2_with fail
        go_ret2
        exact ⟨⟨_, _, _, rfl, HT.out⟩, hb⟩
      · have HE := r2 h2
        have m2' : ((l.length : Int).tmod 2 == 0) = false := by rw [m2]; simp; omega
        have m3' : (((l.length % 2 : Nat) : Int) == 0) = false := by simp; omega
        have m5' : ((l.length : Int) % 2 == 0) = false := by simp; omega
        clear SL HH RES BAD OWN hj m2 ht r1 r2 ho
        subst HE
        go_wp2_with fail
        go_ret2
        exact ⟨⟨_, rfl⟩, hb⟩

set_option linter.unusedSimpArgs false in
set_option maxHeartbeats 4000000 in
set_option maxRecDepth 100000 in
theorem valueD7_15 (l : List UInt8) (w : World) (hl : l.length ≤ 1000000) : Calls Tryz.prog 14 #[.int .u8 15, .string (str l)] w (RefTo w (octW l)) := by
  have KD := fun w => refKind_any 15 w
  rw [show letN 15 = 115 from by decide] at KD
  obtain ⟨i0, hi, hz0, hz1, hz2⟩ := info_parts info8
  have SL : Hid (∀ k, k < l.length / 2 → ∀ w : World, (Instr.slice 9 (.string (str l)) (some (.int .i64 (2 * (k : Int)))) (some (.int .i64 (2 * (k : Int) + 2))) none).run Tryz.prog w = .ok (.string (str ((l.drop (2 * k)).take 2))) w) := fun k hk w => by
    have := slice_str l (2 * k) (2 * k + 2) (by omega) (by omega) w
    rw [show 2 * k + 2 - 2 * k = 2 by omega] at this
    exact this
  have HH : Hid (∀ (k : Nat) (w : World), k < l.length / 2 → Calls Tryz.prog 40 #[.string (str ((l.drop (2 * k)).take 2))] w fun e w' => e = .returned (endN (pr l k)) ∧ w' = w) := fun k w hk => by
    have := hexD_any ((l.drop (2 * k)).take 2) w
    have q2l : ((l.drop (2 * k)).take 2).length = 2 := by rw [List.length_take, List.length_drop]; omega
    rw [show hexV ((l.drop (2 * k)).take 2) = pr l k from by unfold hexV pr; rw [if_neg (by rintro (h | h); rw [h] at q2l; simp at q2l; omega)]] at this
    exact this
  obtain ⟨s, HS, htl, hsz, hix⟩ := str_facts l
  rw [HS.out] at SL ⊢
  clear hix htl HS
  have RES : Hid (∀ k, k = l.length / 2 → (∀ j, j < k → (pr l j).isSome = true) → ((l.length % 2 = 0 → octW l = some ((List.range k).map fun i => (((pr l i).getD 0 : Nat) : Int))) ∧ (l.length % 2 ≠ 0 → octW l = none))) := fun k hk hj => by
    subst hk
    refine ⟨fun h => by unfold octW; rw [if_pos ⟨h, hj⟩], fun h => by unfold octW; rw [if_neg (fun x => h x.1)]⟩
  have BAD : Hid (∀ k, k < l.length / 2 → pr l k = none → octW l = none) := fun k hk hn => by
    unfold octW
    rw [if_neg]
    rintro ⟨_, h⟩
    have := h k hk
    rw [hn] at this
    cases this
  obtain ⟨O, HO⟩ : ∃ O, Hid (O = octW l) := ⟨_, rfl⟩
  rw [← HO.out] at RES BAD ⊢
  have m2 : (l.length : Int).tmod 2 = ((l.length % 2 : Nat) : Int) := by rw [Int.tmod_eq_emod_of_nonneg (by omega)]; omega
  clear HO
  go_enter Tryz.func14, Tryz.ntmps14
  go_wp2_with fail
  refine (KD _).mono ?_
  rintro e w ⟨rfl, rfl⟩
  clear KD
  go_wp2_with fail
  go_loopw [14, 15] (fun v i wr => ∃ k : Nat, k ≤ l.length / 2 ∧ i = .int .i64 (2 * (k : Int)) ∧ (∀ j, j < k → (pr l j).isSome = true) ∧ Below w.heap.size w wr ∧ wr.ownsRow w.heap.size 5 1 v k (((List.range k).map fun i => (((pr l i).getD 0 : Nat) : Int)).map (Value.int .u8)))
    (fun _ i _ => l.length + 2 - (intOf i).toNat)
  case atStart => exact ⟨0, Nat.zero_le _, rfl, fun j hj => absurd hj (by omega), Below.refl _ _, World.ownsRow_nil _ _ _ _⟩
  case round =>
    obtain ⟨k, hk, rfl, hj, hb, hown⟩ := hrel
    have OWN : Hid (wr.ownsRow w.heap.size 5 1 u14 k (((List.range k).map fun i => (((pr l i).getD 0 : Nat) : Int)).map (Value.int .u8))) := hown
    clear hown
    have w1' : IntKind.i64.wrap (2 * (k : Int) + 1) = 2 * (k : Int) + 1 := by rw [IntKind.wrap_i64]; omega
    have w2' : IntKind.i64.wrap (2 * (k : Int) + 2) = 2 * (k : Int) + 2 := by rw [IntKind.wrap_i64]; omega
    by_cases hlt : k < l.length / 2
    · have g : 2 * (k : Int) + 1 < (l.length : Int) := by omega
      have sl := SL.out k hlt
      have hx := fun w => HH.out k w hlt
      cases hp : pr l k with
      | none =>
        have HE : O = none := BAD.out k hlt hp
        rw [hp] at hx
        replace hx : ∀ w : World, Calls Tryz.prog 40 #[.string (str ((l.drop (2 * k)).take 2))] w fun e w' => e = .returned (.tuple #[.int .u64 0, .bool false]) ∧ w' = w := hx
        generalize str ((l.drop (2 * k)).take 2) = sq at *
        clear SL HH RES BAD OWN hj hp
        subst HE
        go_wp2_with fail
        refine (hx _).mono ?_
        rintro e wr ⟨rfl, rfl⟩
        go_wp2_with fail
        go_ret2
        exact ⟨⟨_, rfl⟩, hb⟩
      | some n =>
        have hn : n < 256 := by have := pr_lt l k; rw [hp] at this; exact this
        rw [hp] at hx
        replace hx : ∀ w : World, Calls Tryz.prog 40 #[.string (str ((l.drop (2 * k)).take 2))] w fun e w' => e = .returned (.tuple #[.int .u64 (n : Int), .bool true]) ∧ w' = w := hx
        have NX : Hid ((∀ j, j < k + 1 → (pr l j).isSome = true) ∧ ((List.range (k + 1)).map fun i => (((pr l i).getD 0 : Nat) : Int)) = ((List.range k).map fun i => (((pr l i).getD 0 : Nat) : Int)) ++ [(n : Int)]) := by
          refine ⟨fun j h => ?_, ?_⟩
          · rcases Nat.lt_succ_iff_lt_or_eq.1 h with h | h
            · exact hj j h
            · rw [h, hp]; rfl
          · rw [List.range_succ, List.map_append, List.map_singleton, hp]; rfl
        have wn : IntKind.u8.wrap (n : Int) = (n : Int) := by simp [IntKind.wrap, IntKind.bits, IntKind.signed]; omega
        generalize str ((l.drop (2 * k)).take 2) = sq at *
        clear SL HH RES BAD hj hp
        go_wp2_with fail
        refine (hx _).mono ?_
        rintro e wr ⟨rfl, rfl⟩
        clear hx sl
        go_wp2_with (at_builtin; refine wpList_append_own _ rfl _ _ 23 rfl w.heap.size 5 i0 (.int .u8 0) 1 1 Tryz.underlying23 hi hz0 hz1 hz2 rfl (by decide) _ _ _ rfl (OWN.out.alloc _) ⟨wr.heap.size, 0, none⟩ 1 1 [.int .u8 (n : Int)] rfl rfl (fun j u hj => by match j, hj with | 0, hj => simp at hj; subst hj; simp [Addr.add]) (fun u hu => by simp at hu; subst hu; rfl) (by unfold maxLen; omega) (by omega) (by have := hb.size; simp; omega) ?_)
        intro v' w2 hown' hgrow _
        have hb2 : Below w.heap.size w w2 := (Below.al hb _).grown hgrow (by have := hb.size; simp; omega) (fun j hj => (OWN.out.lt j hj).1)
        have OWN2 : Hid (w2.ownsRow w.heap.size 5 1 v' (k + 1) (((List.range (k + 1)).map fun i => (((pr l i).getD 0 : Nat) : Int)).map (Value.int .u8))) := by
          show w2.ownsRow _ _ _ _ _ _
          rw [NX.out.2, List.map_append]; first | exact hown' | (rw [List.map_map]; exact hown')
        clear hown' hgrow OWN
        go_wp2_with fail
        exact ⟨⟨k + 1, by omega, by first | go_num | (congr 1; omega), NX.out.1, hb2, OWN2.out⟩, by simp [intOf]; omega⟩
    · have hk2 : k = l.length / 2 := by omega
      have g : ¬ 2 * (k : Int) + 1 < (l.length : Int) := by omega
      obtain ⟨r1, r2⟩ := RES.out k hk2 hj
      have ho : Oct ((List.range k).map fun i => (((pr l i).getD 0 : Nat) : Int)) := fun n hn => by
        obtain ⟨i, _, rfl⟩ := List.mem_map.1 hn
        have := pr_lt l i
        omega
      obtain ⟨a, cap, rfl, ht⟩ := own_told OWN.out ho (by simp)
      clear hk2
      by_cases h2 : l.length % 2 = 0
      · have m5' : (l.length : Int) % 2 = 0 := by omega
        have HE := r1 h2
        have m2' : (l.length : Int).tmod 2 = 0 := by rw [m2, h2]; rfl
        have HT : Hid _ := ht
        clear SL HH RES BAD OWN hj m2 ht r1 r2 ho
        subst HE
        go_wp2_with fail
        go_ret2
        exact ⟨⟨_, _, _, rfl, HT.out⟩, hb⟩
      · have HE := r2 h2
        have m2' : ((l.length : Int).tmod 2 == 0) = false := by rw [m2]; simp; omega
        have m3' : (((l.length % 2 : Nat) : Int) == 0) = false := by simp; omega
        have m5' : ((l.length : Int) % 2 == 0) = false := by simp; omega
        clear SL HH RES BAD OWN hj m2 ht r1 r2 ho
        subst HE
        go_wp2_with fail
        go_ret2
        exact ⟨⟨_, rfl⟩, hb⟩

theorem kind_inv (t : Int) : (kindN t = 1 → t = 1) ∧ (kindN t = 4 → t = 8 ∨ t = 17) ∧ (kindN t = 5 → t = 12 ∨ t = 13) ∧ (kindN t = 6 → t = 9) ∧ (kindN t = 7 → t = 10 ∨ t = 15) := by
  rcases type_cases t with rfl | rfl | rfl | rfl | rfl | rfl | rfl | rfl | rfl | rfl | rfl | rfl | rfl | rfl | rfl | rfl | rfl | rfl | ⟨h, h'⟩
  all_goals first | decide | (rw [h]; exact ⟨fun e => absurd e (by decide), fun e => absurd e (by decide), fun e => absurd e (by decide), fun e => absurd e (by decide), fun e => absurd e (by decide)⟩)

theorem valueD_any (hR : RealIs) (hU : UnqIs) (t : Int) (l : List UInt8) (w : World) (hl : l.length ≤ 1000000) (hk : kindN t ≠ 0) : Calls Tryz.prog 14 #[.int .u8 t, .string (str l)] w (RefTo w (valW t l)) := by
  have kb := kind_bd t
  unfold valW
  by_cases k1 : kindN t = 1
  · rw [if_pos k1]
    have : t = 1 := (kind_inv t).1 k1
    subst this
    exact valueD1 l w
  rw [if_neg k1]
  by_cases k2 : kindN t = 2 ∨ kindN t = 3
  · rw [if_pos k2]
    exact valueDw t l w hl k2
  rw [if_neg k2]
  by_cases k4 : kindN t = 4
  · rw [if_pos k4]
    have : t = 8 ∨ t = 17 := (kind_inv t).2.1 k4
    rcases this with rfl | rfl
    · rw [if_neg (by decide)]
      exact valueDf8 hR l w hl
    · rw [if_pos rfl]
      exact valueDf17 hR l w hl
  rw [if_neg k4]
  by_cases k5 : kindN t = 5
  · rw [if_pos k5]
    have : t = 12 ∨ t = 13 := (kind_inv t).2.2.1 k5
    rcases this with rfl | rfl
    · exact valueD5_12 l w hl
    · exact valueD5_13 l w hl
  rw [if_neg k5]
  by_cases k6 : kindN t = 6
  · rw [if_pos k6]
    have : t = 9 := (kind_inv t).2.2.2.1 k6
    subst this
    exact valueD6 hU l w hl
  rw [if_neg k6]
  have k7 : kindN t = 7 := by omega
  have : t = 10 ∨ t = 15 := (kind_inv t).2.2.2.2 k7
  rcases this with rfl | rfl
  · exact valueD7_10 l w hl
  · exact valueD7_15 l w hl
#print axioms valueD_any
end Go.Proofs.YtkfmmpolcjbnbaaGreatDoor
