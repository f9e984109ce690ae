/-
  The document's real, of any text.
  The document's real, of any text: all together.
-/
import Derived.Test.YtkfmmpolcjbnbaaGreatDoorVn6a
import Derived.Test.YtkfmmpolcjbnbaaGreatDoorVn6b
import Derived.Test.YtkfmmpolcjbnbaaGreatDoorVn7
namespace Go.Proofs.YtkfmmpolcjbnbaaGreatDoor
open Pl Go.RowKit

theorem endN_parts (o : Option Nat) : ∃ (n : Int) (b : Bool), endN o = .tuple #[.int .u64 n, .bool b] := by
  cases o with
  | none => exact ⟨_, _, rfl⟩
  | some n => exact ⟨_, _, rfl⟩
theorem minT_parts (l : List UInt8) : ∃ (z : List UInt8) (b : Bool), minT l = .tuple #[.string (str z), .bool b] ∧ z.length ≤ l.length ∧ ((b = true ∧ l.head? = some 45 ∧ z = l.tail) ∨ (b = false ∧ l.head? ≠ some 45 ∧ z = l)) := by
  unfold minT
  by_cases h : l.head? = some 45
  · rw [if_pos h]; exact ⟨_, _, rfl, by rw [List.length_tail]; omega, .inl ⟨rfl, h, rfl⟩⟩
  · rw [if_neg h]; exact ⟨_, _, rfl, Nat.le_refl _, .inr ⟨rfl, h, rfl⟩⟩
theorem toList_str (l : List UInt8) : (str l).toList = l := by rw [Lib.toList_data]; rfl

/-- The exponent of a text, by what the document reads of it. -/
theorem sgn_z (y z : List UInt8) (b : Bool) (h : (b = true ∧ y.head? = some 45 ∧ z = y.tail) ∨ (b = false ∧ y.head? ≠ some 45 ∧ z = y)) :
    sgnV 9999 9999 y = if b then ((decV 18446744073709551615 z).bind fun m => if m ≤ 9999 then some m else none).bind (fun n => if n = 0 then none else some (18446744073709551616 - n)) else (decV 18446744073709551615 z).bind fun m => if m ≤ 9999 then some m else none := by
  unfold sgnV
  rcases h with ⟨rfl, h, rfl⟩ | ⟨rfl, h, rfl⟩
  · rw [if_pos h, decV_most 9999 (by decide), if_pos rfl]
  · rw [if_neg h, decV_most 9999 (by decide), if_neg (by decide)]

theorem realC64 (l d : List UInt8) (s : ByteArray) (below : Bool) (w : World) (hsz : s.size = l.length) (W : Way64 l s) (hd : d.length ≤ 1000000)
    (hM : ∀ w : World, Calls Tryz.prog 64 #[.string s] w fun e w' => e = .returned (.tuple #[.string (str d), .bool below]) ∧ w' = w) :
    Calls Tryz.prog 35 #[.int .u8 17, .string s] w (RefTo w ((szV 52 1023 9218868437227405312 d).map fun n : Nat => bytesL ((n + (if below then 9223372036854775808 else 0) : Nat) : Int) 8)) := by
  by_cases hi : d = [105, 110, 102]
  · have : szV 52 1023 9218868437227405312 d = some 9218868437227405312 := by unfold szV; rw [if_pos hi]
    rw [this]
    exact realInf64 l s (str d) below w hsz W (by rw [toList_str, hi]; rfl) hM
  have ni : ((str d).toList == [105, 110, 102]) = false := by rw [toList_str]; simpa using hi
  have hV : szV 52 1023 9218868437227405312 d = (cutU 112 d).bind fun p => (sgnV 9999 9999 p.2).bind fun q => (decV 18446744073709551615 p.1).bind fun m => togV 52 1023 m (toI q) := by unfold szV; rw [if_neg hi]
  rw [hV]
  have hC := fun w => cutD_any 112 d w hd
  unfold cutT at hC
  cases hc : cutU 112 d with
  | none =>
    rw [hc] at hC
    have hN1 := fun w => refNumberD_any d w hd
    obtain ⟨n1, v1, e1⟩ := endN_parts (decV 18446744073709551615 d)
    rw [e1] at hN1
    have hMy := fun w => minusD_any [] w
    have hN2 := fun w => refNumberD_any [] w (by simp)
    obtain ⟨n2, v2, e2⟩ := endN_parts (decV 18446744073709551615 [])
    rw [e2] at hN2
    exact realB164 l s (str d) below w hsz W ni (str d) ⟨#[]⟩ (str []) hC n1 n2 v1 v2 false hN1 hMy hN2 hM
  | some p =>
    obtain ⟨x, y⟩ := p
    rw [hc] at hC
    have he := cutU_eq 112 d _ hc
    have hlen : d.length = x.length + 1 + y.length := by rw [he]; simp; omega
    have hN1 := fun w => refNumberD_any x w (by omega)
    have hMy := fun w => minusD_any y w
    obtain ⟨z, u, ez, hz, hu⟩ := minT_parts y
    rw [ez] at hMy
    have hN2 := fun w => refNumberD_any z w (by omega)
    have hS := sgn_z y z u hu
    show Calls _ _ _ _ (RefTo w (Option.map (fun n : Nat => bytesL ((n + (if below then 9223372036854775808 else 0) : Nat) : Int) 8) ((sgnV 9999 9999 y).bind fun q => (decV 18446744073709551615 x).bind fun m => togV 52 1023 m (toI q))))
    rw [hS]
    cases h1 : decV 18446744073709551615 x with
    | none =>
      rw [h1] at hN1
      obtain ⟨n2, v2, e2⟩ := endN_parts (decV 18446744073709551615 z)
      rw [e2] at hN2
      have : ∀ o : Option Nat, (Option.map (fun n : Nat => bytesL ((n + (if below then 9223372036854775808 else 0) : Nat) : Int) 8) (o.bind fun q => (none : Option Nat).bind fun m => togV 52 1023 m (toI q))) = none := fun o => by cases o <;> rfl
      rw [this]
      exact realB264 l s (str d) below w hsz W ni (str x) (str y) (str z) hC n2 v2 u hN1 hMy hN2 hM
    | some m =>
      rw [h1] at hN1
      have hm := decV_max x m h1
      cases h2 : decV 18446744073709551615 z with
      | none =>
        rw [h2] at hN2
        have : (if u then (((none : Option Nat).bind fun m => if m ≤ 9999 then some m else none).bind fun n => if n = 0 then none else some (18446744073709551616 - n)) else (none : Option Nat).bind fun m => if m ≤ 9999 then some m else none) = none := by cases u <;> rfl
        rw [this]
        exact realB364 l s (str d) below w hsz W ni (str x) (str y) (str z) hC (m : Int) u hN1 hMy hN2 hM
      | some n =>
        rw [h2] at hN2
        by_cases h9 : n ≤ 9999
        rotate_left
        · have : (if u then (((some n).bind fun m => if m ≤ 9999 then some m else none).bind fun n => if n = 0 then none else some (18446744073709551616 - n)) else (some n).bind fun m => if m ≤ 9999 then some m else none) = none := by
            show (if u then ((if n ≤ 9999 then some n else none).bind fun n => if n = 0 then none else some (18446744073709551616 - n)) else (if n ≤ 9999 then some n else none)) = none
            rw [if_neg h9]; cases u <;> rfl
          rw [this]
          exact realB464 l s (str d) below w hsz W ni (str x) (str y) (str z) hC (m : Int) n u hN1 hMy hN2 (by omega) hM
        have g9 : (n : Int) ≤ 9999 := by omega
        cases u with
        | false =>
          have : (if false = true then (((some n).bind fun m => if m ≤ 9999 then some m else none).bind fun n => if n = 0 then none else some (18446744073709551616 - n)) else (some n).bind fun m => if m ≤ 9999 then some m else none) = some n := by
            rw [if_neg (by decide)]; show (if n ≤ 9999 then some n else none) = some n; rw [if_pos h9]
          rw [this]
          show Calls _ _ _ _ (RefTo w (Option.map (fun n : Nat => bytesL ((n + (if below then 9223372036854775808 else 0) : Nat) : Int) 8) (togV 52 1023 m (toI n))))
          have ti : toI n = (n : Int) := by unfold toI; rw [if_pos (by omega)]
          rw [ti]
          by_cases m0 : m = 0
          · subst m0
            exact realZf64 l s (str d) below w hsz W ni (str x) (str y) (str z) hC n hN1 hMy hN2 g9 hM
          · exact realMf64 l s (str d) below w hsz W ni (str x) (str y) (str z) hC m n hN1 hMy hN2 g9 m0 hm hM
        | true =>
          by_cases n0 : n = 0
          · subst n0
            exact realB564 l s (str d) below w hsz W ni (str x) (str y) (str z) hC (m : Int) hN1 hMy hN2 hM
          have : (if true = true then (((some n).bind fun m => if m ≤ 9999 then some m else none).bind fun n => if n = 0 then none else some (18446744073709551616 - n)) else (some n).bind fun m => if m ≤ 9999 then some m else none) = some (18446744073709551616 - n) := by
            rw [if_pos rfl]
            show ((if n ≤ 9999 then some n else none).bind fun n => if n = 0 then none else some (18446744073709551616 - n)) = _
            rw [if_pos h9]
            show (if n = 0 then none else some (18446744073709551616 - n)) = _
            rw [if_neg n0]
          rw [this]
          show Calls _ _ _ _ (RefTo w (Option.map (fun n : Nat => bytesL ((n + (if below then 9223372036854775808 else 0) : Nat) : Int) 8) (togV 52 1023 m (toI (18446744073709551616 - n)))))
          have ti : toI (18446744073709551616 - n) = -(n : Int) := by unfold toI; rw [if_neg (by omega)]; omega
          rw [ti]
          have b0 : ((n : Int) == 0) = false := by simp; omega
          by_cases m0 : m = 0
          · subst m0
            exact realZt64 l s (str d) below w hsz W ni (str x) (str y) (str z) hC n hN1 hMy hN2 g9 b0 hM
          · exact realMt64 l s (str d) below w hsz W ni (str x) (str y) (str z) hC m n hN1 hMy hN2 g9 m0 hm b0 hM

theorem realC32 (l d : List UInt8) (s : ByteArray) (below : Bool) (w : World) (hsz : s.size = l.length) (W : Way32 l s) (hd : d.length ≤ 1000000)
    (hM : ∀ w : World, Calls Tryz.prog 64 #[.string s] w fun e w' => e = .returned (.tuple #[.string (str d), .bool below]) ∧ w' = w) :
    Calls Tryz.prog 35 #[.int .u8 8, .string s] w (RefTo w ((szV 23 127 2139095040 d).map fun n : Nat => bytesL ((n + (if below then 2147483648 else 0) : Nat) : Int) 4)) := by
  by_cases hi : d = [105, 110, 102]
  · have : szV 23 127 2139095040 d = some 2139095040 := by unfold szV; rw [if_pos hi]
    rw [this]
    exact realInf32 l s (str d) below w hsz W (by rw [toList_str, hi]; rfl) hM
  have ni : ((str d).toList == [105, 110, 102]) = false := by rw [toList_str]; simpa using hi
  have hV : szV 23 127 2139095040 d = (cutU 112 d).bind fun p => (sgnV 9999 9999 p.2).bind fun q => (decV 18446744073709551615 p.1).bind fun m => togV 23 127 m (toI q) := by unfold szV; rw [if_neg hi]
  rw [hV]
  have hC := fun w => cutD_any 112 d w hd
  unfold cutT at hC
  cases hc : cutU 112 d with
  | none =>
    rw [hc] at hC
    have hN1 := fun w => refNumberD_any d w hd
    obtain ⟨n1, v1, e1⟩ := endN_parts (decV 18446744073709551615 d)
    rw [e1] at hN1
    have hMy := fun w => minusD_any [] w
    have hN2 := fun w => refNumberD_any [] w (by simp)
    obtain ⟨n2, v2, e2⟩ := endN_parts (decV 18446744073709551615 [])
    rw [e2] at hN2
    exact realB132 l s (str d) below w hsz W ni (str d) ⟨#[]⟩ (str []) hC n1 n2 v1 v2 false hN1 hMy hN2 hM
  | some p =>
    obtain ⟨x, y⟩ := p
    rw [hc] at hC
    have he := cutU_eq 112 d _ hc
    have hlen : d.length = x.length + 1 + y.length := by rw [he]; simp; omega
    have hN1 := fun w => refNumberD_any x w (by omega)
    have hMy := fun w => minusD_any y w
    obtain ⟨z, u, ez, hz, hu⟩ := minT_parts y
    rw [ez] at hMy
    have hN2 := fun w => refNumberD_any z w (by omega)
    have hS := sgn_z y z u hu
    show Calls _ _ _ _ (RefTo w (Option.map (fun n : Nat => bytesL ((n + (if below then 2147483648 else 0) : Nat) : Int) 4) ((sgnV 9999 9999 y).bind fun q => (decV 18446744073709551615 x).bind fun m => togV 23 127 m (toI q))))
    rw [hS]
    cases h1 : decV 18446744073709551615 x with
    | none =>
      rw [h1] at hN1
      obtain ⟨n2, v2, e2⟩ := endN_parts (decV 18446744073709551615 z)
      rw [e2] at hN2
      have : ∀ o : Option Nat, (Option.map (fun n : Nat => bytesL ((n + (if below then 2147483648 else 0) : Nat) : Int) 4) (o.bind fun q => (none : Option Nat).bind fun m => togV 23 127 m (toI q))) = none := fun o => by cases o <;> rfl
      rw [this]
      exact realB232 l s (str d) below w hsz W ni (str x) (str y) (str z) hC n2 v2 u hN1 hMy hN2 hM
    | some m =>
      rw [h1] at hN1
      have hm := decV_max x m h1
      cases h2 : decV 18446744073709551615 z with
      | none =>
        rw [h2] at hN2
        have : (if u then (((none : Option Nat).bind fun m => if m ≤ 9999 then some m else none).bind fun n => if n = 0 then none else some (18446744073709551616 - n)) else (none : Option Nat).bind fun m => if m ≤ 9999 then some m else none) = none := by cases u <;> rfl
        rw [this]
        exact realB332 l s (str d) below w hsz W ni (str x) (str y) (str z) hC (m : Int) u hN1 hMy hN2 hM
      | some n =>
        rw [h2] at hN2
        by_cases h9 : n ≤ 9999
        rotate_left
        · have : (if u then (((some n).bind fun m => if m ≤ 9999 then some m else none).bind fun n => if n = 0 then none else some (18446744073709551616 - n)) else (some n).bind fun m => if m ≤ 9999 then some m else none) = none := by
            show (if u then ((if n ≤ 9999 then some n else none).bind fun n => if n = 0 then none else some (18446744073709551616 - n)) else (if n ≤ 9999 then some n else none)) = none
            rw [if_neg h9]; cases u <;> rfl
          rw [this]
          exact realB432 l s (str d) below w hsz W ni (str x) (str y) (str z) hC (m : Int) n u hN1 hMy hN2 (by omega) hM
        have g9 : (n : Int) ≤ 9999 := by omega
        cases u with
        | false =>
          have : (if false = true then (((some n).bind fun m => if m ≤ 9999 then some m else none).bind fun n => if n = 0 then none else some (18446744073709551616 - n)) else (some n).bind fun m => if m ≤ 9999 then some m else none) = some n := by
            rw [if_neg (by decide)]; show (if n ≤ 9999 then some n else none) = some n; rw [if_pos h9]
          rw [this]
          show Calls _ _ _ _ (RefTo w (Option.map (fun n : Nat => bytesL ((n + (if below then 2147483648 else 0) : Nat) : Int) 4) (togV 23 127 m (toI n))))
          have ti : toI n = (n : Int) := by unfold toI; rw [if_pos (by omega)]
          rw [ti]
          by_cases m0 : m = 0
          · subst m0
            exact realZf32 l s (str d) below w hsz W ni (str x) (str y) (str z) hC n hN1 hMy hN2 g9 hM
          · exact realMf32 l s (str d) below w hsz W ni (str x) (str y) (str z) hC m n hN1 hMy hN2 g9 m0 hm hM
        | true =>
          by_cases n0 : n = 0
          · subst n0
            exact realB532 l s (str d) below w hsz W ni (str x) (str y) (str z) hC (m : Int) hN1 hMy hN2 hM
          have : (if true = true then (((some n).bind fun m => if m ≤ 9999 then some m else none).bind fun n => if n = 0 then none else some (18446744073709551616 - n)) else (some n).bind fun m => if m ≤ 9999 then some m else none) = some (18446744073709551616 - n) := by
            rw [if_pos rfl]
            show ((if n ≤ 9999 then some n else none).bind fun n => if n = 0 then none else some (18446744073709551616 - n)) = _
            rw [if_pos h9]
            show (if n = 0 then none else some (18446744073709551616 - n)) = _
            rw [if_neg n0]
          rw [this]
          show Calls _ _ _ _ (RefTo w (Option.map (fun n : Nat => bytesL ((n + (if below then 2147483648 else 0) : Nat) : Int) 4) (togV 23 127 m (toI (18446744073709551616 - n)))))
          have ti : toI (18446744073709551616 - n) = -(n : Int) := by unfold toI; rw [if_neg (by omega)]; omega
          rw [ti]
          have b0 : ((n : Int) == 0) = false := by simp; omega
          by_cases m0 : m = 0
          · subst m0
            exact realZt32 l s (str d) below w hsz W ni (str x) (str y) (str z) hC n hN1 hMy hN2 g9 b0 hM
          · exact realMt32 l s (str d) below w hsz W ni (str x) (str y) (str z) hC m n hN1 hMy hN2 g9 m0 hm b0 hM
end Go.Proofs.YtkfmmpolcjbnbaaGreatDoor
namespace Go.Proofs.YtkfmmpolcjbnbaaGreatDoor
open Pl Go.RowKit

theorem realD64 (l : List UInt8) (w : World) (hl : l.length ≤ 1000000) :
    Calls Tryz.prog 35 #[.int .u8 17, .string (str l)] w (RefTo w ((flt64V l).map fun n : Nat => bytesL (n : Int) 8)) := by
  have hsz : (str l).size = l.length := by unfold str; simp [ByteArray.size]
  have hpre : Lib.hasPrefix l [110, 97, 110, 58] = true → l.take 4 = [110, 97, 110, 58] := fun h => by
    have h2 : [110, 97, 110, 58] <+: l := by simpa [Lib.hasPrefix] using h
    obtain ⟨t, rfl⟩ := h2
    rfl
  have htrim : Lib.hasPrefix l [110, 97, 110, 58] = true → Lib.trimPrefix l [110, 97, 110, 58] = l.drop 4 := fun h => by unfold Lib.trimPrefix; rw [if_pos h]; rfl
  have hback : l.take 4 = [110, 97, 110, 58] → Lib.hasPrefix l [110, 97, 110, 58] = true := fun h => by
    have : [110, 97, 110, 58] <+: l := by rw [← h]; exact List.take_prefix 4 l
    simpa [Lib.hasPrefix] using this
  by_cases hN : l.length = 20 ∧ l.take 4 = [110, 97, 110, 58]
  · have hp := hback hN.2
    have : flt64V l = nan64V (l.drop 4) := by unfold flt64V; rw [if_pos hp, htrim hp]
    rw [this]
    exact realN64 l w hN.1 hN.2
  have W : Way64 l (str l) := ⟨by
    by_cases h : l.length = 20
    · refine .inr ⟨by simp; omega, str (l.take 4), fun w => ?_, ?_⟩
      · rw [run_slice_string_h (P := Tryz.prog) w 9 (str l) Tryz.underlying9 .i64 _ (by omega) (by rw [hsz]; omega)]
        congr 2
        apply ByteArray.ext
        simp [str, ByteArray.data_extract]
      · rw [toList_str]
        have : ¬ l.take 4 = [110, 97, 110, 58] := fun h' => hN ⟨h, h'⟩
        simpa using this
    · exact .inl (by simp; omega)⟩
  have hM := fun w => minusD_any l w
  obtain ⟨d, b, ed, hdl, hb⟩ := minT_parts l
  rw [ed] at hM
  have core := realC64 l d (str l) b w hsz W (by omega) hM
  by_cases hp : Lib.hasPrefix l [110, 97, 110, 58] = true
  · have h4 := hpre hp
    have hlen : l.length ≠ 20 := fun h => hN ⟨h, h4⟩
    have hnone : flt64V l = none := by
      unfold flt64V
      rw [if_pos hp, htrim hp]
      unfold nan64V
      have h4' : 4 ≤ l.length := by have := congrArg List.length h4; rw [List.length_take] at this; simp at this; omega
      rw [if_neg (by rw [List.length_drop]; omega)]
    rw [hnone]
    have h2 : [110, 97, 110, 58] <+: l := by simpa [Lib.hasPrefix] using hp
    obtain ⟨t, rfl⟩ := h2
    have hd : d = [110, 97, 110, 58] ++ t := by
      rcases hb with ⟨_, h, _⟩ | ⟨_, _, h⟩
      · simp at h
      · exact h
    have hs : szV 52 1023 9218868437227405312 d = none := by
      rw [hd]
      unfold szV
      rw [if_neg (by simp)]
      cases hc : cutU 112 ([110, 97, 110, 58] ++ t) with
      | none => rfl
      | some p =>
        have hx : p.1.head? = some 110 := by
          have := cutU_skip 112 [110, 97, 110, 58] t (by decide)
          rw [hc] at this
          cases hq : cutU 112 t with
          | none => rw [hq] at this; cases this
          | some q => rw [hq] at this; cases this; rfl
        have hv : decV 18446744073709551615 p.1 = none := by
          obtain ⟨x, y⟩ := p
          cases x with
          | nil => simp at hx
          | cons c r =>
            simp at hx
            subst hx
            rw [decV_good _ _ (.inr ⟨by simp, by simp⟩)]
            show (decStep _ 0 110).bind _ = none
            unfold decStep
            rw [if_neg (by omega)]; rfl
        show ((sgnV 9999 9999 p.2).bind fun q => (decV 18446744073709551615 p.1).bind fun m => togV 52 1023 m (toI q)) = none
        rw [hv]
        cases sgnV 9999 9999 p.2 <;> rfl
    rw [hs] at core
    exact core
  · have : (flt64V l).map (fun n : Nat => bytesL (n : Int) 8) = (szV 52 1023 9218868437227405312 d).map fun n : Nat => bytesL ((n + (if b then 9223372036854775808 else 0) : Nat) : Int) 8 := by
      unfold flt64V
      rw [if_neg hp]
      rcases hb with ⟨rfl, h, rfl⟩ | ⟨rfl, h, rfl⟩
      · rw [if_pos h]
        rw [Option.map_map]
        refine congrArg (fun f => Option.map f _) (funext fun n => ?_)
        simp only [Function.comp, if_true]
      · rw [if_neg h]
        refine congrArg (fun f => Option.map f _) (funext fun n => ?_)
        simp only [Bool.false_eq_true, if_false, Nat.add_zero]
    rw [this]
    exact core
#print axioms realD64

theorem realD32 (l : List UInt8) (w : World) (hl : l.length ≤ 1000000) :
    Calls Tryz.prog 35 #[.int .u8 8, .string (str l)] w (RefTo w ((flt32V l).map fun n : Nat => bytesL (n : Int) 4)) := by
  have hsz : (str l).size = l.length := by unfold str; simp [ByteArray.size]
  have hpre : Lib.hasPrefix l [110, 97, 110, 58] = true → l.take 4 = [110, 97, 110, 58] := fun h => by
    have h2 : [110, 97, 110, 58] <+: l := by simpa [Lib.hasPrefix] using h
    obtain ⟨t, rfl⟩ := h2
    rfl
  have htrim : Lib.hasPrefix l [110, 97, 110, 58] = true → Lib.trimPrefix l [110, 97, 110, 58] = l.drop 4 := fun h => by unfold Lib.trimPrefix; rw [if_pos h]; rfl
  have hback : l.take 4 = [110, 97, 110, 58] → Lib.hasPrefix l [110, 97, 110, 58] = true := fun h => by
    have : [110, 97, 110, 58] <+: l := by rw [← h]; exact List.take_prefix 4 l
    simpa [Lib.hasPrefix] using this
  by_cases hN : l.length = 12 ∧ l.take 4 = [110, 97, 110, 58]
  · have hp := hback hN.2
    have : flt32V l = nan32V (l.drop 4) := by unfold flt32V; rw [if_pos hp, htrim hp]
    rw [this]
    exact realN32 l w hN.1 hN.2
  have W : Way32 l (str l) := ⟨by
    by_cases h : l.length = 12
    · refine .inr ⟨by simp; omega, str (l.take 4), fun w => ?_, ?_⟩
      · rw [run_slice_string_h (P := Tryz.prog) w 9 (str l) Tryz.underlying9 .i64 _ (by omega) (by rw [hsz]; omega)]
        congr 2
        apply ByteArray.ext
        simp [str, ByteArray.data_extract]
      · rw [toList_str]
        have : ¬ l.take 4 = [110, 97, 110, 58] := fun h' => hN ⟨h, h'⟩
        simpa using this
    · exact .inl (by simp; omega)⟩
  have hM := fun w => minusD_any l w
  obtain ⟨d, b, ed, hdl, hb⟩ := minT_parts l
  rw [ed] at hM
  have core := realC32 l d (str l) b w hsz W (by omega) hM
  by_cases hp : Lib.hasPrefix l [110, 97, 110, 58] = true
  · have h4 := hpre hp
    have hlen : l.length ≠ 12 := fun h => hN ⟨h, h4⟩
    have hnone : flt32V l = none := by
      unfold flt32V
      rw [if_pos hp, htrim hp]
      unfold nan32V
      have h4' : 4 ≤ l.length := by have := congrArg List.length h4; rw [List.length_take] at this; simp at this; omega
      rw [if_neg (by rw [List.length_drop]; omega)]
    rw [hnone]
    have h2 : [110, 97, 110, 58] <+: l := by simpa [Lib.hasPrefix] using hp
    obtain ⟨t, rfl⟩ := h2
    have hd : d = [110, 97, 110, 58] ++ t := by
      rcases hb with ⟨_, h, _⟩ | ⟨_, _, h⟩
      · simp at h
      · exact h
    have hs : szV 23 127 2139095040 d = none := by
      rw [hd]
      unfold szV
      rw [if_neg (by simp)]
      cases hc : cutU 112 ([110, 97, 110, 58] ++ t) with
      | none => rfl
      | some p =>
        have hx : p.1.head? = some 110 := by
          have := cutU_skip 112 [110, 97, 110, 58] t (by decide)
          rw [hc] at this
          cases hq : cutU 112 t with
          | none => rw [hq] at this; cases this
          | some q => rw [hq] at this; cases this; rfl
        have hv : decV 18446744073709551615 p.1 = none := by
          obtain ⟨x, y⟩ := p
          cases x with
          | nil => simp at hx
          | cons c r =>
            simp at hx
            subst hx
            rw [decV_good _ _ (.inr ⟨by simp, by simp⟩)]
            show (decStep _ 0 110).bind _ = none
            unfold decStep
            rw [if_neg (by omega)]; rfl
        show ((sgnV 9999 9999 p.2).bind fun q => (decV 18446744073709551615 p.1).bind fun m => togV 23 127 m (toI q)) = none
        rw [hv]
        cases sgnV 9999 9999 p.2 <;> rfl
    rw [hs] at core
    exact core
  · have : (flt32V l).map (fun n : Nat => bytesL (n : Int) 4) = (szV 23 127 2139095040 d).map fun n : Nat => bytesL ((n + (if b then 2147483648 else 0) : Nat) : Int) 4 := by
      unfold flt32V
      rw [if_neg hp]
      rcases hb with ⟨rfl, h, rfl⟩ | ⟨rfl, h, rfl⟩
      · rw [if_pos h]
        rw [Option.map_map]
        refine congrArg (fun f => Option.map f _) (funext fun n => ?_)
        simp only [Function.comp, if_true]
      · rw [if_neg h]
        refine congrArg (fun f => Option.map f _) (funext fun n => ?_)
        simp only [Bool.false_eq_true, if_false, Nat.add_zero]
    rw [this]
    exact core
#print axioms realD32
end Go.Proofs.YtkfmmpolcjbnbaaGreatDoor
