/-
  The walk of quotedText: bytes in quotes.
-/
import Derived.Test.YtkfmmpolcjbnbaaDoorFl2
namespace Go.Proofs.YtkfmmpolcjbnbaaDoor
open Pl Go.RowKit

/-- What a byte is in quotes. -/
def quoB (c : Int) : List Int := if c = 34 ∨ c = 92 then [92, c] else if 32 ≤ c ∧ c ≤ 126 then [c] else [92, 120, hexZ (c / 16), hexZ (c % 16)]
/-- Bytes in quotes, without the quotes. -/
def quoL : List Int → List Int
  | [] => []
  | z :: zs => quoB z ++ quoL zs

theorem quoL_snoc : ∀ (zs : List Int) (z : Int), quoL (zs ++ [z]) = quoL zs ++ quoB z
  | [], z => by simp [quoL]
  | y :: zs, z => by simp [quoL, quoL_snoc zs z]
theorem quoB_len (c : Int) : (quoB c).length ≤ 4 := by 
  unfold quoB
  split
  · simp
  · split <;> simp
theorem quoL_len : ∀ zs : List Int, (quoL zs).length ≤ 4 * zs.length
  | [] => by simp [quoL]
  | z :: zs => by have := quoB_len z; have := quoL_len zs; simp [quoL]; omega
theorem quoB_oct (c : Int) (h : 0 ≤ c ∧ c < 256) : Oct (quoB c) := by
  have h1 := hexZ_bd (c / 16) (by omega) (by omega)
  have h2 := hexZ_bd (c % 16) (by omega) (by omega)
  unfold quoB
  split
  · intro n hn; simp at hn; omega
  split
  · intro n hn; simp at hn; omega
  · intro n hn; simp at hn; omega
theorem quoL_oct : ∀ zs : List Int, Oct zs → Oct (quoL zs)
  | [], _ => fun n hn => by simp [quoL] at hn
  | z :: zs, h => fun n hn => by
    rw [quoL, List.mem_append] at hn
    rcases hn with hn | hn
    · exact quoB_oct z (h z (by simp)) n hn
    · exact quoL_oct zs (fun n hn => h n (by simp [hn])) n hn

/-- A builder stays through what leaves all blocks as they were. -/
theorem builder_next {B b : Nat} {bs : List Value} {w w' : World} (h : Lib.IsBuilder 77 5 B b bs w) (hb : Below w.heap.size w w') : Lib.IsBuilder 77 5 B b bs w' := by
  have one : ∀ p, Lib.BuilderAt 77 5 B b p bs w → Lib.BuilderAt 77 5 B b p bs w' := fun p h => by
    have hlt := h.lt
    obtain ⟨hB, v, hk, hown, hne⟩ := h
    refine ⟨hB, v, (hb.block b hlt).trans hk, hown.kept (row := none) ⟨hb.os, hb.tape, hb.output, hb.size, fun k hk _ => hb.block k hk⟩ ?_, hne⟩
    cases h : v.ownBlock with
    | none => exact .inl rfl
    | some x => exact .inr (by simp)
  exact h.imp (one _) (one _)

theorem isPlain_any (c : Int) (w : World) : Calls Tryd.prog 53 #[.int .u8 c] w fun e w' => e = .returned (.bool (decide (32 ≤ c) && decide (c ≤ 126))) ∧ w' = w := by
  by_cases h1 : 32 ≤ c
  · by_cases h2 : c ≤ 126
    · go_enter Tryd.func53, Tryd.ntmps53
      go_wp2
      go_ret
      exact ⟨ret_bool (by first | (simp; done) | (simp; omega)), rfl⟩
    · go_enter Tryd.func53, Tryd.ntmps53
      go_wp2
      go_ret
      exact ⟨ret_bool (by first | (simp; done) | (simp; omega)), rfl⟩
  · go_enter Tryd.func53, Tryd.ntmps53
    go_wp2
    go_ret
    exact ⟨ret_bool (by first | (simp; done) | (simp; omega)), rfl⟩

theorem strCells_nums (zs : List Int) (h : Oct zs) : Lib.strCells (strOfNums zs) = zs.map (Value.int .u8) := by
  rw [cells_nums zs h]
  rfl

set_option maxHeartbeats 8000000 in
set_option maxRecDepth 100000 in
theorem quotedText_any (a : Option Addr) (len cap : Nat) (zs : List Int) (w : World) (hr : Row w a len zs) (hl : len ≤ 1048576) :
    Calls Tryd.prog 29 #[.slice a len cap] w fun e w' => e = .returned (.string (strOfNums (34 :: quoL zs ++ [34]))) ∧ Below w.heap.size w w' := by
  have hs := hr.size
  go_enter Tryd.func29, Tryd.ntmps29
  go_wp2_with fail
  refine (writeByte_any _ _ _ _ _ (builder_new w) (by simp) (by simp)).mono ?_
  rintro e w0 ⟨rfl, hB0, hb0⟩
  have hw0 : Below w.heap.size w w0 := (Below.al (Below.refl _ _) _).trans hb0
  clear hb0
  go_wp2_with fail
  go_loopw [9] (fun i wr => ∃ k : Nat, k ≤ len ∧ i = .int .i64 (k : Int) ∧ Below w.heap.size w wr ∧ Lib.IsBuilder 77 5 w.heap.size w.heap.size ((34 :: quoL (zs.take k)).map (Value.int .u8)) wr)
    (fun i _ => len - (intOf i).toNat)
  case atStart => exact ⟨0, Nat.zero_le _, rfl, hw0, hB0⟩
  case round =>
    obtain ⟨k, hk, rfl, hb, hB⟩ := hrel
    by_cases hlt : k < len
    · obtain ⟨b, off, rfl, hc⟩ := (hr.next hb).at_ (by omega)
      have hck := hc k hlt
      have ho := hr.oct.getD k
      have hx : zs.take (k + 1) = zs.take k ++ [zs.getD k 0] := by
        rw [List.take_succ_eq_append_getElem (by omega)]
        simp [List.getD_eq_getElem?_getD, show k < zs.length by omega]
      have hlt' : (k : Int) < (len : Int) := by omega
      have hn : ((34 :: quoL (zs.take k)).map (Value.int .u8)).length ≤ 5000000 := by
        have := quoL_len (zs.take k)
        rw [List.length_take] at this
        rw [List.length_map, List.length_cons]; omega
      have X : Hid ((34 :: quoL (zs.take (k + 1))).map (Value.int .u8) = (34 :: quoL (zs.take k)).map (Value.int .u8) ++ (quoB (zs.getD k 0)).map (Value.int .u8)) := by
        show _ = _
        rw [hx, quoL_snoc, ← List.cons_append, List.map_append]
      generalize zs.getD k 0 = z at *
      generalize (34 :: quoL (zs.take k)).map (Value.int .u8) = L at *
      clear hc hx hw0 hB0
      by_cases c1 : z = 34
      · subst c1
        have Q : quoB 34 = [92, 34] := by decide
        go_wp2_with fail
        refine (writeByte_any _ _ _ _ _ hB (by omega) hb.size).mono ?_
        rintro e w1 ⟨rfl, hB1, hb1⟩
        go_wp2_with fail
        refine (writeByte_any _ _ _ _ _ hB1 (by rw [List.length_append]; simp only [List.length_singleton]; omega) (Nat.le_trans hb.size hb1.size)).mono ?_
        rintro e w2 ⟨rfl, hB2, hb2⟩
        go_wp2_with fail
        refine ⟨⟨k + 1, by omega, by go_num, (hb.trans hb1).trans hb2, ?_⟩, by simp [intOf]; omega⟩
        rw [X.out, Q]
        simpa [List.append_assoc] using hB2
      have b1 : (z == 34) = false := by simp [c1]
      by_cases c2 : z = 92
      · subst c2
        have Q : quoB 92 = [92, 92] := by decide
        go_wp2_with fail
        refine (writeByte_any _ _ _ _ _ hB (by omega) hb.size).mono ?_
        rintro e w1 ⟨rfl, hB1, hb1⟩
        go_wp2_with fail
        refine (writeByte_any _ _ _ _ _ hB1 (by rw [List.length_append]; simp only [List.length_singleton]; omega) (Nat.le_trans hb.size hb1.size)).mono ?_
        rintro e w2 ⟨rfl, hB2, hb2⟩
        go_wp2_with fail
        refine ⟨⟨k + 1, by omega, by go_num, (hb.trans hb1).trans hb2, ?_⟩, by simp [intOf]; omega⟩
        rw [X.out, Q]
        simpa [List.append_assoc] using hB2
      have b2 : (z == 92) = false := by simp [c2]
      by_cases c3 : 32 ≤ z ∧ z ≤ 126
      · have Q : Hid (quoB z = [z]) := by show quoB z = _; unfold quoB; rw [if_neg (by omega), if_pos c3]
        have P : Hid ((decide (32 ≤ z) && decide (z ≤ 126)) = true) := by show _ = true; simp [c3.1, c3.2]
        clear c1 c2 c3
        go_wp2_with fail
        refine (isPlain_any z _).mono ?_
        rw [P.out]
        rintro e x ⟨rfl, rfl⟩
        go_wp2_with fail
        refine (writeByte_any _ _ _ _ _ hB (by omega) hb.size).mono ?_
        rintro e w1 ⟨rfl, hB1, hb1⟩
        go_wp2_with fail
        refine ⟨⟨k + 1, by omega, by go_num, hb.trans hb1, ?_⟩, by simp [intOf]; omega⟩
        rw [X.out, Q.out]
        exact hB1
      · have Q : Hid (quoB z = [92, 120, hexZ (z / 16), hexZ (z % 16)]) := by show quoB z = _; unfold quoB; rw [if_neg (by omega), if_neg c3]
        have P : Hid ((decide (32 ≤ z) && decide (z ≤ 126)) = false) := by show _ = false; simp; omega
        have h1 := hexZ_bd (z / 16) (by omega) (by omega)
        have h2 := hexZ_bd (z % 16) (by omega) (by omega)
        have ho4 : Oct [92, 120, hexZ (z / 16), hexZ (z % 16)] := fun n hn => by simp at hn; omega
        have S4 : Hid (Lib.strCells (⟨#[92, 120]⟩ ++ strOfNums (hexL [z])) = [92, 120, hexZ (z / 16), hexZ (z % 16)].map (Value.int .u8)) := by
          show _ = _
          rw [← strCells_nums _ ho4]
          congr 1
        obtain ⟨s1, HS⟩ : ∃ s, Hid (strOfNums (hexL [z]) = s) := ⟨_, rfl⟩
        have hz1 : s1.size = 2 := by rw [← HS.out]; rfl
        rw [HS.out] at S4
        have ad := add_run ⟨#[92, 120]⟩ s1 (by have : (⟨#[92, 120]⟩ : ByteArray).size = 2 := rfl; omega)
        have hz2 : (⟨#[92, 120]⟩ ++ s1 : ByteArray).size = 4 := by rw [ByteArray.size_append, hz1]; rfl
        obtain ⟨s2, HS2⟩ : ∃ s, Hid ((⟨#[92, 120]⟩ ++ s1 : ByteArray) = s) := ⟨_, rfl⟩
        rw [HS2.out] at hz2 ad S4
        clear c1 c2 c3 h1 h2 ho4 hz1
        go_wp2_with fail
        refine (isPlain_any z _).mono ?_
        rw [P.out]
        rintro e x ⟨rfl, rfl⟩
        go_wp2_with fail
        refine (hexText_any _ _ _ [z] _ (row_lit _ #[.int .u8 z] 5 [z] 1 rfl (fun n hn => by simp at hn; omega) rfl) (by decide)).mono ?_
        rw [HS.out]
        rintro e w1 ⟨rfl, hb1⟩
        have B1 : Below x.heap.size x w1 := (Below.al (Below.refl _ _) _).trans (hb1.mono (by simp))
        have hB1 := builder_next hB B1
        clear hb1
        go_wp2_with fail
        refine (writeString_any _ _ _ _ _ hB1 (by omega) (Nat.le_trans hb.size B1.size)).mono ?_
        rintro e w2 ⟨rfl, hB2, hb2⟩
        go_wp2_with fail
        refine ⟨⟨k + 1, by omega, by go_num, (Below.andThen hb B1).trans hb2, ?_⟩, by simp [intOf]; omega⟩
        rw [X.out, Q.out, ← S4.out]
        exact hB2
    · obtain rfl : k = len := by omega
      have hlt' : ¬ (k : Int) < (k : Int) := by omega
      rw [List.take_of_length_le (by omega)] at hB
      have hn : ((34 :: quoL zs).map (Value.int .u8)).length ≤ 5000000 := by
        have := quoL_len zs
        rw [List.length_map, List.length_cons]; omega
      have ho : Oct (34 :: quoL zs ++ [34]) := fun n hn => by
        simp at hn
        rcases hn with rfl | hn | rfl
        · omega
        · exact quoL_oct zs hr.oct n hn
        · omega
      have E : Hid ((34 :: quoL zs).map (Value.int .u8) ++ [.int .u8 34] = Lib.byteCells ((34 :: quoL zs ++ [34]).map fun n : Int => UInt8.ofNat n.toNat)) := by
        show _ = _
        rw [← cells_nums _ ho]
        simp
      clear hw0 hB0 ho
      go_wp2_with fail
      refine (writeByte_any _ _ _ _ _ hB (by omega) hb.size).mono ?_
      rw [E.out]
      rintro e w1 ⟨rfl, hB1, hb1⟩
      go_wp2_with fail
      refine (Tryd.Builder_String_any _ _ _ _ hB1 (Nat.le_trans hb.size hb1.size)).mono ?_
      rintro e w2 ⟨rfl, hb2⟩
      go_wp2_with fail
      go_ret
      exact ⟨ret_str (by simp [strOfNums]), (hb.trans hb1).trans hb2⟩
#print axioms quotedText_any
end Go.Proofs.YtkfmmpolcjbnbaaDoor
