/-
  The walk of readTruth.
  The walk of quotedText: bytes in quotes.
  The walk of readQuoted: one byte of a quoted text.
-/
import Derived.Test.YtkfmmpolcjbnbaaGreatDoorRd2
import Derived.Test.YtkfmmpolcjbnbaaGreatDoorHex
namespace Go.Proofs.YtkfmmpolcjbnbaaGreatDoor
open Pl Go.RowKit

/-- The byte that a word tells. -/
def truV (l : List UInt8) : Option (List Int) := if l = [116, 114, 117, 101] then some [1] else if l = [102, 97, 108, 115, 101] then some [0] else none

theorem told_lit (w : World) (c : Int) (h : 0 ≤ c ∧ c < 256) : ReadsTo w (some [c]) (.returned (.slice (some ⟨w.heap.size, 0, none⟩) 1 1)) (w.alloc (.cells #[.int .u8 c] 5)) :=
  ⟨⟨_, _, _, rfl, ⟨row_lit w _ _ [c] 1 rfl (fun n hn => by simp at hn; omega) rfl, Nat.le_refl _, by decide, fun _ => ⟨_, rfl, Nat.le_refl _, fun i _ => World.frozen?_alloc_new _ _ _ i⟩⟩⟩, Below.al (Below.refl _ _) _⟩

set_option maxHeartbeats 1000000 in
set_option maxRecDepth 100000 in
theorem truth_any (l : List UInt8) (w : World) : Calls Tryz.prog 25 #[.string (str l)] w (ReadsTo w (truV l)) := by
  obtain ⟨s, HS, htl, _, _⟩ := str_facts l
  rw [HS.out]
  by_cases h1 : l = [116, 114, 117, 101]
  · have HV : Hid (truV l = some [1]) := by show _ = _; unfold truV; rw [if_pos h1]
    rw [HV.out]
    subst h1
    have TL := told_lit w 1 (by decide)
    have HT : Hid (ReadsTo w (some [1]) (.returned (.slice (some ⟨w.heap.size, 0, none⟩) 1 1)) (w.alloc (.cells #[.int .u8 1] 5))) := TL
    clear TL
    go_enter Tryz.func25, Tryz.ntmps25
    go_wp2_with fail
    refine (must_true _).mono ?_
    rintro e w ⟨rfl, rfl⟩
    go_wp2_with fail
    go_ret
    exact HT.out
  by_cases h2 : l = [102, 97, 108, 115, 101]
  · have HV : Hid (truV l = some [0]) := by show _ = _; unfold truV; rw [if_neg h1, if_pos h2]
    rw [HV.out]
    subst h2
    have HT : Hid (ReadsTo w (some [0]) (.returned (.slice (some ⟨w.heap.size, 0, none⟩) 1 1)) (w.alloc (.cells #[.int .u8 0] 5))) := told_lit w 0 (by decide)
    clear h1
    go_enter Tryz.func25, Tryz.ntmps25
    go_wp2_with fail
    refine (must_true _).mono ?_
    rintro e w ⟨rfl, rfl⟩
    go_wp2_with fail
    go_ret
    exact HT.out
  · have HV : Hid (truV l = none) := by show _ = _; unfold truV; rw [if_neg h1, if_neg h2]
    rw [HV.out]
    have b : (l == [102, 97, 108, 115, 101] || l == [116, 114, 117, 101]) = false := by simp [h1, h2]
    go_enter Tryz.func25, Tryz.ntmps25
    go_wp2_with fail
    first
      | refine (must_false _).mono ?_
      | (rw [show (l == [102, 97, 108, 115, 101] || l == [116, 114, 117, 101]) = false from by simp [h1, h2]]; refine (must_false _).mono ?_)
    rintro e w ⟨rfl, rfl⟩
    go_wp2_with fail
    exact ⟨rfl, rfl, Below.refl _ _⟩
#print axioms truth_any
end Go.Proofs.YtkfmmpolcjbnbaaGreatDoor
namespace Go.Proofs.YtkfmmpolcjbnbaaGreatDoor
open Pl Go.RowKit

/-- What a byte is in quotes. -/
def quoB (c : Int) : List Int := if c = 34 ∨ c = 92 then [92, c] else if 32 ≤ c ∧ c ≤ 126 then [c] else [92, 120, hexZ (c / 16), hexZ (c % 16)]
/-- Bytes in quotes, without the quotes. -/
def quoL : List Int → List Int
  | [] => []
  | z :: zs => quoB z ++ quoL zs

theorem quoL_snoc : ∀ (zs : List Int) (z : Int), quoL (zs ++ [z]) = quoL zs ++ quoB z
  | [], z => by simp [quoL]
  | y :: zs, z => by simp [quoL, quoL_snoc zs z]
theorem quoB_len (c : Int) : (quoB c).length ≤ 4 := by 
  unfold quoB
  split
  · simp
  · split <;> simp
theorem quoL_len : ∀ zs : List Int, (quoL zs).length ≤ 4 * zs.length
  | [] => by simp [quoL]
  | z :: zs => by have := quoB_len z; have := quoL_len zs; simp [quoL]; omega
theorem quoB_oct (c : Int) (h : 0 ≤ c ∧ c < 256) : Oct (quoB c) := by
  have h1 := hexZ_bd (c / 16) (by omega) (by omega)
  have h2 := hexZ_bd (c % 16) (by omega) (by omega)
  unfold quoB
  split
  · intro n hn; simp at hn; omega
  split
  · intro n hn; simp at hn; omega
  · intro n hn; simp at hn; omega
theorem quoL_oct : ∀ zs : List Int, Oct zs → Oct (quoL zs)
  | [], _ => fun n hn => by simp [quoL] at hn
  | z :: zs, h => fun n hn => by
    rw [quoL, List.mem_append] at hn
    rcases hn with hn | hn
    · exact quoB_oct z (h z (by simp)) n hn
    · exact quoL_oct zs (fun n hn => h n (by simp [hn])) n hn

/-- A builder stays through what leaves all blocks as they were. -/
theorem builder_next {B b : Nat} {bs : List Value} {w w' : World} (h : Lib.IsBuilder 99 5 B b bs w) (hb : Below w.heap.size w w') : Lib.IsBuilder 99 5 B b bs w' := by
  have one : ∀ p, Lib.BuilderAt 99 5 B b p bs w → Lib.BuilderAt 99 5 B b p bs w' := fun p h => by
    have hlt := h.lt
    obtain ⟨hB, v, hk, hown, hne⟩ := h
    refine ⟨hB, v, (hb.block b hlt).trans hk, hown.kept (row := none) ⟨hb.os, hb.tape, hb.output, hb.size, fun k hk _ => hb.block k hk⟩ ?_, hne⟩
    cases h : v.ownBlock with
    | none => exact .inl rfl
    | some x => exact .inr (by simp)
  exact h.imp (one _) (one _)

theorem isPlain_any (c : Int) (w : World) : Calls Tryz.prog 77 #[.int .u8 c] w fun e w' => e = .returned (.bool (decide (32 ≤ c) && decide (c ≤ 126))) ∧ w' = w := by
  by_cases h1 : 32 ≤ c
  · by_cases h2 : c ≤ 126
    · go_enter Tryz.func77, Tryz.ntmps77
      go_wp2
      go_ret
      exact ⟨ret_bool (by first | (simp; done) | (simp; omega)), rfl⟩
    · go_enter Tryz.func77, Tryz.ntmps77
      go_wp2
      go_ret
      exact ⟨ret_bool (by first | (simp; done) | (simp; omega)), rfl⟩
  · go_enter Tryz.func77, Tryz.ntmps77
    go_wp2
    go_ret
    exact ⟨ret_bool (by first | (simp; done) | (simp; omega)), rfl⟩

theorem strCells_nums (zs : List Int) (h : Oct zs) : Lib.strCells (strOfNums zs) = zs.map (Value.int .u8) := by
  rw [cells_nums zs h]
  rfl

set_option maxHeartbeats 8000000 in
set_option maxRecDepth 100000 in
theorem quotedText_any (a : Option Addr) (len cap : Nat) (zs : List Int) (w : World) (hr : Row w a len zs) (hl : len ≤ 1048576) :
    Calls Tryz.prog 45 #[.slice a len cap] w fun e w' => e = .returned (.string (strOfNums (34 :: quoL zs ++ [34]))) ∧ Below w.heap.size w w' := by
  have hs := hr.size
  go_enter Tryz.func45, Tryz.ntmps45
  go_wp2_with fail
  refine (writeByte_any _ _ _ _ _ (builder_new w) (by simp) (by simp)).mono ?_
  rintro e w0 ⟨rfl, hB0, hb0⟩
  have hw0 : Below w.heap.size w w0 := (Below.al (Below.refl _ _) _).trans hb0
  clear hb0
  go_wp2_with fail
  go_loopw [9] (fun i wr => ∃ k : Nat, k ≤ len ∧ i = .int .i64 (k : Int) ∧ Below w.heap.size w wr ∧ Lib.IsBuilder 99 5 w.heap.size w.heap.size ((34 :: quoL (zs.take k)).map (Value.int .u8)) wr)
    (fun i _ => len - (intOf i).toNat)
  case atStart => exact ⟨0, Nat.zero_le _, rfl, hw0, hB0⟩
  case round =>
    obtain ⟨k, hk, rfl, hb, hB⟩ := hrel
    by_cases hlt : k < len
    · obtain ⟨b, off, rfl, hc⟩ := (hr.next hb).at_ (by omega)
      have hck := hc k hlt
      have ho := hr.oct.getD k
      have hx : zs.take (k + 1) = zs.take k ++ [zs.getD k 0] := by
        rw [List.take_succ_eq_append_getElem (by omega)]
        simp [List.getD_eq_getElem?_getD, show k < zs.length by omega]
      have hlt' : (k : Int) < (len : Int) := by omega
      have hn : ((34 :: quoL (zs.take k)).map (Value.int .u8)).length ≤ 5000000 := by
        have := quoL_len (zs.take k)
        rw [List.length_take] at this
        rw [List.length_map, List.length_cons]; omega
      have X : Hid ((34 :: quoL (zs.take (k + 1))).map (Value.int .u8) = (34 :: quoL (zs.take k)).map (Value.int .u8) ++ (quoB (zs.getD k 0)).map (Value.int .u8)) := by
        show _ = _
        rw [hx, quoL_snoc, ← List.cons_append, List.map_append]
      generalize zs.getD k 0 = z at *
      generalize (34 :: quoL (zs.take k)).map (Value.int .u8) = L at *
      clear hc hx hw0 hB0
      by_cases c1 : z = 34
      · subst c1
        have Q : quoB 34 = [92, 34] := by decide
        go_wp2_with fail
        refine (writeByte_any _ _ _ _ _ hB (by omega) hb.size).mono ?_
        rintro e w1 ⟨rfl, hB1, hb1⟩
        go_wp2_with fail
        refine (writeByte_any _ _ _ _ _ hB1 (by rw [List.length_append]; simp only [List.length_singleton]; omega) (Nat.le_trans hb.size hb1.size)).mono ?_
        rintro e w2 ⟨rfl, hB2, hb2⟩
        go_wp2_with fail
        refine ⟨⟨k + 1, by omega, by go_num, (hb.trans hb1).trans hb2, ?_⟩, by simp [intOf]; omega⟩
        rw [X.out, Q]
        simpa [List.append_assoc] using hB2
      have b1 : (z == 34) = false := by simp [c1]
      by_cases c2 : z = 92
      · subst c2
        have Q : quoB 92 = [92, 92] := by decide
        go_wp2_with fail
        refine (writeByte_any _ _ _ _ _ hB (by omega) hb.size).mono ?_
        rintro e w1 ⟨rfl, hB1, hb1⟩
        go_wp2_with fail
        refine (writeByte_any _ _ _ _ _ hB1 (by rw [List.length_append]; simp only [List.length_singleton]; omega) (Nat.le_trans hb.size hb1.size)).mono ?_
        rintro e w2 ⟨rfl, hB2, hb2⟩
        go_wp2_with fail
        refine ⟨⟨k + 1, by omega, by go_num, (hb.trans hb1).trans hb2, ?_⟩, by simp [intOf]; omega⟩
        rw [X.out, Q]
        simpa [List.append_assoc] using hB2
      have b2 : (z == 92) = false := by simp [c2]
      by_cases c3 : 32 ≤ z ∧ z ≤ 126
      · have Q : Hid (quoB z = [z]) := by show quoB z = _; unfold quoB; rw [if_neg (by omega), if_pos c3]
        have P : Hid ((decide (32 ≤ z) && decide (z ≤ 126)) = true) := by show _ = true; simp [c3.1, c3.2]
        clear c1 c2 c3
        go_wp2_with fail
        refine (isPlain_any z _).mono ?_
        rw [P.out]
        rintro e x ⟨rfl, rfl⟩
        go_wp2_with fail
        refine (writeByte_any _ _ _ _ _ hB (by omega) hb.size).mono ?_
        rintro e w1 ⟨rfl, hB1, hb1⟩
        go_wp2_with fail
        refine ⟨⟨k + 1, by omega, by go_num, hb.trans hb1, ?_⟩, by simp [intOf]; omega⟩
        rw [X.out, Q.out]
        exact hB1
      · have Q : Hid (quoB z = [92, 120, hexZ (z / 16), hexZ (z % 16)]) := by show quoB z = _; unfold quoB; rw [if_neg (by omega), if_neg c3]
        have P : Hid ((decide (32 ≤ z) && decide (z ≤ 126)) = false) := by show _ = false; simp; omega
        have h1 := hexZ_bd (z / 16) (by omega) (by omega)
        have h2 := hexZ_bd (z % 16) (by omega) (by omega)
        have ho4 : Oct [92, 120, hexZ (z / 16), hexZ (z % 16)] := fun n hn => by simp at hn; omega
        have S4 : Hid (Lib.strCells (⟨#[92, 120]⟩ ++ strOfNums (hexL [z])) = [92, 120, hexZ (z / 16), hexZ (z % 16)].map (Value.int .u8)) := by
          show _ = _
          rw [← strCells_nums _ ho4]
          congr 1
        obtain ⟨s1, HS⟩ : ∃ s, Hid (strOfNums (hexL [z]) = s) := ⟨_, rfl⟩
        have hz1 : s1.size = 2 := by rw [← HS.out]; rfl
        rw [HS.out] at S4
        have ad := add_run ⟨#[92, 120]⟩ s1 (by have : (⟨#[92, 120]⟩ : ByteArray).size = 2 := rfl; omega)
        have hz2 : (⟨#[92, 120]⟩ ++ s1 : ByteArray).size = 4 := by rw [ByteArray.size_append, hz1]; rfl
        obtain ⟨s2, HS2⟩ : ∃ s, Hid ((⟨#[92, 120]⟩ ++ s1 : ByteArray) = s) := ⟨_, rfl⟩
        rw [HS2.out] at hz2 ad S4
        clear c1 c2 c3 h1 h2 ho4 hz1
        go_wp2_with fail
        refine (isPlain_any z _).mono ?_
        rw [P.out]
        rintro e x ⟨rfl, rfl⟩
        go_wp2_with fail
        refine (hexText_any _ _ _ [z] _ (row_lit _ #[.int .u8 z] 5 [z] 1 rfl (fun n hn => by simp at hn; omega) rfl) (by decide)).mono ?_
        rw [HS.out]
        rintro e w1 ⟨rfl, hb1⟩
        have B1 : Below x.heap.size x w1 := (Below.al (Below.refl _ _) _).trans (hb1.mono (by simp))
        have hB1 := builder_next hB B1
        clear hb1
        go_wp2_with fail
        refine (writeString_any _ _ _ _ _ hB1 (by omega) (Nat.le_trans hb.size B1.size)).mono ?_
        rintro e w2 ⟨rfl, hB2, hb2⟩
        go_wp2_with fail
        refine ⟨⟨k + 1, by omega, by go_num, (Below.andThen hb B1).trans hb2, ?_⟩, by simp [intOf]; omega⟩
        rw [X.out, Q.out, ← S4.out]
        exact hB2
    · obtain rfl : k = len := by omega
      have hlt' : ¬ (k : Int) < (k : Int) := by omega
      rw [List.take_of_length_le (by omega)] at hB
      have hn : ((34 :: quoL zs).map (Value.int .u8)).length ≤ 5000000 := by
        have := quoL_len zs
        rw [List.length_map, List.length_cons]; omega
      have ho : Oct (34 :: quoL zs ++ [34]) := fun n hn => by
        simp at hn
        rcases hn with rfl | hn | rfl
        · omega
        · exact quoL_oct zs hr.oct n hn
        · omega
      have E : Hid ((34 :: quoL zs).map (Value.int .u8) ++ [.int .u8 34] = Lib.byteCells ((34 :: quoL zs ++ [34]).map fun n : Int => UInt8.ofNat n.toNat)) := by
        show _ = _
        rw [← cells_nums _ ho]
        simp
      clear hw0 hB0 ho
      go_wp2_with fail
      refine (writeByte_any _ _ _ _ _ hB (by omega) hb.size).mono ?_
      rw [E.out]
      rintro e w1 ⟨rfl, hB1, hb1⟩
      go_wp2_with fail
      refine (Tryz.Builder_String_any _ _ _ _ hB1 (Nat.le_trans hb.size hb1.size)).mono ?_
      rintro e w2 ⟨rfl, hb2⟩
      go_wp2_with fail
      go_ret
      exact ⟨ret_str (by simp [strOfNums]), (hb.trans hb1).trans hb2⟩
#print axioms quotedText_any
end Go.Proofs.YtkfmmpolcjbnbaaGreatDoor
namespace Go.Proofs.YtkfmmpolcjbnbaaGreatDoor
open Pl Go.RowKit

/-- The byte at a place, as a number. -/
abbrev ch (l : List UInt8) (i : Nat) : Nat := (l.getD i 0).toNat
/-- The byte that the inside of quotes begins with, and how many bytes of the text it takes. -/
def quoR (l : List UInt8) : Option (Nat × Nat) :=
  if ch l 0 ≠ 92 then (if (32 ≤ ch l 0 ∧ ch l 0 ≤ 126) ∧ ch l 0 ≠ 34 then some (ch l 0, 1) else none)
  else if 2 ≤ l.length ∧ (ch l 1 = 34 ∨ ch l 1 = 92) then some (ch l 1, 2)
  else if 4 ≤ l.length ∧ ch l 1 = 120 then (hexF false 0 ((l.drop 2).take 2)).bind fun n => if 32 ≤ n ∧ n ≤ 126 then none else some (n, 4)
  else none
/-- How readQuoted ends. -/
def endQ : Option (Nat × Nat) → Ending
  | some (c, u) => .returned (.tuple #[.int .u8 (c : Int), .int .i64 (u : Int)])
  | none => .panicked bad

theorem hexF2_lt (g : Bool) (l : List UInt8) (n : Nat) (hl : l.length ≤ 2) (h : hexF g 0 l = some n) : n < 256 := by
  match l, hl with
  | [], _ => simp [hexF] at h; omega
  | [a], _ =>
    simp only [hexF] at h
    cases ha : hexC g a.toNat with
    | none => rw [ha] at h; simp at h
    | some d => rw [ha] at h; simp at h; have := hexC_lt g _ _ ha; omega
  | [a, b], _ =>
    simp only [hexF] at h
    cases ha : hexC g a.toNat with
    | none => rw [ha] at h; simp at h
    | some d =>
      rw [ha] at h
      cases hb : hexC g b.toNat with
      | none => rw [hb] at h; simp at h
      | some e => rw [hb] at h; simp at h; have := hexC_lt g _ _ ha; have := hexC_lt g _ _ hb; omega

theorem slice_str (l : List UInt8) (a b : Nat) (hab : a ≤ b) (hb : b ≤ l.length) (w : World) : (Instr.slice 9 (.string (str l)) (some (.int .i64 (a : Int))) (some (.int .i64 (b : Int))) none).run Tryz.prog w = .ok (.string (str ((l.drop a).take (b - a)))) w := by
  have hs : (str l).size = l.length := by unfold str; simp [ByteArray.size]
  rw [run_slice_string w 9 _ .i64 .i64 _ _ Tryz.underlying9 (by omega) (by omega) (by rw [hs]; omega)]
  congr 2
  apply ByteArray.ext
  simp [str, ByteArray.data_extract]

theorem ch_at (l : List UInt8) (k : Nat) (h : k < l.length) : l[k].toNat = ch l k := by simp [ch, List.getD_eq_getElem?_getD, h]

set_option maxHeartbeats 4000000 in
set_option maxRecDepth 100000 in
theorem quotedRd_any (l : List UInt8) (w : World) (hne : l ≠ []) (hl : l.length ≤ 1000000) :
    Calls Tryz.prog 62 #[.string (str l)] w fun e w' => e = endQ (quoR l) ∧ w' = w := by
  have h0 : 0 < l.length := List.length_pos_iff.2 hne
  have SL : Hid (∀ (h : 4 ≤ l.length) (w : World), (Instr.slice 9 (.string (str l)) (some (.int .i64 2)) (some (.int .i64 4)) none).run Tryz.prog w = .ok (.string (str ((l.drop 2).take 2))) w) := fun h w => slice_str l 2 4 (by decide) h w
  have HH : Hid (∀ w : World, Calls Tryz.prog 56 #[.string (str ((l.drop 2).take 2)), .bool false] w fun e w' => e = endU (hexF false 0 ((l.drop 2).take 2)) ∧ w' = w) := fun w => hexRd_any false _ w (by simp; omega)
  obtain ⟨s, HS, htl, hsz, hix⟩ := str_facts l
  have x0 : ∀ w : World, (Instr.index 9 (.string s) (.int .i64 0)).run Tryz.prog w = .ok (.int .u8 ((ch l 0 : Nat) : Int)) w := fun w => by rw [← ch_at l 0 h0]; exact hix 0 h0 w
  have X1 : Hid (∀ (h : 1 < l.length) (w : World), (Instr.index 9 (.string s) (.int .i64 1)).run Tryz.prog w = .ok (.int .u8 ((ch l 1 : Nat) : Int)) w) := fun h w => by rw [← ch_at l 1 h]; exact hix 1 h w
  rw [HS.out] at SL ⊢
  obtain ⟨q, HQ⟩ : ∃ q, Hid (str ((l.drop 2).take 2) = q) := ⟨_, rfl⟩
  rw [HQ.out] at HH SL
  have hb0 : ch l 0 < 256 := UInt8.toNat_lt _
  have hb1 : ch l 1 < 256 := UInt8.toNat_lt _
  obtain ⟨R, QR⟩ : ∃ R, Hid (R = quoR l) := ⟨_, rfl⟩
  rw [← QR.out]
  unfold quoR at QR
  have NB : Hid (∀ n, hexF false 0 ((l.drop 2).take 2) = some n → n < 256) := fun n hn => hexF2_lt false _ n (by simp; omega) hn
  generalize hexF false 0 ((l.drop 2).take 2) = hx at *
  generalize ch l 0 = c0 at *
  generalize ch l 1 = c1 at *
  clear hix htl HQ HS hne
  by_cases a0 : c0 ≠ 92
  · have b0 : ((c0 : Int) != 92) = true := by simp; omega
    by_cases a1 : 32 ≤ c0 ∧ c0 ≤ 126
    · have g1 : (32 : Int) ≤ (c0 : Int) := by omega
      have g2 : (c0 : Int) ≤ 126 := by omega
      by_cases a2 : c0 ≠ 34
      · have b2 : ((c0 : Int) != 34) = true := by simp; omega
        rw [show R = some (c0, 1) from by rw [QR.out, if_pos a0, if_pos ⟨a1, a2⟩]]
        clear QR SL HH X1 NB a0 a1 a2
        go_enter Tryz.func62, Tryz.ntmps62
        go_wp2_with fail
        refine (isPlain_any _ _).mono ?_
        rintro e w ⟨rfl, rfl⟩
        rw [decide_eq_true g1, decide_eq_true g2]
        go_wp2_with fail
        refine (must_true _).mono ?_
        rintro e w ⟨rfl, rfl⟩
        go_wp2_with fail
        go_ret2
        exact ⟨rfl, rfl⟩
      · obtain rfl : c0 = 34 := by omega
        rw [show R = none from by rw [QR.out, if_pos a0, if_neg (by intro h; exact a2 h.2)]]
        clear QR SL HH X1 NB a0 a1 a2
        go_enter Tryz.func62, Tryz.ntmps62
        go_wp2_with fail
        refine (isPlain_any _ _).mono ?_
        rintro e w ⟨rfl, rfl⟩
        go_wp2_with fail
        refine (must_false _).mono ?_
        rintro e w ⟨rfl, rfl⟩
        go_wp2_with fail
        exact ⟨rfl, rfl, rfl⟩
    · have g1 : (decide ((32 : Int) ≤ (c0 : Int)) && decide ((c0 : Int) ≤ 126)) = false := by simp; omega
      rw [show R = none from by rw [QR.out, if_pos a0, if_neg (by intro h; exact a1 h.1)]]
      clear QR SL HH X1 NB a0 a1
      go_enter Tryz.func62, Tryz.ntmps62
      go_wp2_with fail
      refine (isPlain_any _ _).mono ?_
      rintro e w ⟨rfl, rfl⟩
      rw [g1]
      clear g1
      go_wp2_with fail
      refine (must_false _).mono ?_
      rintro e w ⟨rfl, rfl⟩
      go_wp2_with fail
      exact ⟨rfl, rfl, rfl⟩
  · obtain rfl : c0 = 92 := by omega
    rw [if_neg a0] at QR
    clear a0 hb0
    by_cases a1 : 2 ≤ l.length
    rotate_left
    · have g1 : ¬ (2 : Int) ≤ (l.length : Int) := by omega
      have g2 : ¬ (4 : Int) ≤ (l.length : Int) := by omega
      rw [show R = none from by rw [QR.out, if_neg (by intro h; exact a1 h.1), if_neg (by omega)]]
      clear QR SL HH X1 NB a1
      go_enter Tryz.func62, Tryz.ntmps62
      go_wp2_with fail
      refine (must_false _).mono ?_
      rintro e w ⟨rfl, rfl⟩
      go_wp2_with fail
      exact ⟨rfl, rfl, rfl⟩
    have g1 : (2 : Int) ≤ (l.length : Int) := by omega
    have x1 := X1.out (by omega)
    by_cases a2 : c1 = 34 ∨ c1 = 92
    · rw [show R = some (c1, 2) from by rw [QR.out, if_pos ⟨a1, a2⟩]]
      clear QR SL HH X1 NB a1
      rcases a2 with rfl | rfl
      all_goals
        go_enter Tryz.func62, Tryz.ntmps62
        go_wp2_with fail
        go_ret2
        exact ⟨rfl, rfl⟩
    have b1 : ((c1 : Int) == 34) = false := by simp; omega
    have b2 : ((c1 : Int) == 92) = false := by simp; omega
    rw [if_neg (by intro h; exact a2 h.2)] at QR
    clear a2 X1
    by_cases a3 : 4 ≤ l.length
    rotate_left
    · have g2 : ¬ (4 : Int) ≤ (l.length : Int) := by omega
      rw [show R = none from by rw [QR.out, if_neg (by intro h; exact a3 h.1)]]
      clear QR SL HH NB a1 a3
      go_enter Tryz.func62, Tryz.ntmps62
      go_wp2_with fail
      refine (must_false _).mono ?_
      rintro e w ⟨rfl, rfl⟩
      go_wp2_with fail
      exact ⟨rfl, rfl, rfl⟩
    have g2 : (4 : Int) ≤ (l.length : Int) := by omega
    have sl := SL.out a3
    by_cases a4 : c1 = 120
    rotate_left
    · have b3 : ((c1 : Int) == 120) = false := by simp; omega
      rw [show R = none from by rw [QR.out, if_neg (by intro h; exact a4 h.2)]]
      clear QR SL HH NB a1 a3 a4
      go_enter Tryz.func62, Tryz.ntmps62
      go_wp2_with fail
      refine (must_false _).mono ?_
      rintro e w ⟨rfl, rfl⟩
      go_wp2_with fail
      exact ⟨rfl, rfl, rfl⟩
    rw [if_pos ⟨a3, a4⟩] at QR
    subst a4
    clear SL a1 a3 b1 b2
    cases hx with
    | none =>
      have HD : Hid (∀ w : World, Calls Tryz.prog 56 #[.string q, .bool false] w fun e w' => e = .panicked bad ∧ w' = w) := HH
      rw [show R = none from by rw [QR.out]; rfl]
      clear QR HH NB
      go_enter Tryz.func62, Tryz.ntmps62
      go_wp2_with fail
      refine (must_true _).mono ?_
      rintro e w ⟨rfl, rfl⟩
      go_wp2_with fail
      refine (HD.out _).mono ?_
      rintro e w ⟨rfl, rfl⟩
      go_wp2_with fail
      exact ⟨rfl, rfl, rfl⟩
    | some n =>
      have HD : Hid (∀ w : World, Calls Tryz.prog 56 #[.string q, .bool false] w fun e w' => e = .returned (.int .u64 (n : Int)) ∧ w' = w) := HH
      have hn : n < 256 := NB.out n rfl
      have wn : IntKind.u8.wrap (n : Int) = (n : Int) := by rw [IntKind.wrap_u8]; omega
      have wm : (n : Int) % 256 = (n : Int) := by omega
      by_cases a5 : 32 ≤ n ∧ n ≤ 126
      · have g5 : (decide ((32 : Int) ≤ (n : Int)) && decide ((n : Int) ≤ 126)) = true := by simp; omega
        rw [show R = none from by rw [QR.out]; show (if 32 ≤ n ∧ n ≤ 126 then none else some (n, 4)) = none; rw [if_pos a5]]
        clear QR HH NB a5
        go_enter Tryz.func62, Tryz.ntmps62
        go_wp2_with fail
        refine (must_true _).mono ?_
        rintro e w ⟨rfl, rfl⟩
        go_wp2_with fail
        refine (HD.out _).mono ?_
        rintro e w ⟨rfl, rfl⟩
        go_wp2_with fail
        refine (isPlain_any _ _).mono ?_
        rintro e w ⟨rfl, rfl⟩
        rw [g5]
        clear g5
        go_wp2_with fail
        refine (must_false _).mono ?_
        rintro e w ⟨rfl, rfl⟩
        go_wp2_with fail
        exact ⟨rfl, rfl, rfl⟩
      · have g5 : (decide ((32 : Int) ≤ (n : Int)) && decide ((n : Int) ≤ 126)) = false := by simp; omega
        rw [show R = some (n, 4) from by rw [QR.out]; show (if 32 ≤ n ∧ n ≤ 126 then none else some (n, 4)) = some (n, 4); rw [if_neg a5]]
        clear QR HH NB a5
        go_enter Tryz.func62, Tryz.ntmps62
        go_wp2_with fail
        refine (must_true _).mono ?_
        rintro e w ⟨rfl, rfl⟩
        go_wp2_with fail
        refine (HD.out _).mono ?_
        rintro e w ⟨rfl, rfl⟩
        go_wp2_with fail
        refine (isPlain_any _ _).mono ?_
        rintro e w ⟨rfl, rfl⟩
        rw [g5]
        clear g5
        go_wp2_with fail
        refine (must_true _).mono ?_
        rintro e w ⟨rfl, rfl⟩
        go_wp2_with fail
        go_ret2
        exact ⟨rfl, rfl⟩
#print axioms quotedRd_any
end Go.Proofs.YtkfmmpolcjbnbaaGreatDoor
