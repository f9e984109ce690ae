/-
  The walks of readTail and Read.
-/
import Derived.Test.YtbjbnfhmehkkpaaRb
import Derived.BigQuiet
import Derived.Deep.QuietTactic
namespace Go.Proofs.Ytbjbnfhmehkkpaa
open Go.RowKit

/-- What readTail tells. -/
def tailR (id : Int) (t : List Int) : FrR :=
  match t with
  | 82 :: l => if nuB l 1 then askR id (nuV l 1) else noFr 30
  | _ => match rdB t with
    | some bs => mkR id bs
    | none => noFr 30

theorem cutPrefix_any (c : Int) (zs : List Int) (w : World) (ho : Oct zs) (hc : 0 ≤ c ∧ c < 256) :
    Calls Try.prog 32 #[.string (strOfNums zs), .string (strOfNums [c])] w fun e w' => e = .returned (if zs.head? = some c then .tuple #[.string (strOfNums (zs.drop 1)), .bool true] else .tuple #[.string (strOfNums zs), .bool false]) ∧ w' = w := by
  refine (Try.strings_CutPrefix (strOfNums zs) (strOfNums [c]) w).mono ?_
  rintro e w' ⟨rfl, rfl⟩
  refine ⟨?_, rfl⟩
  have inj : ∀ x : Int, 0 ≤ x → x < 256 → (UInt8.ofNat x.toNat = UInt8.ofNat c.toNat ↔ x = c) := fun x h0 h1 => by
    constructor
    · intro h
      have := congrArg UInt8.toNat h
      simp at this
      omega
    · rintro rfl; rfl
  cases zs with
  | nil => simp [strOfNums, Lib.trimPrefix, Lib.hasPrefix]
  | cons z zs =>
    have hz := ho z (by simp)
    by_cases h : z = c
    · subst h
      simp [strOfNums, Lib.trimPrefix, Lib.hasPrefix]
    · have h' : ¬ UInt8.ofNat z.toNat = UInt8.ofNat c.toNat := fun e => h ((inj z hz.1 hz.2).1 e)
      have h'' : ¬ UInt8.ofNat c.toNat = UInt8.ofNat z.toNat := fun e => h' e.symm
      simp [strOfNums, Lib.trimPrefix, Lib.hasPrefix, List.isPrefixOf, h, h'']
#print axioms cutPrefix_any

/-- A text at the first such byte. -/
def cutAt (c : Int) : List Int → Option (List Int × List Int)
  | [] => none
  | z :: zs => if z = c then some ([], zs) else (cutAt c zs).map fun p => (z :: p.1, p.2)

theorem cutAt_is (c : Int) (hc : 0 ≤ c ∧ c < 256) : ∀ (zs : List Int), Oct zs → Lib.indexByte (zs.map fun n => UInt8.ofNat n.toNat) (UInt8.ofNat c.toNat) = match cutAt c zs with | some p => (p.1.length : Int) | none => -1
  | [], _ => rfl
  | z :: zs, ho => by
    have hz := ho z (by simp)
    have ih := cutAt_is c hc zs (fun n hn => ho n (by simp [hn]))
    simp only [List.map_cons, Lib.indexByte, cutAt]
    by_cases h : z = c
    · subst h; simp
    · have h' : ¬ UInt8.ofNat z.toNat = UInt8.ofNat c.toNat := fun e => by
        have := congrArg UInt8.toNat e
        simp at this
        omega
      rw [if_neg h, ih]
      simp only [h', beq_iff_eq, if_false]
      cases cutAt c zs with
      | none => simp
      | some p => simp
theorem cutAt_eq (c : Int) : ∀ (zs : List Int) (p : List Int × List Int), cutAt c zs = some p → zs = p.1 ++ c :: p.2
  | [], _, h => by simp [cutAt] at h
  | z :: zs, p, h => by
    simp only [cutAt] at h
    by_cases e : z = c
    · rw [if_pos e] at h; cases h; subst e; rfl
    · rw [if_neg e] at h
      cases hq : cutAt c zs with
      | none => rw [hq] at h; simp at h
      | some q =>
        rw [hq] at h
        simp at h
        subst h
        have := cutAt_eq c zs q hq
        simp [← this]

set_option maxHeartbeats 2000000 in
set_option maxRecDepth 100000 in
theorem cut_any (c : Int) (zs : List Int) (w : World) (ho : Oct zs) (hc : 0 ≤ c ∧ c < 256) (hl : zs.length ≤ 1000000) :
    Calls Try.prog 26 #[.string (strOfNums zs), .string (strOfNums [c])] w fun e w' => e = .returned (match cutAt c zs with | some p => .tuple #[.string (strOfNums p.1), .string (strOfNums p.2), .bool true] | none => .tuple #[.string (strOfNums zs), .string ⟨#[]⟩, .bool false]) ∧ Below w.heap.size w w' := by
  have hidx := fun w => Try.stringslite_Index_one (strOfNums zs) (UInt8.ofNat c.toNat) w
  rw [show (strOfNums zs).data.toList = zs.map fun n => UInt8.ofNat n.toNat from rfl, cutAt_is c hc zs ho] at hidx
  rw [show (⟨#[UInt8.ofNat c.toNat]⟩ : ByteArray) = strOfNums [c] from rfl] at hidx
  have hs1 : (strOfNums [c]).size = 1 := by rw [strOfNums_size]; rfl
  have hsz : (strOfNums zs).size = zs.length := strOfNums_size zs
  have inner : Calls Try.prog 30 #[.string (strOfNums zs), .string (strOfNums [c])] w fun e w' => e = .returned (match cutAt c zs with | some p => .tuple #[.string (strOfNums p.1), .string (strOfNums p.2), .bool true] | none => .tuple #[.string (strOfNums zs), .string ⟨#[]⟩, .bool false]) ∧ Below w.heap.size w w' := by
    cases hq : cutAt c zs with
    | none =>
      rw [hq] at hidx
      generalize strOfNums zs = s at *
      generalize strOfNums [c] = t at *
      go_enter Try.func30, Try.ntmps30
      go_wp2_with fail
      refine (hidx _).mono ?_
      rintro e w ⟨rfl, rfl⟩
      go_wp2_with fail
      go_ret3
      exact ⟨rfl, Below.refl _ _⟩
    | some p =>
      rw [hq] at hidx
      have he := cutAt_eq c zs p hq
      have hlen : zs.length = p.1.length + 1 + p.2.length := by rw [he]; simp; omega
      have x1 : Hid ((strOfNums zs).extract 0 p.1.length = strOfNums p.1) := by show _ = _; rw [str_extract, he]; simp
      have x2 : Hid ((strOfNums zs).extract (p.1.length + 1) (strOfNums zs).size = strOfNums p.2) := by
        show _ = _
        rw [str_extract, hsz, List.take_of_length_le (Nat.le_refl _)]
        have : zs.drop (p.1.length + 1) = p.2 := by
          rw [he, ← List.drop_drop, List.drop_left]
          rfl
        rw [this]
      have hp1 : ((p.1.length : Nat) : Int) ≤ ((strOfNums zs).size : Int) := by omega
      have hp2 : ((p.1.length : Nat) : Int) + 1 ≤ ((strOfNums zs).size : Int) := by omega
      have hp3 : ((p.1.length : Nat) : Int) ≤ 1000000 := by omega
      have sl1 : ∀ w, (Instr.slice 9 (.string (strOfNums zs)) none (some (.int .i64 ((p.1.length : Nat) : Int))) none).run Try.prog w = .ok (.string (strOfNums p.1)) w := fun w => by
        rw [run_slice_string_h (P := Try.prog) w 9 (strOfNums zs) Try.underlying9 .i64 _ (by omega) hp1]
        rw [show ((p.1.length : Nat) : Int).toNat = p.1.length from by omega, x1.out]
      have sl2 : ∀ w, (Instr.slice 9 (.string (strOfNums zs)) (some (.int .i64 (((p.1.length : Nat) : Int) + 1))) none none).run Try.prog w = .ok (.string (strOfNums p.2)) w := fun w => by
        rw [run_slice_string_l (P := Try.prog) w 9 (strOfNums zs) Try.underlying9 .i64 _ (by omega) hp2]
        rw [show (((p.1.length : Nat) : Int) + 1).toNat = p.1.length + 1 from by omega, x2.out]
      clear x1 x2 he hlen hq hp1 hp2 hsz
      obtain ⟨p1, p2⟩ := p
      dsimp only at hp3 hidx sl1 sl2 ⊢
      generalize strOfNums zs = s at *
      generalize strOfNums [c] = t at *
      generalize strOfNums p1 = s1 at *
      generalize strOfNums p2 = s2 at *
      generalize p1.length = k at *
      go_enter Try.func30, Try.ntmps30
      go_wp2_with fail
      refine (hidx _).mono ?_
      rintro e w ⟨rfl, rfl⟩
      go_wp2_with fail
      go_quiet (fail)
      go_wp2_with fail
      go_ret3
      exact ⟨rfl, below_drewN (Below.refl _ _) _⟩
  clear hidx hs1 hsz
  generalize cutAt c zs = o at inner ⊢
  cases o with
  | none =>
    dsimp only at inner ⊢
    go_enter Try.func26, Try.ntmps26
    go_wp2_with fail
    refine inner.mono ?_
    rintro e w1 ⟨rfl, hb⟩
    go_wp2_with fail
    go_ret3
    exact ⟨rfl, hb⟩
  | some p =>
    dsimp only at inner ⊢
    go_enter Try.func26, Try.ntmps26
    go_wp2_with fail
    refine inner.mono ?_
    rintro e w1 ⟨rfl, hb⟩
    go_wp2_with fail
    go_ret3
    exact ⟨rfl, hb⟩
#print axioms cut_any
end Go.Proofs.Ytbjbnfhmehkkpaa
