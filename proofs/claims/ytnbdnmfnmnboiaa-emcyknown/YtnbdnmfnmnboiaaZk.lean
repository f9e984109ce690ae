/-
  The document's side: at, Stands, Register, New, Due, Reset.
-/
import Derived.Test.YtnbdnmfnmnboiaaZh
namespace Go.Proofs.Ytnbdnmfnmnboiaa
open Go.RowKit

/-- An error's place. -/
def atS : List (Int × Nat) → Int → Option Nat
  | [], _ => none
  | x :: l, c => if (c == x.1) = true then some 0 else (atS l c).map (· + 1)
def atZ (l : List (Int × Nat)) (c : Int) : Int := match atS l c with
  | some i => (i : Int)
  | none => -1
theorem atS_lt {l : List (Int × Nat)} {c : Int} {i : Nat} (h : atS l c = some i) : i < l.length ∧ cutS l c = l.eraseIdx i := by
  induction l generalizing i with
  | nil => cases h
  | cons x l ih =>
    simp only [atS] at h
    split at h
    · rename_i hq
      cases h
      exact ⟨by simp, by simp [cutS, hq]⟩
    · rename_i hq
      cases ha : atS l c with
      | none => rw [ha] at h; cases h
      | some j =>
        rw [ha] at h
        cases h
        obtain ⟨h1, h2⟩ := ih ha
        exact ⟨by simp; omega, by simp [cutS, hq, h2]⟩
theorem atS_has (l : List (Int × Nat)) (c : Int) : (lookM (msk l) c).isSome = (atS l c).isSome := by
  induction l with
  | nil => rfl
  | cons x l ih =>
    simp only [msk, List.map_cons, lookM, atS]
    split
    · rfl
    · rw [show lookM (List.map (fun x => (x.1, ((2 ^ x.2 : Nat) : Int))) l) c = lookM (msk l) c from rfl, ih]
      simp
theorem atS_drop {l : List (Int × Nat)} {c : Int} {i : Nat} {x : Int × Nat} (hx : l[i]? = some x) : atS (l.drop i) c = if (c == x.1) = true then some 0 else (atS (l.drop (i + 1)) c).map (· + 1) := by
  obtain ⟨hi, he⟩ := List.getElem?_eq_some_iff.1 hx
  rw [List.drop_eq_getElem_cons hi, he]
  rfl
set_option linter.unusedSimpArgs false in
set_option maxHeartbeats 4000000 in
set_option maxRecDepth 100000 in
theorem at_any {w : World} {q : Nat} {sv fv wv : Value} {S : ES} {t : Int} (h : IsD w q sv fv wv S t) (c : Int) : Calls Try.prog 40 #[.pointer (some ⟨q, 0, none⟩), .int .u16 c] w fun e w' => e = .returned (.int .i64 (atZ S.st c)) ∧ w' = w := by
  have k2 := h.cell 2 sv rfl
  obtain ⟨R, hR⟩ : ∃ R, Hid (R = atZ S.st c) := ⟨_, rfl⟩
  rw [← hR.out]
  obtain ⟨n, hn⟩ : ∃ n, Hid (n = S.st.length) := ⟨_, rfl⟩
  obtain ⟨a, cap, rfl⟩ := h.st.form
  rw [← hn.out] at k2
  have HS : Hid (Own w 77 2 (.slice a S.st.length cap) S.st.length (fls S.st)) := h.st
  have H16 : Hid (n ≤ 16) := by show _ ≤ _; rw [hn.out]; exact h.ok.s16
  have I0 : Hid (atS S.st c = (atS (S.st.drop 0) c).map (· + 0)) := by show _ = _; simp
  clear h
  go_enter Try.func40, Try.ntmps40
  go_wp2_with fail
  go_loopw [5] (fun u wr => ∃ i : Nat, i ≤ n ∧ u = .int .i64 (i : Int) ∧ wr = w ∧ Hid (atS S.st c = (atS (S.st.drop i) c).map (· + i))) (fun u _ => n - (intOf u).toNat)
  case atStart => exact ⟨0, Nat.zero_le _, rfl, rfl, I0⟩
  case round =>
    obtain ⟨i, hi, rfl, rfl, HI⟩ := hrel
    by_cases hlt : i < n
    · have g1 : (i : Int) < (n : Int) := by omega
      have hls : i < S.st.length := by rw [← hn.out]; exact hlt
      obtain ⟨x, hx⟩ : ∃ x, S.st[i]? = some x := ⟨S.st[i]'hls, List.getElem?_eq_getElem _⟩
      obtain ⟨g, o, cap', e, hO⟩ := HS.out.pos (by omega)
      cases e
      have cx := hO.cell _ _ (fls_at _ _ _ hx).1
      have wi : IntKind.i64.wrap ((i : Int) + 1) = ((i + 1 : Nat) : Int) := by rw [IntKind.wrap_i64]; have := H16.out; omega
      have AD := atS_drop (c := c) hx
      clear hO
      by_cases hc : x.1 = c
      · have RI : Hid (R = (i : Int)) := by
          show _ = _
          rw [hR.out]
          unfold atZ
          rw [HI.out, AD, if_pos (by simp [hc])]
          simp
        rw [hc] at cx
        clear AD hx
        go_wp2_with fail
        go_ret
        exact ⟨ret_int RI.out.symm, rfl⟩
      · have NI : Hid (atS S.st c = (atS (S.st.drop (i + 1)) c).map (· + (i + 1))) := by
          show _ = _
          rw [HI.out, AD, if_neg (by simp; exact fun e => hc e.symm), Option.map_map]
          congr 1
          funext z
          simp only [Function.comp]
          omega
        obtain ⟨x1, hx1⟩ : ∃ x1, x1 = x.1 := ⟨_, rfl⟩
        rw [← hx1] at cx hc
        clear AD hx1
        go_wp2_with fail
        exact ⟨⟨i + 1, by omega, by go_num, trivial, NI⟩, by simp [intOf]; omega⟩
    · have g1 : ¬ (i : Int) < (n : Int) := by omega
      have RI : Hid (R = -1) := by
        show _ = _
        rw [hR.out]
        unfold atZ
        rw [HI.out, List.drop_of_length_le (by rw [← hn.out]; omega)]
        rfl
      clear HI
      go_wp2_with fail
      go_ret
      exact ⟨ret_int RI.out.symm, rfl⟩
set_option linter.unusedSimpArgs false in
set_option maxHeartbeats 4000000 in
set_option maxRecDepth 100000 in
theorem rstands_any {w : World} {q : Nat} {sv fv wv : Value} {S : ES} {t : Int} (h : IsD w q sv fv wv S t) (c : Int) : Calls Try.prog 33 #[.pointer (some ⟨q, 0, none⟩), .int .u16 c] w fun e w' => e = .returned (.bool (S.has c)) ∧ w' = w := by
  have AT := at_any h c
  obtain ⟨b, hb⟩ : ∃ b, Hid (b = S.has c) := ⟨_, rfl⟩
  rw [← hb.out]
  have HB : Hid (decide (0 ≤ atZ S.st c) = b) := by
    show _ = _
    rw [hb.out]
    unfold ES.has atZ
    rw [atS_has]
    cases atS S.st c with
    | none => rfl
    | some i => simp
  obtain ⟨z, hz⟩ : ∃ z, z = atZ S.st c := ⟨_, rfl⟩
  rw [← hz] at AT HB
  clear h hz
  go_enter Try.func33, Try.ntmps33
  go_wp2_with fail
  refine AT.mono ?_
  rintro e w1 ⟨rfl, rfl⟩
  go_wp2_with fail
  go_ret
  exact ⟨ret_bool HB.out, rfl⟩
set_option linter.unusedSimpArgs false in
set_option maxHeartbeats 4000000 in
set_option maxRecDepth 100000 in
theorem rregister_any {w : World} {q : Nat} {sv fv wv : Value} {S : ES} {t : Int} (h : IsD w q sv fv wv S t) : Calls Try.prog 32 #[.pointer (some ⟨q, 0, none⟩)] w fun e w' => e = .returned (.int .u8 (S.reg : Int)) ∧ w' = w := by
  have k2 := h.cell 2 sv rfl
  obtain ⟨R, hR⟩ : ∃ R, Hid (R = S.reg) := ⟨_, rfl⟩
  rw [← hR.out]
  obtain ⟨n, hn⟩ : ∃ n, Hid (n = S.st.length) := ⟨_, rfl⟩
  obtain ⟨a, cap, rfl⟩ := h.st.form
  rw [← hn.out] at k2
  have HS : Hid (Own w 77 2 (.slice a S.st.length cap) S.st.length (fls S.st)) := h.st
  have H16 : Hid (n ≤ 16) := by show _ ≤ _; rw [hn.out]; exact h.ok.s16
  have HB : Hid (∀ x ∈ S.st, x.2 < 8) := h.ok.bit
  have I0 : Hid (0 < 256 ∧ 0 = regN ((S.st.take 0).map fun x => 2 ^ x.2)) := ⟨by decide, rfl⟩
  clear h
  go_enter Try.func32, Try.ntmps32
  go_wp2_with fail
  go_loopw [3, 4] (fun r u wr => ∃ (i s : Nat), i ≤ n ∧ r = .int .u8 (s : Int) ∧ u = .int .i64 (i : Int) ∧ wr = w ∧ Hid (s < 256 ∧ s = regN ((S.st.take i).map fun x => 2 ^ x.2))) (fun _ u _ => n - (intOf u).toNat)
  case atStart => exact ⟨0, 0, Nat.zero_le _, rfl, rfl, rfl, I0⟩
  case round =>
    obtain ⟨i, s, hi, rfl, rfl, rfl, HI⟩ := hrel
    by_cases hlt : i < n
    · have g1 : (i : Int) < (n : Int) := by omega
      have hls : i < S.st.length := by rw [← hn.out]; exact hlt
      obtain ⟨x, hx⟩ : ∃ x, S.st[i]? = some x := ⟨S.st[i]'hls, List.getElem?_eq_getElem _⟩
      obtain ⟨g, o, cap', e, hO⟩ := HS.out.pos (by omega)
      cases e
      have cx := hO.cell _ _ (fls_at _ _ _ hx).2
      rw [← Nat.add_assoc] at cx
      have wi : IntKind.i64.wrap ((i : Int) + 1) = ((i + 1 : Nat) : Int) := by rw [IntKind.wrap_i64]; have := H16.out; omega
      have b8 : x.2 < 8 := HB.out x (List.mem_of_getElem? hx)
      have o1 : bits .or .u8 (s : Int) 1 = ((s ||| 1 : Nat) : Int) := u8or s 1 HI.out.1 (by decide)
      have o2 : bits .or .u8 ((s ||| 1 : Nat) : Int) ((2 : Int) ^ x.2 % 256) = ((s ||| 1 ||| 2 ^ x.2 : Nat) : Int) := by
        rw [← pow256 x.2 b8]
        exact u8or _ _ (or_lt HI.out.1 (by decide)) (pow_lt b8)
      have NI : Hid (s ||| 1 ||| 2 ^ x.2 < 256 ∧ s ||| 1 ||| 2 ^ x.2 = regN ((S.st.take (i + 1)).map fun x => 2 ^ x.2)) := by
        refine ⟨or_lt (or_lt HI.out.1 (by decide)) (pow_lt b8), ?_⟩
        obtain ⟨hi2, he⟩ := List.getElem?_eq_some_iff.1 hx
        rw [List.take_succ_eq_append_getElem hi2, he, List.map_append, List.map_singleton, regN_app, ← HI.out.2, Nat.or_assoc]
      obtain ⟨s1, hs1⟩ : ∃ s1, s1 = s ||| 1 := ⟨_, rfl⟩
      obtain ⟨s2, hs2⟩ : ∃ s2, s2 = s ||| 1 ||| 2 ^ x.2 := ⟨_, rfl⟩
      rw [← hs2] at NI o2
      rw [← hs1] at o1 o2
      obtain ⟨b, hb⟩ : ∃ b, b = x.2 := ⟨_, rfl⟩
      rw [← hb] at cx o2 b8
      clear hO hx hs1 hs2 hb HI
      go_wp2_with fail
      exact ⟨⟨i + 1, s2, by omega, rfl, by go_num, trivial, NI⟩, by simp [intOf]; omega⟩
    · have g1 : ¬ (i : Int) < (n : Int) := by omega
      have RI : Hid (R = s) := by
        show _ = _
        rw [hR.out, HI.out.2, List.take_of_length_le (by rw [← hn.out]; omega)]
        rfl
      clear HI
      go_wp2_with fail
      go_ret
      exact ⟨ret_int (by rw [RI.out]), rfl⟩
#print axioms rstands_any
#print axioms rregister_any
end Go.Proofs.Ytnbdnmfnmnboiaa
