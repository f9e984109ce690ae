/-
  Records of a journal, plainly: how they stand as bytes, how they are read again, what they make of the groups.
-/
import Derived.Test.YtgpbmccjcjoijaaBas
namespace Go.Proofs.Ytgpbmccjcjoijaa
open Go.RowKit

/-- A record. -/
structure Rec where
  kind : Int
  grp : Int
  bs : List Int
/-- Room of a record with so many bytes. -/
def rm (n : Nat) : Nat := (n + 15) / 4 * 4
theorem rm_ge (n : Nat) : n + 12 ≤ rm n := by unfold rm; omega
theorem rm_lt (n : Nat) : rm n < n + 16 := by unfold rm; omega
theorem rm_four (n : Nat) : rm n % 4 = 0 := by unfold rm; omega
theorem rm_le {m n : Nat} (h : m ≤ n) : rm m ≤ rm n := by unfold rm; omega
/-- One bit of a check. -/
def rnd (s : Int) : Int := if s / 32768 = 1 then bits .xor .u16 (s * 2 % 65536) 4129 else s * 2 % 65536
def rnds : Nat → Int → Int
  | 0, s => s
  | k + 1, s => rnd (rnds k s)
/-- A byte taken in. -/
def tkIn (s x : Int) : Int := rnds 8 (bits .xor .u16 s (x * 256))
def crcA (s : Int) (l : List Int) : Int := l.foldl tkIn s
/-- The head's first word. -/
def hd4 (r : Rec) : List Int := [r.kind, r.grp, (r.bs.length : Int) % 256, (r.bs.length : Int) / 256 % 256]
def chk (r : Rec) : Int := crcA (crcA 0 (hd4 r)) r.bs
def hd8 (r : Rec) : List Int := [r.kind, r.grp, (r.bs.length : Int) % 256, (r.bs.length : Int) / 256 % 256, chk r % 256, chk r / 256 % 256, 0, 0]
/-- Zeros up to a word. -/
def pad (n : Nat) : List Int := List.replicate (rm n - 12 - n) 0
def kept4 : List Int := [107, 101, 112, 116]
/-- A record as it stands. -/
def enc (r : Rec) : List Int := hd8 r ++ (r.bs ++ (pad r.bs.length ++ kept4))
theorem pad_len (n : Nat) : (pad n).length = rm n - 12 - n := List.length_replicate
theorem enc_len (r : Rec) : (enc r).length = rm r.bs.length := by
  have := rm_ge r.bs.length
  simp [enc, hd8, kept4, pad_len]; omega
/-- What may stand. -/
structure Rec.Ok (r : Rec) : Prop where
  k0 : 0 ≤ r.kind
  k1 : r.kind < 256
  g0 : 0 ≤ r.grp
  g1 : r.grp < 16
  oct : Oct r.bs
  len : r.bs.length ≤ 4096
theorem mod_oct (x : Int) : 0 ≤ x % 256 ∧ x % 256 < 256 := by omega
theorem enc_oct {r : Rec} (h : r.Ok) : Oct (enc r) := by
  intro x hx
  have a := h.k0; have b := h.k1; have c := h.g0; have d := h.g1
  simp only [enc, hd8, kept4, pad, List.mem_append, List.mem_cons, List.mem_replicate, List.not_mem_nil, or_false] at hx
  rcases hx with (rfl | rfl | rfl | rfl | rfl | rfl | rfl | rfl) | hx | ⟨_, rfl⟩ | rfl | rfl | rfl | rfl <;> first | omega | exact h.oct x hx
/-- How many bytes a head says. -/
def nOf (b : List Int) : Nat := (b.getD 2 0 + 256 * b.getD 3 0).toNat
/-- The record that bytes begin with. -/
def recAt (b : List Int) : Rec := ⟨b.getD 0 0, b.getD 1 0, (b.drop 8).take (nOf b)⟩
def dec (b : List Int) : Option Rec :=
  if 12 ≤ b.length ∧ b.getD 1 0 < 16 ∧ nOf b ≤ 4096 ∧ rm (nOf b) ≤ b.length ∧ enc (recAt b) = b.take (rm (nOf b)) then some (recAt b) else none
theorem nOf_hd (r : Rec) (h : r.bs.length ≤ 4096) (t : List Int) : nOf (hd8 r ++ t) = r.bs.length := by
  simp [nOf, hd8]; omega
theorem recAt_enc (r : Rec) (h : r.bs.length ≤ 4096) (t : List Int) : recAt (enc r ++ t) = r := by
  have e : enc r ++ t = hd8 r ++ (r.bs ++ (pad r.bs.length ++ kept4) ++ t) := by simp [enc]
  have n := nOf_hd r h (r.bs ++ (pad r.bs.length ++ kept4) ++ t)
  unfold recAt
  rw [e, n]
  cases r
  simp [hd8]
theorem dec_enc {r : Rec} (h : r.Ok) (t : List Int) : dec (enc r ++ t) = some r := by
  have hl := h.len
  have e : enc r ++ t = hd8 r ++ (r.bs ++ (pad r.bs.length ++ kept4) ++ t) := by simp [enc]
  have n : nOf (enc r ++ t) = r.bs.length := by rw [e]; exact nOf_hd r hl _
  have hr := recAt_enc r hl t
  have g := rm_ge r.bs.length
  unfold dec
  rw [n, hr, if_pos]
  refine ⟨by simp [enc_len]; omega, ?_, hl, by simp [enc_len], ?_⟩
  · rw [e]; simp [hd8]; exact h.g1
  · rw [List.take_append_of_le_length (by rw [enc_len]; omega), List.take_of_length_le (by rw [enc_len]; omega)]
theorem dec_some {b : List Int} (ho : Oct b) {r : Rec} (h : dec b = some r) : r.Ok ∧ b = enc r ++ b.drop (rm r.bs.length) := by
  unfold dec at h
  split at h
  · rename_i hc
    obtain ⟨h1, h2, h3, h4, h5⟩ := hc
    have hr : recAt b = r := by simpa using h
    have hg := rm_ge (nOf b)
    have hn : (recAt b).bs.length = nOf b := by unfold recAt; simp; omega
    have q0 := ho.getD 0
    have q1 := ho.getD 1
    refine ⟨?_, ?_⟩
    · subst hr
      exact ⟨q0.1, q0.2, q1.1, h2, (ho.drop _).take _, by rw [hn]; exact h3⟩
    · subst hr
      rw [hn, h5, List.take_append_drop]
  · cases h
theorem dec_short {b : List Int} (h : b.length < 12) : dec b = none := by unfold dec; rw [if_neg (fun e => by omega)]
/-- What says too many bytes is none. -/
theorem dec_big {b : List Int} (h : 4096 < nOf b) : dec b = none := by unfold dec; rw [if_neg (fun e => by omega)]
theorem dec_blank {b : List Int} (h : ∀ x ∈ b, x = 255) : dec b = none := by
  by_cases hl : b.length < 12
  · exact dec_short hl
  · refine dec_big ?_
    have a : b.getD 2 0 = 255 := h _ (by simp [List.getD_eq_getElem?_getD, show 2 < b.length by omega])
    have c : b.getD 3 0 = 255 := h _ (by simp [List.getD_eq_getElem?_getD, show 3 < b.length by omega])
    unfold nOf
    rw [a, c]
    decide
theorem dec_blank4 {b : List Int} (h2 : b.getD 2 0 = 255) (h3 : b.getD 3 0 = 255) : dec b = none := by
  refine dec_big ?_
  unfold nOf
  rw [h2, h3]
  decide
/-- What was cut is none. -/
theorem dec_cut {r : Rec} (hr : r.Ok) (m : Nat) (hm : 4 * m < rm r.bs.length) (t : List Int) (ht : ∀ x ∈ t, x = 255) : dec ((enc r).take (4 * m) ++ t) = none := by
  rcases Nat.eq_zero_or_pos m with h0 | hp
  · subst h0; simpa using dec_blank ht
  · have hl := hr.len
    have hL := enc_len r
    have g := rm_ge r.bs.length
    have f4 := rm_four r.bs.length
    have hB : ∃ u, (enc r).take (4 * m) = hd4 r ++ u := by
      refine ⟨((enc r).take (4 * m)).drop 4, ?_⟩
      have : hd4 r = ((enc r).take (4 * m)).take 4 := by
        rw [List.take_take, Nat.min_eq_left (by omega)]; simp [enc, hd8, hd4]
      rw [this, List.take_append_drop]
    obtain ⟨u, hu⟩ := hB
    have n : nOf ((enc r).take (4 * m) ++ t) = r.bs.length := by rw [hu]; simp [nOf, hd4]; omega
    unfold dec
    rw [n, if_neg]
    rintro ⟨-, -, -, h4, h5⟩
    have hq : (recAt ((enc r).take (4 * m) ++ t)).bs.length = r.bs.length := by
      unfold recAt
      rw [n]
      simp only [List.length_take, List.length_drop]
      omega
    have e1 : (enc (recAt ((enc r).take (4 * m) ++ t)))[rm r.bs.length - 4]? = some 107 := by
      generalize recAt ((enc r).take (4 * m) ++ t) = q at hq
      unfold enc
      rw [List.getElem?_append_right (by simp [hd8]; omega), List.getElem?_append_right (by simp [hd8, hq]; omega), List.getElem?_append_right (by simp [hd8, hq, pad_len]; omega)]
      have : rm r.bs.length - 4 - (hd8 q).length - q.bs.length - (pad q.bs.length).length = 0 := by simp [hd8, hq, pad_len]; omega
      rw [this]; rfl
    rw [h5, List.getElem?_take, if_pos (by omega), List.getElem?_append_right (by simp; omega)] at e1
    have := ht 107 (List.mem_of_getElem? e1)
    omega

/-- Records, one behind the other. -/
def encs (rs : List Rec) : List Int := rs.flatMap enc
theorem encs_cons (r : Rec) (rs : List Rec) : encs (r :: rs) = enc r ++ encs rs := rfl
theorem encs_app (a b : List Rec) : encs (a ++ b) = encs a ++ encs b := by simp [encs]
/-- Those that stand at the head. -/
def recsF : Nat → List Int → List Rec
  | 0, _ => []
  | f + 1, b => match dec b with
    | none => []
    | some r => r :: recsF f (b.drop (rm r.bs.length))
def recs (b : List Int) : List Rec := recsF b.length b
/-- Bytes are records, and what is none behind them. -/
structure Parts (b : List Int) (rs : List Rec) (t : List Int) : Prop where
  eq : b = encs rs ++ t
  ok : ∀ r ∈ rs, r.Ok
  stop : dec t = none
theorem recsF_parts : ∀ (f : Nat) (b : List Int), b.length ≤ f → Oct b → ∃ t, Parts b (recsF f b) t := by
  intro f
  induction f with
  | zero => intro b h _; exact ⟨b, rfl, (fun r hr => by simp [recsF] at hr), dec_short (by omega)⟩
  | succ f ih =>
    intro b h ho
    unfold recsF
    cases hd : dec b with
    | none => exact ⟨b, rfl, (fun r hr => by simp at hr), hd⟩
    | some r =>
      obtain ⟨h1, h2⟩ := dec_some ho hd
      have g := rm_ge r.bs.length
      obtain ⟨t, ht⟩ := ih (b.drop (rm r.bs.length)) (by simp; omega) (ho.drop _)
      refine ⟨t, ?_, ?_, ht.stop⟩
      · dsimp only
        rw [encs_cons, List.append_assoc, ← ht.eq]; exact h2
      · intro q hq
        rcases List.mem_cons.1 hq with rfl | hq
        · exact h1
        · exact ht.ok q hq
theorem recs_parts {b : List Int} (ho : Oct b) : ∃ t, Parts b (recs b) t := recsF_parts _ _ (Nat.le_refl _) ho
theorem recsF_of : ∀ (rs : List Rec) (t : List Int) (f : Nat), (∀ r ∈ rs, r.Ok) → dec t = none → (encs rs ++ t).length ≤ f → recsF f (encs rs ++ t) = rs := by
  intro rs
  induction rs with
  | nil =>
    intro t f _ hs hf
    cases f with
    | zero => rfl
    | succ f => unfold recsF; simp [encs, hs]
  | cons r rs ih =>
    intro t f hk hs hf
    have g := rm_ge r.bs.length
    have hl : (encs (r :: rs) ++ t).length = rm r.bs.length + (encs rs ++ t).length := by rw [encs_cons, List.append_assoc, List.length_append, enc_len]
    cases f with
    | zero => omega
    | succ f =>
      unfold recsF
      rw [encs_cons, List.append_assoc, dec_enc (hk r (by simp))]
      dsimp only
      rw [List.drop_append_of_le_length (by rw [enc_len]; omega), List.drop_of_length_le (by rw [enc_len]; omega), List.nil_append, ih t f (fun q hq => hk q (by simp [hq])) hs (by omega)]
theorem recs_of {b : List Int} {rs : List Rec} {t : List Int} (h : Parts b rs t) : recs b = rs := by
  unfold recs
  rw [h.eq]
  exact recsF_of rs t _ h.ok h.stop (Nat.le_refl _)
theorem Parts.of {b : List Int} (ho : Oct b) : Parts b (recs b) (b.drop (encs (recs b)).length) := by
  obtain ⟨t, ht⟩ := recs_parts ho
  have : b.drop (encs (recs b)).length = t := by
    have e := ht.eq
    generalize recs b = rs at *
    rw [e]; simp
  rw [this]; exact ht
#print axioms Parts.of
#print axioms dec_cut
end Go.Proofs.Ytgpbmccjcjoijaa
