/-
  Groups, plainly; what a half tells; what an opening finds.
-/
import Derived.Test.YtgpbmccjcjoijaaJa
namespace Go.Proofs.Ytgpbmccjcjoijaa
open Go.RowKit

/-- A group. -/
structure Gp where
  there : Bool
  marked : Bool
  bs : List Int
def gp0 : Gp := ⟨false, false, []⟩
def all0 : List Gp := List.replicate 16 gp0
def Gp.stays (g : Gp) : Bool := g.there && !g.marked
/-- What a record makes of the groups. -/
def take1 (all : List Gp) (r : Rec) : List Gp :=
  if r.kind = 2 then all.set r.grp.toNat ⟨true, false, r.bs⟩ else if r.kind = 3 then all.set r.grp.toNat gp0 else all
def takes (all : List Gp) (rs : List Rec) : List Gp := rs.foldl take1 all
theorem take1_len (all : List Gp) (r : Rec) : (take1 all r).length = all.length := by unfold take1; split; simp; split <;> simp
theorem takes_len (all : List Gp) (rs : List Rec) : (takes all rs).length = all.length := by
  induction rs generalizing all with
  | nil => rfl
  | cons r rs ih => show (takes (take1 all r) rs).length = _; rw [ih, take1_len]
theorem takes_snoc (all : List Gp) (rs : List Rec) (r : Rec) : takes all (rs ++ [r]) = take1 (takes all rs) r := by simp [takes]
def gRoom (g : Gp) : Nat := if g.stays then rm g.bs.length else 0
def roomG (all : List Gp) : Nat := (all.map gRoom).sum
def roomR (rs : List Rec) : Nat := (rs.map fun r => rm r.bs.length).sum
theorem encs_len (rs : List Rec) : (encs rs).length = roomR rs := by
  induction rs with
  | nil => rfl
  | cons r rs ih => rw [encs_cons, List.length_append, enc_len, ih]; simp [roomR]
theorem roomG_set (all : List Gp) (i : Nat) (g : Gp) : roomG (all.set i g) ≤ roomG all + gRoom g := by
  unfold roomG
  induction all generalizing i with
  | nil => simp
  | cons a l ih =>
    cases i with
    | zero => simp; omega
    | succ i => have := ih i; simp at this ⊢; omega
theorem roomG_take1 (all : List Gp) (r : Rec) : roomG (take1 all r) ≤ roomG all + if r.kind = 2 then rm r.bs.length else 0 := by
  unfold take1
  split
  · have := roomG_set all r.grp.toNat ⟨true, false, r.bs⟩
    simpa [gRoom, Gp.stays] using this
  · split
    · have := roomG_set all r.grp.toNat gp0
      simpa [gRoom, Gp.stays, gp0] using this
    · omega
theorem roomG_takes (rs : List Rec) : ∀ all : List Gp, roomG (takes all rs) ≤ roomG all + roomR rs := by
  induction rs with
  | nil => intro all; simp [takes, roomR]
  | cons r rs ih =>
    intro all
    have h1 := ih (take1 all r)
    have h2 := roomG_take1 all r
    have e : roomR (r :: rs) = rm r.bs.length + roomR rs := by simp [roomR]
    rw [e]
    show roomG (takes (take1 all r) rs) ≤ _
    split at h2 <;> omega
theorem roomG_all0 : roomG all0 = 0 := by simp [roomG, all0, gRoom, gp0, Gp.stays]

/-- What a half tells: was it begun, its number, where the next record is to stand, the groups. -/
structure LK where
  bg : Bool
  num : Int
  en : Nat
  gs : List Gp
def blank (b : List Int) : Bool := b.all (fun x => x == 255)
theorem blank_iff {b : List Int} : blank b = true ↔ ∀ x ∈ b, x = 255 := by simp [blank]
def endOf (b : List Int) (e : Nat) : Nat := if blank (b.drop e) then e else b.length
/-- Do records begin a half? -/
def begunR : List Rec → Bool
  | r :: _ => r.kind == 1 && r.bs.length == 1
  | [] => false
def numR : List Rec → Int
  | r :: _ => r.bs.getD 0 0
  | [] => 0
def look (b : List Int) : LK := if begunR (recs b) then ⟨true, numR (recs b), endOf b (roomR (recs b)), takes all0 (recs b)⟩ else ⟨false, 0, endOf b 0, all0⟩
theorem look_of {b : List Int} {rs : List Rec} {t : List Int} (h : Parts b rs t) (hb : begunR rs = true) : look b = ⟨true, numR rs, endOf b (roomR rs), takes all0 rs⟩ := by
  unfold look; rw [recs_of h, if_pos hb]
theorem look_not {b : List Int} (h : begunR (recs b) = false) : look b = ⟨false, 0, endOf b 0, all0⟩ := by
  unfold look; rw [if_neg (by rw [h]; decide)]
theorem look_none {b : List Int} (h : dec b = none) : look b = ⟨false, 0, endOf b 0, all0⟩ := by
  refine look_not ?_
  rw [recs_of (b := b) (rs := []) (t := b) ⟨rfl, (fun r hr => by simp at hr), h⟩]
  rfl
theorem endOf_le (b : List Int) (e : Nat) (h : e ≤ b.length) : endOf b e ≤ b.length := by unfold endOf; split <;> omega
theorem look_en {b : List Int} (ho : Oct b) : (look b).en ≤ b.length := by
  have hp := Parts.of ho
  have hl : roomR (recs b) ≤ b.length := by
    rw [← encs_len]
    have := congrArg List.length hp.eq
    rw [List.length_append] at this
    omega
  unfold look
  split
  · exact endOf_le _ _ hl
  · exact endOf_le _ _ (Nat.zero_le _)
theorem look_gs (b : List Int) : (look b).gs.length = 16 := by
  unfold look; split
  · rw [takes_len]; rfl
  · rfl
/-- What stands in a half that was begun leaves room for its first record. -/
theorem look_room {b : List Int} (ho : Oct b) (hs : 16 ≤ b.length) : roomG (look b).gs + 16 ≤ b.length := by
  have hp := Parts.of ho
  by_cases hb : begunR (recs b) = true
  · rw [look_of hp hb]
    cases hr : recs b with
    | nil => rw [hr] at hb; cases hb
    | cons r rs =>
      rw [hr] at hb
      have hk : r.kind = 1 ∧ r.bs.length = 1 := by simpa [begunR] using hb
      have h1 := roomG_takes rs (take1 all0 r)
      have h2 := roomG_take1 all0 r
      rw [if_neg (by omega), roomG_all0] at h2
      have h3 : roomR (r :: rs) = 16 + roomR rs := by simp [roomR, hk.2, rm]
      have h4 : roomR (recs b) ≤ b.length := by
        rw [← encs_len]
        have := congrArg List.length hp.eq
        rw [List.length_append] at this
        omega
      rw [hr] at h4
      show roomG (takes (take1 all0 r) rs) + 16 ≤ _
      omega
  · rw [look_not (by simpa using hb)]
    show roomG all0 + 16 ≤ _
    rw [roomG_all0]; omega
/-- A half counts, and not the other one. -/
def newerB (h o : LK) : Bool := h.bg && (!o.bg || decide (1 ≤ (h.num - o.num) % 256 ∧ (h.num - o.num) % 256 < 128))
/-- Sectors of a flash. -/
def part (cs : List Int) (first k : Nat) : List Int := (cs.drop (1024 * first)).take (1024 * k)
/-- A journal: does the higher half count, what that tells, the groups, was it cut. -/
structure JS where
  hi : Bool
  bg : Bool
  num : Int
  en : Nat
  all : List Gp
  cut : Bool
def ofLK (hi : Bool) (l : LK) : JS := ⟨hi, l.bg, l.num, l.en, l.gs, false⟩
/-- What an opening finds. -/
def opn (cs : List Int) (first k : Nat) : JS :=
  if newerB (look (part cs (first + k) k)) (look (part cs first k)) then ofLK true (look (part cs (first + k) k)) else ofLK false (look (part cs first k))
#print axioms look_room
end Go.Proofs.Ytgpbmccjcjoijaa
