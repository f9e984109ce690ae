/-
  The walk of readText: a bare text, or one in quotes.
-/
import Derived.Test.YtkfmmpolcjbnbaaDoorRd5
import Derived.Test.YtkfmmpolcjbnbaaDoorWhl1
import Derived.Laws.IdiomStrings
namespace Go.Proofs.YtkfmmpolcjbnbaaDoor
open Pl Go.RowKit

/-- The bytes that the inside of quotes tells, at most so many. -/
def qL : Nat → List UInt8 → Option (List Int)
  | 0, l => if l = [] then some [] else none
  | r + 1, l => if l = [] then some [] else (quoR l).bind fun p => (qL r (l.drop p.2)).map fun bs => (p.1 : Int) :: bs
/-- The bytes of a text that is bare or in quotes. -/
def txtV (l : List UInt8) : Option (List Int) :=
  if Lib.hasPrefix l [34] = true then (if Lib.hasSuffix (Lib.trimPrefix l [34]) [34] = true then qL 4096 (Lib.trimSuffix (Lib.trimPrefix l [34]) [34]) else none)
  else if l.length ≤ 4096 then some (l.map fun c => (c.toNat : Int)) else none

theorem qL_nil (r : Nat) : qL r [] = some [] := by cases r <;> simp [qL]
theorem quoR_used (l : List UInt8) (c u : Nat) (hne : l ≠ []) (h : quoR l = some (c, u)) : 1 ≤ u ∧ u ≤ l.length ∧ c < 256 := by
  have h0 : 0 < l.length := List.length_pos_iff.2 hne
  have hb0 : ch l 0 < 256 := UInt8.toNat_lt _
  have hb1 : ch l 1 < 256 := UInt8.toNat_lt _
  unfold quoR at h
  split at h
  · split at h
    · simp at h; omega
    · simp at h
  split at h
  · simp at h; omega
  split at h
  · next h4 =>
    cases hx : hexF false 0 ((l.drop 2).take 2) with
    | none => rw [hx] at h; simp at h
    | some n =>
      rw [hx] at h
      have := hexF2_lt false _ n (by simp; omega) hx
      simp at h
      omega
  · simp at h

theorem trimS_len (l p : List UInt8) : (Lib.trimSuffix l p).length ≤ l.length := by
  unfold Lib.trimSuffix
  split
  · rw [List.length_take]; omega
  · exact Nat.le_refl _

theorem slice_from (l : List UInt8) (a : Nat) (h : a ≤ l.length) (w : World) : (Instr.slice 9 (.string (str l)) (some (.int .i64 (a : Int))) none none).run Tryd.prog w = .ok (.string (str (l.drop a))) w := by
  have hs : (str l).size = l.length := by unfold str; simp [ByteArray.size]
  rw [run_slice_string_l (P := Tryd.prog) w 9 (str l) Tryd.underlying9 .i64 _ (by omega) (by rw [hs]; omega)]
  congr 2
  apply ByteArray.ext
  simp [str, ByteArray.data_extract, ByteArray.size]
  rw [List.take_of_length_le (by simp)]

/-- A text as bytes of one's own. -/
theorem bytes_told (l : List UInt8) (w : World) (hl : l.length ≤ 1000000) : ∃ a cap w', (convert 9 22 (.string (str l))).run Tryd.prog w = .ok (.slice a l.length cap) w' ∧ ReadsTo w (some (l.map fun c => (c.toNat : Int))) (.returned (.slice a l.length cap)) w' := by
  have hs : (str l).size = l.length := by unfold str; simp [ByteArray.size]
  have hrun := run_bytes_of_string (P := Tryd.prog) w 9 22 5 (str l) Tryd.underlying9 Tryd.underlying22 Tryd.underlying5
  rw [hs] at hrun
  have hge := grownCap_ge w l.length 0 5
  have hle := grownCap_le_maxLen w l.length 0 5 (by unfold maxLen; omega)
  generalize grownCap w l.length 0 5 = cap at *
  refine ⟨_, _, _, hrun, ⟨_, _, _, rfl, ⟨⟨by simp, fun n hn => ?_, fun hp => ⟨_, 0, rfl, fun i hi => ?_⟩⟩, hge, hle, fun _ => ⟨_, rfl, Nat.le_refl _, fun i hi => ?_⟩⟩⟩, Below.al (Below.drew (Below.refl _ _)) _⟩
  · obtain ⟨c, _, rfl⟩ := List.mem_map.1 hn
    have := c.toNat_lt
    omega
  · have e : (w.drew.alloc (.cells (bytesRow (str l) cap) 5 ((bytesRow (str l) cap).size, (bytesRow (str l) cap).size + 1))).heap[w.heap.size]? = some (.cells (bytesRow (str l) cap) 5 ((bytesRow (str l) cap).size, (bytesRow (str l) cap).size + 1)) := by show (w.heap.push _)[w.heap.size]? = _; simp
    unfold World.cell?
    rw [e]
    have hi' : i < (str l).data.size := by show i < (str l).size; omega
    simp [bytesRow, Array.getElem?_append, hi, str, List.getD_eq_getElem?_getD]
  · have e : (w.drew.alloc (.cells (bytesRow (str l) cap) 5 ((bytesRow (str l) cap).size, (bytesRow (str l) cap).size + 1))).heap[w.heap.size]? = some (.cells (bytesRow (str l) cap) 5 ((bytesRow (str l) cap).size, (bytesRow (str l) cap).size + 1)) := by show (w.heap.push _)[w.heap.size]? = _; simp
    unfold World.frozen?
    rw [e]
    have : l.length ≤ (bytesRow (str l) cap).size := by simp [bytesRow, str]
    simp
    omega

/-- Bytes of one's own that are told. -/
theorem own_told {w w' : World} {v : Value} {k : Nat} {zs : List Int} (h : w'.ownsRow w.heap.size 5 1 v k (zs.map (Value.int .u8))) (ho : Oct zs) (hl : zs.length = k) :
    ∃ a cap, v = .slice a k cap ∧ Told w w' a k cap zs := by
  rcases h.2 with ⟨rfl, rfl⟩ | ⟨g, cap, cur, rfl, hg, hc, hn, hm, hs, ht⟩
  · have : zs = [] := List.eq_nil_of_length_eq_zero hl
    subst this
    exact ⟨none, 0, rfl, row_nil w', Nat.le_refl _, by decide, fun h => absurd h (by decide)⟩
  · refine ⟨_, cap, rfl, ⟨hl, ho, fun _ => ⟨g, 0, rfl, fun i hi => ?_⟩⟩, hn, hm, fun _ => ⟨g, rfl, hg, fun i _ => ?_⟩⟩
    · have := h.cellAt i (by omega)
      rw [Nat.zero_add, this]
      simp [List.getD_eq_getElem?_getD, hl, hi]
    · unfold World.frozen?
      rw [hc]
      simp

set_option maxHeartbeats 4000000 in
set_option maxRecDepth 100000 in
theorem textRd_any (l : List UInt8) (w : World) (hl : l.length ≤ 1000000) :
    Calls Tryd.prog 38 #[.string (str l)] w (ReadsTo w (txtV l)) := by
  have hcp := fun w => Tryd.strings_CutPrefix (str l) ⟨#[34]⟩ w
  rw [show (str l).data.toList = l from rfl, show (⟨#[34]⟩ : ByteArray).data.toList = [34] from rfl] at hcp
  obtain ⟨sl, HSL, _, hsz, _⟩ := str_facts l
  by_cases a0 : Lib.hasPrefix l [34] = true
  rotate_left
  · have a0' : Lib.hasPrefix l [34] = false := by simpa using a0
    rw [a0'] at hcp
    obtain ⟨st, HC⟩ : ∃ st, Hid (∀ w : World, Calls Tryd.prog 57 #[.string (str l), .string ⟨#[34]⟩] w fun e w' => e = .returned (.tuple #[.string st, .bool false]) ∧ w' = w) := ⟨_, hcp⟩
    have HB : Hid (∀ w : World, ∃ a cap w', (convert 9 22 (.string (str l))).run Tryd.prog w = .ok (.slice a l.length cap) w' ∧ ReadsTo w (some (l.map fun c => (c.toNat : Int))) (.returned (.slice a l.length cap)) w') := fun w => bytes_told l w hl
    rw [HSL.out] at HC HB ⊢
    clear hcp
    by_cases a1 : l.length ≤ 4096
    · rw [show txtV l = some (l.map fun c => (c.toNat : Int)) from by unfold txtV; rw [if_neg a0, if_pos a1]]
      have g1 : (l.length : Int) ≤ 4096 := by omega
      obtain ⟨a, cap, w', hrun, hto⟩ := HB.out w
      have HT : Hid (ReadsTo w (some (l.map fun c => (c.toNat : Int))) (.returned (.slice a l.length cap)) w') := hto
      clear hto HB a0 a0' a1
      go_enter Tryd.func38, Tryd.ntmps38
      go_wp2_with fail
      refine (HC.out _).mono ?_
      rintro e w ⟨rfl, rfl⟩
      go_wp2_with fail
      refine (must_true _).mono ?_
      rintro e w ⟨rfl, rfl⟩
      go_wp2_with fail
      go_ret
      exact HT.out
    · rw [show txtV l = none from by unfold txtV; rw [if_neg a0, if_neg a1]]
      have g1 : ¬ (l.length : Int) ≤ 4096 := by omega
      clear HB a0 a0' 
      go_enter Tryd.func38, Tryd.ntmps38
      go_wp2_with fail
      refine (HC.out _).mono ?_
      rintro e w ⟨rfl, rfl⟩
      go_wp2_with fail
      first
        | refine (must_false _).mono ?_
        | (rw [show decide (l.length ≤ 4096) = false from by simp; omega]; refine (must_false _).mono ?_)
        | (rw [show decide ((l.length : Int) ≤ 4096) = false from by simp; omega]; refine (must_false _).mono ?_)
      rintro e w ⟨rfl, rfl⟩
      go_wp2_with fail
      exact ⟨rfl, rfl, Below.refl _ _⟩
  rw [a0] at hcp
  have htl := trim_len l [34]
  have TV : Hid (txtV l = (if Lib.hasSuffix (Lib.trimPrefix l [34]) [34] = true then qL 4096 (Lib.trimSuffix (Lib.trimPrefix l [34]) [34]) else none)) := by show _ = _; unfold txtV; rw [if_pos a0]
  rw [TV.out]
  clear TV a0
  generalize Lib.trimPrefix l [34] = m at *
  have HC : Hid (∀ w : World, Calls Tryd.prog 57 #[.string (str l), .string ⟨#[34]⟩] w fun e w' => e = .returned (.tuple #[.string (str m), .bool true]) ∧ w' = w) := hcp
  have hms : (str m).size = m.length := by unfold str; simp [ByteArray.size]
  have hcs := fun w => Tryd.strings_CutSuffix (str m) ⟨#[34]⟩ w (by rw [hms]; omega)
  rw [show (str m).data.toList = m from rfl, show (⟨#[34]⟩ : ByteArray).data.toList = [34] from rfl] at hcs
  have htl2 := trimS_len m [34]
  rw [HSL.out] at HC ⊢
  clear hcp hms
  by_cases a1 : Lib.hasSuffix m [34] = true
  rotate_left
  · have a1' : Lib.hasSuffix m [34] = false := by simpa using a1
    rw [a1'] at hcs
    rw [if_neg a1]
    obtain ⟨st, HD⟩ : ∃ st, Hid (∀ w : World, Calls Tryd.prog 64 #[.string (str m), .string ⟨#[34]⟩] w fun e w' => e = .returned (.tuple #[.string st, .bool false]) ∧ w' = w) := ⟨_, hcs⟩
    clear hcs a1 a1' htl2
    generalize str m = sm at *
    go_enter Tryd.func38, Tryd.ntmps38
    go_wp2_with fail
    refine (HC.out _).mono ?_
    rintro e w ⟨rfl, rfl⟩
    go_wp2_with fail
    refine (HD.out _).mono ?_
    rintro e w ⟨rfl, rfl⟩
    go_wp2_with fail
    refine (must_false _).mono ?_
    rintro e w ⟨rfl, rfl⟩
    go_wp2_with fail
    exact ⟨rfl, rfl, Below.refl _ _⟩
  rw [a1] at hcs
  rw [if_pos a1]
  clear a1
  generalize Lib.trimSuffix m [34] = r at *
  have HD : Hid (∀ w : World, Calls Tryd.prog 64 #[.string (str m), .string ⟨#[34]⟩] w fun e w' => e = .returned (.tuple #[.string (str r), .bool true]) ∧ w' = w) := hcs
  have hr : r.length ≤ 1000000 := by omega
  obtain ⟨i0, hi, hz0, hz1, hz2⟩ := info_parts info8
  obtain ⟨sr, HSR⟩ : ∃ s, Hid (str r = s) := ⟨_, rfl⟩
  obtain ⟨R, HR⟩ : ∃ R, Hid (R = qL 4096 r) := ⟨_, rfl⟩
  rw [← HR.out]
  rw [HSR.out] at HD
  clear hcs htl2 htl
  generalize str m = sm at *
  go_enter Tryd.func38, Tryd.ntmps38
  go_wp2_with fail
  refine (HC.out _).mono ?_
  rintro e w ⟨rfl, rfl⟩
  go_wp2_with fail
  refine (HD.out _).mono ?_
  rintro e w ⟨rfl, rfl⟩
  go_wp2_with fail
  refine (must_true _).mono ?_
  rintro e w ⟨rfl, rfl⟩
  go_wp2_with fail
  clear HC HD
  go_loopw [3, 6] (fun t v wr => ∃ (l' : List UInt8) (bs : List Int), t = .string (str l') ∧ l'.length ≤ 1000000 ∧ bs.length ≤ 4096 ∧ R = (qL (4096 - bs.length) l').map (fun cs => bs ++ cs) ∧ Oct bs ∧ Below w.heap.size w wr ∧ wr.ownsRow w.heap.size 5 1 v bs.length (bs.map (Value.int .u8)))
    (fun t _ _ => match t with | .string x => x.size | _ => 0)
  case atStart => exact ⟨r, [], by rw [HSR.out], hr, by simp, by simp [HR.out], fun n hn => by simp at hn, Below.refl _ _, World.ownsRow_nil _ _ _ _⟩
  case round =>
    obtain ⟨l', bs, rfl, hl', hbl, hq, hob, hb, hown⟩ := hrel
    obtain ⟨s', HS', hs'l, hs'z, _⟩ := str_facts l'
    have SF := slice_from l'
    have QA := fun w hne => quotedRd_any l' w hne hl'
    rw [HS'.out] at SF QA ⊢
    by_cases hne : l' = []
    · subst hne
      rw [qL_nil] at hq
      have HQ : R = some bs := by rw [hq]; simp
      clear hq HR
      subst HQ
      obtain ⟨a, cap, rfl, ht⟩ := own_told hown hob rfl
      have HT : Hid (Told w wr a bs.length cap bs) := ht
      clear hown SF QA ht
      go_wp2_with fail
      go_ret
      exact ⟨⟨_, _, _, rfl, HT.out⟩, hb⟩
    · have HB : Hid (∀ n : Nat, n + 1 ≤ 4096 → qL (n + 1) l' = (quoR l').bind fun p => (qL n (l'.drop p.2)).map fun bs => (p.1 : Int) :: bs) := fun n _ => by show _ = _; simp [qL, hne]
      have HB0 : Hid (qL 0 l' = none) := by show _ = _; simp [qL, hne]
      have emp2 : l'.isEmpty = false := by simpa using hne
      have emp : s'.toList.isEmpty = false := by rw [hs'l]; exact emp2
      have QA' := fun w => QA w hne
      have UB := fun c u h => quoR_used l' c u hne h
      clear QA
      cases hp : quoR l' with
      | none =>
        have HE : R = none := by
          rw [hq]
          by_cases h : bs.length = 4096
          · rw [h]; rw [show 4096 - 4096 = 0 from rfl, HB0.out]; rfl
          · rw [show 4096 - bs.length = (4096 - bs.length - 1) + 1 by omega, HB.out _ (by omega), hp]; rfl
        rw [hp] at QA'
        have HD : Hid (∀ w : World, Calls Tryd.prog 65 #[.string s'] w fun e w' => e = .panicked bad ∧ w' = w) := QA'
        clear QA' hq HB HB0 hown UB SF hp HR
        subst HE
        go_wp2_with fail
        refine (HD.out _).mono ?_
        rintro e wr ⟨rfl, rfl⟩
        go_wp2_with fail
        first | exact ⟨rfl, rfl, hb⟩ | exact ⟨rfl, ⟨rfl, hb⟩⟩
      | some p =>
        obtain ⟨c, u⟩ := p
        obtain ⟨u1, u2, c2⟩ := UB c u hp
        have sf := SF u u2
        rw [hp] at QA'
        have HD : Hid (∀ w : World, Calls Tryd.prog 65 #[.string s'] w fun e w' => e = .returned (.tuple #[.int .u8 (c : Int), .int .i64 (u : Int)]) ∧ w' = w) := QA'
        have OWN : Hid (wr.ownsRow w.heap.size 5 1 u6 bs.length (bs.map (Value.int .u8))) := hown
        have HSZ : Hid (s'.size = l'.length) := hs'z
        have HN : Hid (bs.length + 1 ≤ 4096 → R = (qL (4096 - (bs.length + 1)) (l'.drop u)).map fun cs => (bs ++ [(c : Int)]) ++ cs) := fun h => by
          rw [hq, show 4096 - bs.length = (4096 - (bs.length + 1)) + 1 by omega, HB.out _ (by omega), hp]
          show (Option.map _ (qL _ (l'.drop u))).map _ = _
          rw [Option.map_map]
          congr 1
          funext cs
          simp
        have HX : Hid (¬ bs.length + 1 ≤ 4096 → R = none) := fun h => by
          rw [hq, show 4096 - bs.length = 0 by omega, HB0.out]; rfl
        have hdl : (l'.drop u).length ≤ 1000000 := by rw [List.length_drop]; omega
        have HDS : Hid ((str (l'.drop u)).size < s'.size) := by
          show _ < _
          rw [hs'z]
          have : (str (l'.drop u)).size = l'.length - u := by unfold str; simp [ByteArray.size]
          have := List.length_pos_iff.2 hne
          omega
        have wc : (c : Int) % 256 = (c : Int) := by omega
        clear QA' hq HB HB0 hown UB SF hp HS' hs'z hs'l
        obtain ⟨t', HT'⟩ : ∃ t, Hid (str (l'.drop u) = t) := ⟨_, rfl⟩
        rw [HT'.out] at sf HDS
        by_cases hroom : bs.length + 1 ≤ 4096
        · have groom : ((bs.length : Int) + 1) ≤ 4096 := by omega
          have groom' : ((bs.length + 1 : Nat) : Int) ≤ 4096 := by omega
          go_wp2_with fail
          refine (HD.out _).mono ?_
          rintro e wr ⟨rfl, rfl⟩
          go_wp2_with (at_builtin; refine wpList_append_own _ rfl _ _ 22 rfl w.heap.size 5 i0 (.int .u8 0) 1 1 Tryd.underlying22 hi hz0 hz1 hz2 rfl (by decide) _ _ _ rfl (OWN.out.alloc _) ⟨wr.heap.size, 0, none⟩ 1 1 [.int .u8 (c : Int)] rfl rfl ?c1 ?c2 ?c3 ?c4 ?c5 ?_)
          case c1 =>
            intro j u hj
            match j, hj with
            | 0, hj => simp at hj; subst hj; simp [Addr.add]
          case c2 => intro u hu; simp at hu; subst hu; rfl
          case c3 => unfold maxLen; omega
          case c4 => omega
          case c5 => have := hb.size; simp; omega
          intro v' w2 hown' hgrow _
          have hown2 : w2.ownsRow w.heap.size 5 1 v' (bs.length + 1) ((bs ++ [(c : Int)]).map (Value.int .u8)) := by rw [List.map_append]; exact hown'
          have hob2 : Oct (bs ++ [(c : Int)]) := fun n hn => by
            rcases List.mem_append.1 hn with h | h
            · exact hob n h
            · simp at h; omega
          obtain ⟨a, cap, rfl, _⟩ := own_told hown2 hob2 (by simp)
          have OWN2 : Hid (w2.ownsRow w.heap.size 5 1 (.slice a (bs.length + 1) cap) (bs.length + 1) ((bs ++ [(c : Int)]).map (Value.int .u8))) := hown2
          have hb2 : Below w.heap.size w w2 := (Below.al hb _).grown hgrow (by have := hb.size; simp; omega) (fun j hj => (OWN.out.lt j hj).1)
          clear hown' hown2 hgrow
          go_wp2_with fail
          refine (must_true _).mono ?_
          rintro e w2 ⟨rfl, rfl⟩
          go_wp2_with fail
          exact ⟨⟨l'.drop u, bs ++ [(c : Int)], by rw [HT'.out], hdl, by simp; omega, by rw [List.length_append]; exact HN.out hroom, hob2, hb2, by rw [List.length_append]; exact OWN2.out⟩, HDS.out⟩
        · have HE : R = none := HX.out hroom
          have groom : ¬ ((bs.length : Int) + 1) ≤ 4096 := by omega
          clear HX HN HR
          subst HE
          go_wp2_with fail
          refine (HD.out _).mono ?_
          rintro e wr ⟨rfl, rfl⟩
          go_wp2_with (at_builtin; refine wpList_append_own _ rfl _ _ 22 rfl w.heap.size 5 i0 (.int .u8 0) 1 1 Tryd.underlying22 hi hz0 hz1 hz2 rfl (by decide) _ _ _ rfl (OWN.out.alloc _) ⟨wr.heap.size, 0, none⟩ 1 1 [.int .u8 (c : Int)] rfl rfl ?c1 ?c2 ?c3 ?c4 ?c5 ?_)
          case c1 =>
            intro j u hj
            match j, hj with
            | 0, hj => simp at hj; subst hj; simp [Addr.add]
          case c2 => intro u hu; simp at hu; subst hu; rfl
          case c3 => unfold maxLen; omega
          case c4 => omega
          case c5 => have := hb.size; simp; omega
          intro v' w2 hown' hgrow _
          have hown2 : w2.ownsRow w.heap.size 5 1 v' (bs.length + 1) ((bs ++ [(c : Int)]).map (Value.int .u8)) := by rw [List.map_append]; exact hown'
          have hob2 : Oct (bs ++ [(c : Int)]) := fun n hn => by
            rcases List.mem_append.1 hn with h | h
            · exact hob n h
            · simp at h; omega
          obtain ⟨a, cap, rfl, _⟩ := own_told hown2 hob2 (by simp)
          have hb2 : Below w.heap.size w w2 := (Below.al hb _).grown hgrow (by have := hb.size; simp; omega) (fun j hj => (OWN.out.lt j hj).1)
          clear hown' hown2 hgrow
          go_wp2_with fail
          first
            | refine (must_false _).mono ?_
            | (rw [show decide ((bs.length : Int) + 1 ≤ 4096) = false from by simp; omega]; refine (must_false _).mono ?_)
            | (rw [show decide (bs.length + 1 ≤ 4096) = false from by simp; omega]; refine (must_false _).mono ?_)
          rintro e w2 ⟨rfl, rfl⟩
          go_wp2_with fail
          first | exact ⟨rfl, rfl, hb2⟩ | exact ⟨rfl, ⟨rfl, hb2⟩⟩
#print axioms textRd_any
end Go.Proofs.YtkfmmpolcjbnbaaDoor
