/-
  The walks of Load and Groups.
-/
import Derived.Test.YtgpbmccjcjoijaaJp
namespace Go.Proofs.Ytgpbmccjcjoijaa
open Go.RowKit

set_option linter.unusedSimpArgs false in
set_option maxHeartbeats 4000000 in
set_option maxRecDepth 100000 in
theorem load_big {w : World} (q : Nat) (i : Nat) (hi : 16 ≤ i) :
    Calls Try.prog 29 #[.pointer (some ⟨q, 0, none⟩), .int .u8 (i : Int)] w fun e w' => e = .returned (.tuple #[.slice none 0 0, .bool false]) ∧ w' = w := by
  have g1 : (16 : Int) ≤ i := by omega
  go_enter Try.func29, Try.ntmps29
  go_wp2_with fail
  go_ret2
  exact ⟨rfl, rfl⟩

set_option linter.unusedSimpArgs false in
set_option maxHeartbeats 4000000 in
set_option maxRecDepth 100000 in
theorem load_no {w : World} {q p f1 f2 k : Nat} {bg : Bool} {num : Int} {en : Nat} {all : List Gp} {ss : List SL} {cut : Bool} (h : JB w q p f1 f2 k bg num en all ss cut) (h1 : all.length = 16) (h2 : ss.length = 16) (i : Nat) (g : Gp) (hg : all[i]? = some g) (ht : g.there = false) :
    Calls Try.prog 29 #[.pointer (some ⟨q, 0, none⟩), .int .u8 (i : Int)] w fun e w' => e = .returned (.tuple #[.slice none 0 0, .bool false]) ∧ w' = w := by
  have hi : i < 16 := by
    by_cases hh : i < all.length
    · omega
    · simp [hh] at hg
  have c0 := (h.grp h1 h2 i g (ss[i]'(by omega)) hg (by simp [h2, hi])).1
  rw [ht] at c0
  have g1 : ¬ (16 : Int) ≤ i := by omega
  have g2 : (i : Int) < 16 := by omega
  have g3 : (0 : Int) ≤ i := by omega
  clear h hg ht
  go_enter Try.func29, Try.ntmps29
  go_wp2_with fail
  go_ret2
  exact ⟨rfl, rfl⟩

set_option linter.unusedSimpArgs false in
set_option maxHeartbeats 4000000 in
set_option maxRecDepth 100000 in
theorem load_yes {w : World} {q p f1 f2 k : Nat} {bg : Bool} {num : Int} {en : Nat} {all : List Gp} {ss : List SL} {cut : Bool} {S : List Nat} (h : JB w q p f1 f2 k bg num en all ss cut) (hG : IsG w S all ss) (i : Nat) (g : Gp) (hg : all[i]? = some g) (ht : g.there = true) :
    Calls Try.prog 29 #[.pointer (some ⟨q, 0, none⟩), .int .u8 (i : Int)] w fun e w' => (∃ a c, e = .returned (.tuple #[.slice a g.bs.length c, .bool true]) ∧ Told w w' a g.bs.length c g.bs) ∧ Below w.heap.size w w' := by
  have h1 := hG.n1
  have h2 := hG.n2
  have hi : i < 16 := by
    by_cases hh : i < all.length
    · omega
    · simp [hh] at hg
  obtain ⟨c0, _, c2⟩ := h.grp h1 h2 i g (ss[i]'(by omega)) hg (by simp [h2, hi])
  obtain ⟨r, l, _⟩ := hG.row i g (ss[i]'(by omega)) hg (by simp [h2, hi])
  rw [ht] at c0
  have CL := clone8_any (ss[i]'(by omega)).1 g.bs.length (ss[i]'(by omega)).2 g.bs w r (by omega)
  have g1 : ¬ (16 : Int) ≤ i := by omega
  have g2 : (i : Int) < 16 := by omega
  have g3 : (0 : Int) ≤ i := by omega
  generalize (ss[i]'(by omega)) = sl at *
  clear h hg ht hG r
  go_enter Try.func29, Try.ntmps29
  go_wp2_with fail
  with_reducible refine CL.mono ?_
  rintro e z ⟨⟨a, c, rfl, hT⟩, hz⟩
  clear CL
  go_wp2_with fail
  go_ret2
  exact ⟨⟨_, _, rfl, hT⟩, hz⟩

/-- The numbers of the groups that are there. -/
def grpN : List Gp → Nat → List Int
  | [], _ => []
  | g :: gs, i => if g.there then (i : Int) :: grpN gs (i + 1) else grpN gs (i + 1)
theorem grpN_snoc (l : List Gp) (g : Gp) (i : Nat) : grpN (l ++ [g]) i = grpN l i ++ if g.there then [((i + l.length : Nat) : Int)] else [] := by
  induction l generalizing i with
  | nil => simp [grpN]
  | cons x l ih =>
    show (if x.there then (i : Int) :: grpN (l ++ [g]) (i + 1) else grpN (l ++ [g]) (i + 1)) = (if x.there then (i : Int) :: grpN l (i + 1) else grpN l (i + 1)) ++ _
    rw [ih]
    have e : i + 1 + l.length = i + (x :: l).length := by simp; omega
    rw [e]
    split <;> simp
theorem grpN_len (l : List Gp) (i : Nat) : (grpN l i).length ≤ l.length := by
  induction l generalizing i with
  | nil => simp [grpN]
  | cons x l ih =>
    have := ih (i + 1)
    unfold grpN
    split <;> simp <;> omega
theorem grpN_oct (l : List Gp) (i : Nat) (h : i + l.length ≤ 256) : Oct (grpN l i) := by
  induction l generalizing i with
  | nil => exact oct_nil
  | cons x l ih =>
    have h' : i + 1 + l.length ≤ 256 := by simp at h; omega
    unfold grpN
    split
    · intro n hn
      rcases List.mem_cons.1 hn with rfl | hn
      · omega
      · exact ih (i + 1) h' n hn
    · exact ih (i + 1) h'

set_option linter.unusedSimpArgs false in
set_option maxHeartbeats 4000000 in
set_option maxRecDepth 100000 in
theorem groups_any {w : World} {q p f1 f2 k : Nat} {bg : Bool} {num : Int} {en : Nat} {all : List Gp} {ss : List SL} {cut : Bool} (h : JB w q p f1 f2 k bg num en all ss cut) (h1 : all.length = 16) (h2 : ss.length = 16) :
    Calls Try.prog 28 #[.pointer (some ⟨q, 0, none⟩)] w fun e w' => (∃ a c, e = .returned (.slice a (grpN all 0).length c) ∧ Told w w' a (grpN all 0).length c (grpN all 0)) ∧ Below w.heap.size w w' := by
  obtain ⟨i0, hi0, hz0, hz1, hz2⟩ := info_parts info8
  have IX : ∀ (i : Nat) (hi : i < 16) (W : World), (Instr.index 68 (.agg (gflat all ss).toArray) (.int .i64 (i : Int))).run Try.prog W = .ok (.agg #[.bool (all[i]'(by omega)).there, .bool (all[i]'(by omega)).marked, .slice (ss[i]'(by omega)).1 (all[i]'(by omega)).bs.length (ss[i]'(by omega)).2]) W := fun i hi W => idx68 all ss h1 h2 i _ _ (by simp [h1, hi]) (by simp [h2, hi]) W
  have LD := h.load68 h1 h2
  obtain ⟨C, hC⟩ : ∃ C, Hid ((gflat all ss).toArray = C) := ⟨_, rfl⟩
  rw [hC.out] at LD
  simp only [hC.out] at IX
  clear h
  go_enter Try.func28, Try.ntmps28
  go_wp2_with (refine wpList_load_by rfl 68 (.tmp 10) rfl _ _ rfl LD ?_)
  go_loopw [3, 12] (fun v u wr => ∃ i : Nat, i ≤ 16 ∧ u = .int .i64 i ∧ Below w.heap.size w wr ∧ wr.ownsRow w.heap.size 5 1 v (grpN (all.take i) 0).length ((grpN (all.take i) 0).map (Value.int .u8))) (fun _ u _ => 16 - (intOf u).toNat)
  case atStart => exact ⟨0, by omega, rfl, Below.refl _ _, by simp [grpN], .inl ⟨rfl, rfl⟩⟩
  case round =>
    obtain ⟨i, hi, rfl, hb, hown⟩ := hrel
    have OWN : Hid (wr.ownsRow w.heap.size 5 1 u3 (grpN (all.take i) 0).length ((grpN (all.take i) 0).map (Value.int .u8))) := hown
    clear hown
    have HB : Hid (Below w.heap.size w wr) := hb
    by_cases hlt : i < 16
    · have g1 : (i : Int) < 16 := by omega
      have IXi := IX i hlt
      have hTl : (all.take i).length = i := by simp; omega
      have SN : Hid (grpN (all.take (i + 1)) 0 = grpN (all.take i) 0 ++ if (all[i]'(by omega)).there then [(i : Int)] else []) := by
        show _ = _
        rw [List.take_succ_eq_append_getElem (by omega), grpN_snoc, hTl, Nat.zero_add]
      have hN := grpN_len (all.take i) 0
      rw [hTl] at hN
      generalize (all[i]'(by omega)) = g at *
      generalize (ss[i]'(by omega)) = sl at *
      obtain ⟨th, mk, bs⟩ := g
      dsimp only at *
      generalize grpN (all.take i) 0 = L at *
      clear IX hTl
      cases th with
      | false =>
        have e : Hid (grpN (all.take (i + 1)) 0 = L) := by show _ = _; rw [SN.out]; simp
        clear SN
        go_wp2_with fail
        refine ⟨⟨i + 1, by omega, by go_num, Below.al HB.out _, ?_⟩, by simp [intOf]; omega⟩
        rw [e.out]
        exact own_next OWN.out (Below.al (Below.refl _ _) _)
      | true =>
        have e : Hid (grpN (all.take (i + 1)) 0 = L ++ [(i : Int)]) := by show _ = _; rw [SN.out]; simp
        clear SN
        have gW : IntKind.u8.wrap (i : Int) = i := by simp [IntKind.wrap, IntKind.bits, IntKind.signed]; omega
        have hb2 : Below w.heap.size w ((wr.alloc (.cells #[.bool true, .bool mk, .slice sl.1 bs.length sl.2] 66)).alloc (.cells #[.int .u8 (i : Int)] 5)) := Below.al (Below.al HB.out _) _
        have OZ : Hid (((wr.alloc (.cells #[.bool true, .bool mk, .slice sl.1 bs.length sl.2] 66)).alloc (.cells #[.int .u8 (i : Int)] 5)).ownsRow w.heap.size 5 1 u3 L.length (L.map (Value.int .u8))) := own_next OWN.out (Below.al (Below.al (Below.refl _ _) _) _)
        have NW : ∀ j u, ([Value.int .u8 (i : Int)])[j]? = some u → ((wr.alloc (.cells #[.bool true, .bool mk, .slice sl.1 bs.length sl.2] 66)).alloc (.cells #[.int .u8 (i : Int)] 5)).cell? ((⟨wr.heap.size + 1, 0, none⟩ : Addr).add j) = some u := fun j u hu => by
          have hj : j = 0 := by
            by_cases hj : j = 0
            · exact hj
            · rw [List.getElem?_eq_none (by simp; omega)] at hu; cases hu
          subst hj
          obtain rfl : Value.int .u8 (i : Int) = u := by simpa using hu
          simp [Addr.add]
        have o1 : ∀ v ∈ [Value.int .u8 (i : Int)], v.oneCell' = true := fun v hv => by
          obtain rfl : v = Value.int .u8 (i : Int) := by simpa using hv
          rfl
        clear OWN
        go_wp2_with (at_builtin; refine wpList_append_own _ rfl _ _ 33 rfl w.heap.size 5 i0 (.int .u8 0) 1 1 Try.underlying33 hi0 hz0 hz1 hz2 rfl (by decide) _ _ _ rfl OZ.out ⟨wr.heap.size + 1, 0, none⟩ 1 1 [Value.int .u8 (i : Int)] rfl rfl NW o1 (by unfold maxLen; omega) (by omega) hb2.size ?_)
        intro v' w2 hown' hgrow _
        have hb3 : Below w.heap.size w w2 := hb2.grown hgrow hb2.size (fun j hj => (OZ.out.lt j hj).1)
        have OWN2 : Hid (w2.ownsRow w.heap.size 5 1 v' (grpN (all.take (i + 1)) 0).length ((grpN (all.take (i + 1)) 0).map (Value.int .u8))) := by
          rw [e.out]
          have e9 : (L ++ [(i : Int)]).length = L.length + 1 := by simp
          have e8 : (L ++ [(i : Int)]).map (Value.int .u8) = L.map (Value.int .u8) ++ [Value.int .u8 (i : Int)] := by simp
          rw [e9, e8]
          exact hown'
        clear hown' hgrow NW o1 OZ hb2
        go_wp2_with fail
        exact ⟨⟨i + 1, by omega, by go_num, hb3, OWN2.out⟩, by simp [intOf]; omega⟩
    · obtain rfl : i = 16 := by omega
      have e : all.take 16 = all := List.take_of_length_le (by omega)
      have O2 := OWN.out
      rw [e] at O2
      obtain ⟨a, cap, rfl, ht⟩ := own_told O2 (grpN_oct all 0 (by omega)) rfl
      clear O2 OWN e
      go_wp2_with fail
      go_ret
      exact ⟨⟨_, _, rfl, ht⟩, HB.out⟩
#print axioms load_yes
#print axioms groups_any
end Go.Proofs.Ytgpbmccjcjoijaa
