/-
  A journal that is open, in memory; the law's same and works.
-/
import Derived.Test.YtgpbmccjcjoijaaKta
import Derived.Test.YtgpbmccjcjoijaaKla
import Derived.Test.YtgpbmccjcjoijaaJo
namespace Go.Proofs.Ytgpbmccjcjoijaa
open Go.RowKit

theorem IsJ.next {w w' : World} {S : List Nat} {q p first k : Nat} {j : JS} (h : IsJ w S q p first k j) (hb : Below w.heap.size w w') : IsJ w' S q p first k j := by
  obtain ⟨ss, h, hI⟩ := h
  exact ⟨ss, (hb.block q (lt_of_heap h)).trans h, hI.next hb⟩
theorem IsJ.kp {w w' : World} {S T : List Nat} {q p first k : Nat} {j : JS} (h : IsJ w S q p first k j) (hk : Kp T w w') (hq : q ∉ T) (hT : ∀ x ∈ T, x ∈ S) : IsJ w' S q p first k j := by
  obtain ⟨ss, h, hI⟩ := h
  exact ⟨ss, (hk.block q (lt_of_heap h) hq).trans h, hI.kp hk hT⟩
theorem IsM.next {w w' : World} {d db count : Nat} {all : List Gp} (h : IsM w d db count all) (hb : Below w.heap.size w w') : IsM w' d db count all := h.kp (S := []) (Kp.of hb) (by simp) (by simp)

set_option linter.unusedSimpArgs false in
set_option maxHeartbeats 4000000 in
set_option maxRecDepth 100000 in
theorem same_any {w : World} {q p first k : Nat} {j : JS} {S : List Nat} (hJ : IsJ w S q p first k j) {d db count : Nat} {ml : List Gp} (hM : IsM w d db count ml) (hO : ∀ g ∈ ml, Oct g.bs) :
    Calls Try.prog 19 #[.pointer (some ⟨q, 0, none⟩), .pointer (some ⟨d, 0, none⟩)] w fun e w' => e = .returned (.bool (agr j.all ml)) ∧ Below w.heap.size w w' := by
  have T1 := tells_any hJ hM hO
  have T2 : Hid (∀ U, Below w.heap.size w U → Calls Try.prog 42 #[.pointer (some ⟨q, 0, none⟩), .pointer (some ⟨d, 0, none⟩)] U fun e w' => e = .returned (.bool (agr j.all ml)) ∧ Below U.heap.size U w') := fun U hb => tells_any (hJ.next hb) (hM.next hb) hO
  obtain ⟨b, hb⟩ : ∃ b, agr j.all ml = b := ⟨_, rfl⟩
  simp only [hb] at T1 T2 ⊢
  clear hJ hM hO hb
  cases b with
  | false =>
    go_enter Try.func19, Try.ntmps19
    go_wp2_with fail
    with_reducible refine T1.mono ?_
    rintro e U ⟨rfl, hb⟩
    clear T1
    go_wp2_with fail
    go_ret
    exact ⟨rfl, hb⟩
  | true =>
    go_enter Try.func19, Try.ntmps19
    go_wp2_with fail
    with_reducible refine T1.mono ?_
    rintro e U ⟨rfl, hb⟩
    clear T1
    have T3 := T2.out U hb
    go_wp2_with fail
    with_reducible refine T3.mono ?_
    rintro e V ⟨rfl, hb2⟩
    clear T3
    have HB : Hid (Below w.heap.size w V) := Below.andThen hb hb2
    clear hb hb2
    go_wp2_with fail
    go_ret
    exact ⟨rfl, HB.out⟩

/-- A journal that is open, beside its flash. -/
structure Jat (w : World) (S : List Nat) (q p B n first k : Nat) (j : JS) (s : FS) : Prop where
  js : IsJ w S q p first k j
  op : Open n first k j s
  qp : q ≠ p
  qB : q ≠ B
  pS : p ∈ S
  BS : B ∈ S
  qS : q ∈ S
  lt : ∀ x ∈ S, x < w.heap.size
theorem Jat.next {w w' : World} {S : List Nat} {q p B n first k : Nat} {j : JS} {s : FS} (h : Jat w S q p B n first k j s) (hb : Below w.heap.size w w') : Jat w' S q p B n first k j s :=
  ⟨h.js.next hb, h.op, h.qp, h.qB, h.pS, h.BS, h.qS, fun x hx => Nat.lt_of_lt_of_le (h.lt x hx) hb.size⟩
theorem Jat.opened {w w' : World} {S : List Nat} {q p B n cap first count : Nat} {s : FS} (hF : IsS w p B n cap s) (hb : Below w.heap.size w w') (hq : w.heap.size ≤ q) (hJ : IsJ w' (q :: S) q p first (count / 2) (opn s.cs first (count / 2))) (hc : 2 ≤ count) (hf : first + count ≤ n) (hpS : p ∈ S) (hBS : B ∈ S) (hS : ∀ x ∈ S, x < w.heap.size) : Jat w' (q :: S) q p B n first (count / 2) (opn s.cs first (count / 2)) s :=
  ⟨hJ, (Go.Proofs.Ytgpbmccjcjoijaa.opened hF.oct hF.len hf hc).1, by have := hS p hpS; omega, by have := hS B hBS; omega, by simp [hpS], by simp [hBS], by simp, fun x hx => by
    have hs := hb.size
    rcases List.mem_cons.1 hx with rfl | hx
    · obtain ⟨ss, h, _⟩ := hJ; exact lt_of_heap h
    · have := hS x hx; omega⟩

set_option linter.unusedSimpArgs false in
set_option maxHeartbeats 4000000 in
set_option maxRecDepth 100000 in
theorem works_any (w : World) :
    Calls Try.prog 9 #[] w fun e w' => e = .returned (.bool true) ∧ Below w.heap.size w w' := by
  have NW := new_ok 4 (by omega) (by omega) w
  rw [show ((4 : Nat) : Int) = 4 from rfl] at NW
  go_enter Try.func9, Try.ntmps9
  go_wp2_with fail
  with_reducible refine NW.mono ?_
  rintro e U ⟨⟨p, B, rfl, hp, hB, hF⟩, hb⟩
  clear NW
  have HF : Hid (IsS U p B 4 4 (newS 4)) := hF
  have HU : Hid (Below w.heap.size w U) := hb
  have hlt := hF.lt
  have OP := open_ok hF rfl 0 2 (by omega) (by omega) [p, B] (by simp; omega)
  rw [show ((0 : Nat) : Int) = 0 from rfl, show ((2 : Nat) : Int) = 2 from rfl] at OP
  clear hF hb
  go_wp2_with fail
  with_reducible refine OP.mono ?_
  rintro e V ⟨⟨q, rfl, hq, hJ⟩, hb⟩
  clear OP
  have hA := new_blank 4 0 1
  have HJ : Jat V [q, p, B] q p B 4 0 (2 / 2) (opn (newS 4).cs 0 (2 / 2)) (newS 4) := Jat.opened HF.out hb hq hJ (by omega) (by omega) (by simp) (by simp) (by simp; omega)
  have HJ : Jat V [q, p, B] q p B 4 0 1 (opn (newS 4).cs 0 1) (newS 4) := HJ
  have hcut : (opn (newS 4).cs 0 1).cut = false := (Go.Proofs.Ytgpbmccjcjoijaa.opened (first := 0) (count := 2) HF.out.oct HF.out.len (by omega) (by omega)).2
  have hA : (opn (newS 4).cs 0 1).all = all0 := hA
  generalize (opn (newS 4).cs 0 1) = J at *
  have bX : Below V.heap.size V (V.alloc (.cells #[.int .u8 1, .int .u8 2, .int .u8 3] 5)) := Below.al (Below.refl _ _) _
  have HX := HJ.next bX
  have FX := (HF.out.next hb).next bX
  have le0 : (newS 4).Le 0 := ⟨by decide, by decide, by decide, by decide⟩
  have rX : Row (V.alloc (.cells #[.int .u8 1, .int .u8 2, .int .u8 3] 5)) (some ⟨V.heap.size, 0, none⟩) 3 [1, 2, 3] := row_lit V _ _ [1, 2, 3] 3 rfl (fun x hx => by simp at hx; rcases hx with rfl | rfl | rfl <;> decide) rfl
  have ST := store_any FX 0 le0 (by omega) HX.js HX.op.ok HX.qp HX.qB (by omega) (by omega) (by omega) HX.pS HX.BS HX.qS HX.lt 1 (by omega) [1, 2, 3] (some ⟨V.heap.size, 0, none⟩) 3 3 rX (by omega) (fun _ b off e hm => by cases e; exact absurd (HJ.lt _ hm) (Nat.lt_irrefl _))
  have DN := storeJ_res HX.op hcut rfl 1 (by omega) [1, 2, 3] rX.oct
  have hMS : mStore 1 J.all 1 [1, 2, 3] = (0, take1 all0 ⟨2, 1, [1, 2, 3]⟩) := by rw [hA]; rfl
  rw [hMS] at DN
  generalize storeJ 4 0 1 J 1 [1, 2, 3] (newS 4) = R at *
  rcases DN with ⟨r1, r2, r3, r4, _, r5, r6⟩ | ⟨_, _, _, _, _, _, h⟩
  · have HX2 : Hid (Kp [p, B, q] V (V.alloc (.cells #[.int .u8 1, .int .u8 2, .int .u8 3] 5))) := Kp.of bX
    have HV : Hid (Below w.heap.size w V) := Below.andThen HU.out hb
    have HQ : Hid (w.heap.size ≤ q ∧ w.heap.size ≤ p ∧ w.heap.size ≤ B) := ⟨by have := HU.out.size; omega, hp, hB⟩
    have r1 : R.1 = 0 := r1
    have r2 : R.2.1.all = take1 all0 ⟨2, 1, [1, 2, 3]⟩ := r2
    obtain ⟨E, J2, s2⟩ := R
    dsimp only at r1 r2 r3 r4 r5 r6
    subst r1
    clear hJ hb HX FX rX hMS hA hcut le0 bX r4 r5 r6 r3 HJ
    go_wp2_with fail
    with_reducible refine ST.mono ?_
    rintro e Y ⟨rfl, yF, yJ, yK⟩
    clear ST
    have HY : Hid (Below w.heap.size w Y) := (HX2.out.trans yK).below HV.out HV.out.size (fun x hx => by simp at hx; have := HQ.out; rcases hx with rfl | rfl | rfl <;> omega)
    obtain ⟨ss, hJB, hG⟩ := yJ
    have LY := load_yes hJB hG 1 ⟨true, false, [1, 2, 3]⟩ (by show J2.all[1]? = _; rw [r2]; rfl) rfl
    rw [show ((1 : Nat) : Int) = 1 from rfl, show ([1, 2, 3] : List Int).length = 3 from rfl] at LY
    have HJB : Hid (JB Y q p (J2.f1 0 1) (J2.f2 0 1) 1 J2.bg J2.num J2.en J2.all ss J2.cut) := hJB
    have ql : q < Y.heap.size := lt_of_heap hJB
    have hn1 := hG.n1
    have hn2 := hG.n2
    clear yF yK hJB hG
    go_wp2_with fail
    with_reducible refine LY.mono ?_
    rintro e Z ⟨⟨a, c, rfl, hT⟩, hz⟩
    clear LY
    have HZ : Hid (Below w.heap.size w Z) := Below.andThen HY.out hz
    have CV := hT.row.str c
    rw [show strOfNums [1, 2, 3] = ⟨#[1, 2, 3]⟩ from rfl] at CV
    have GR := groups_any ((hz.block q ql).trans HJB.out) hn1 hn2
    rw [r2, show grpN (take1 all0 ⟨2, 1, [1, 2, 3]⟩) 0 = [1] from rfl] at GR
    clear hT hz
    have e1 : ((⟨#[1, 2, 3]⟩ : ByteArray).toList == (⟨#[1, 2, 3]⟩ : ByteArray).toList) = true := by simp
    go_wp2_with fail
    with_reducible refine GR.mono ?_
    rintro e Q ⟨⟨a', c', rfl, _⟩, hq2⟩
    have HQ2 : Hid (Below w.heap.size w Q) := Below.andThen HZ.out hq2
    clear GR hq2
    go_wp2_with fail
    go_ret
    exact ⟨rfl, HQ2.out⟩
  · cases h
#print axioms same_any
#print axioms works_any
end Go.Proofs.Ytgpbmccjcjoijaa
