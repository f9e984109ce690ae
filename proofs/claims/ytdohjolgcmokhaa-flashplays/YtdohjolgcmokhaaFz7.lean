/-
  FlashPlays of any number and row of calls.
-/
import Derived.Test.YtdohjolgcmokhaaFz6
import Derived.Test.YtdohjolgcmokhaaFv
namespace Go.Proofs.Ytdohjolgcmokhaa
open Go.RowKit

/-- A flash and the document's: where they lie, and their state. -/
structure PR where
  p : Nat
  B : Nat
  c : Nat
  q : Nat
  D : Nat
  d : Nat
  s : FS
abbrev PR.Is (t : PR) (w : World) (n : Nat) : Prop := IsP w n t.p t.B t.c t.q t.D t.d t.s
/-- The two pairs that are played with. -/
structure PI (w0 wr : World) (n i : Nat) (t t2 : PR) : Prop where
  a : t.Is wr n
  b : t2.Is wr n
  la : t.s.Le i
  lb : t2.s.Le i
  oa : w0.heap.size ≤ t.p ∧ w0.heap.size ≤ t.B ∧ w0.heap.size ≤ t.q ∧ w0.heap.size ≤ t.D
  ob : w0.heap.size ≤ t2.p ∧ w0.heap.size ≤ t2.B ∧ w0.heap.size ≤ t2.q ∧ w0.heap.size ≤ t2.D
  un : Below w0.heap.size w0 wr
  ap : t2 = t ∨ ∀ x ∈ [t.p, t.B, t.q, t.D], x ∉ [t2.p, t2.B, t2.q, t2.D]
theorem PI.tells {w0 wr z : World} {n i : Nat} {t t2 : PR} (h : PI w0 wr n i t t2) (k : Below wr.heap.size wr z) : PI w0 z n i t t2 :=
  ⟨h.a.next k, h.b.next k, h.la, h.lb, h.oa, h.ob, Below.andThen h.un k, h.ap⟩
theorem PI.back {w0 wr : World} {n i : Nat} {t t2 : PR} (h : PI w0 wr n i t t2) : PI w0 wr n (i + 1) t2 t2 :=
  ⟨h.b, h.b, h.lb.more (by omega), h.lb.more (by omega), h.ob, h.ob, h.un, .inl rfl⟩
theorem PI.copy {w0 wr z1 z2 : World} {n i : Nat} {t t2 : PR} (h : PI w0 wr n i t t2) {p B c q D d : Nat} (hp : wr.heap.size ≤ p) (hB : wr.heap.size ≤ B) (hs : IsS z1 p B n c t.s) (b1 : Below wr.heap.size wr z1) (hq : z1.heap.size ≤ q) (hD : z1.heap.size ≤ D) (hd : IsD z2 q D n d t.s) (b2 : Below z1.heap.size z1 z2) : PI w0 z2 n (i + 1) ⟨p, B, c, q, D, d, t.s⟩ t := by
  have l1 := hs.lt
  have l2 := h.a.f.lt
  have l3 := h.a.d.lt
  have u := h.un.size
  have u1 := b1.size
  refine ⟨⟨hs.next b2, hd, by show p ≠ q; omega, by show p ≠ D; omega, by show B ≠ q; omega, by show B ≠ D; omega⟩, h.a.next (Below.andThen b1 b2), h.la.more (by omega), h.la.more (by omega), ⟨by show _ ≤ p; omega, by show _ ≤ B; omega, by show _ ≤ q; omega, by show _ ≤ D; omega⟩, h.oa, Below.andThen h.un (Below.andThen b1 b2), .inr ?_⟩
  intro x hx
  have hx2 : x ∈ [p, B, q, D] := hx
  simp only [List.mem_cons, List.not_mem_nil, or_false] at hx2 ⊢
  clear hx
  omega
theorem PI.one {w0 wr z : World} {n i : Nat} {t t2 : PR} (h : PI w0 wr n i t t2) {s' : FS} (hs : IsP z n t.p t.B t.c t.q t.D t.d s') (hl : s'.Le (i + 1)) (k : Kp [t.p, t.B, t.q, t.D] wr z) : ∃ t3 : PR, t3.p = t2.p ∧ t3.q = t2.q ∧ PI w0 z n (i + 1) ⟨t.p, t.B, t.c, t.q, t.D, t.d, s'⟩ t3 := by
  have un : Below w0.heap.size w0 z := Kp.below h.un k h.un.size (by
    intro x hx
    have := h.oa
    simp only [List.mem_cons, List.not_mem_nil, or_false] at hx
    omega)
  rcases h.ap with e | e
  · subst e
    exact ⟨⟨t2.p, t2.B, t2.c, t2.q, t2.D, t2.d, s'⟩, rfl, rfl, hs, hs, hl, hl, h.oa, h.oa, un, .inl rfl⟩
  · refine ⟨t2, rfl, rfl, hs, h.b.kp k ?_, hl, h.lb.more (by omega), h.oa, h.ob, un, .inr e⟩
    intro x hx
    have := e x hx
    simp only [List.mem_cons, List.not_mem_nil, or_false] at this
    omega

set_option linter.unusedSimpArgs false in
set_option maxHeartbeats 8000000 in
set_option maxRecDepth 100000 in
theorem playsL (z : Int) (a1 : Option Addr) (n1 c1 : Nat) (w : World) (h1 : largeB z n1 = true) :
    Calls Try.prog 3 #[.int .i64 z, .slice a1 n1 c1] w fun e w' => e = .returned (.bool true) ∧ Below w.heap.size w w' := by
  have G1 := fun w => large_any z a1 n1 c1 w
  rw [h1] at G1
  go_enter Try.func3, Try.ntmps3
  go_wp2_with fail
  refine (G1 _).mono ?_
  rintro e w ⟨rfl, rfl⟩
  go_wp2_with fail
  refine (works_any _).mono ?_
  rintro e w' ⟨rfl, hb⟩
  go_wp2_with fail
  go_ret
  exact ⟨rfl, hb⟩

set_option linter.unusedSimpArgs false in
set_option maxHeartbeats 8000000 in
set_option maxRecDepth 100000 in
theorem playsB (z : Int) (a1 : Option Addr) (n1 c1 : Nat) (w : World) (h1 : largeB z n1 = false) (hz : z < 1 ∨ 64 < z) :
    Calls Try.prog 3 #[.int .i64 z, .slice a1 n1 c1] w fun e w' => e = .returned (.bool true) ∧ Below w.heap.size w w' := by
  have G1 := fun w => large_any z a1 n1 c1 w
  rw [h1] at G1
  have NB := fun w => new_bad z w hz
  have ND := fun w => newD_bad z w hz
  clear hz
  go_enter Try.func3, Try.ntmps3
  go_wp2_with fail
  refine (G1 _).mono ?_
  rintro e w ⟨rfl, rfl⟩
  go_wp2_with fail
  refine (NB _).mono ?_
  rintro e w ⟨rfl, rfl⟩
  go_wp2_with fail
  refine (ND _).mono ?_
  rintro e w ⟨rfl, rfl⟩
  go_wp2_with fail
  refine (works_any _).mono ?_
  rintro e w' ⟨rfl, hb⟩
  go_wp2_with fail
  go_ret
  exact ⟨rfl, hb⟩

set_option linter.unusedSimpArgs false in
set_option maxHeartbeats 8000000 in
set_option maxRecDepth 100000 in
theorem playsG (n : Nat) (hn1 : 1 ≤ n) (hn4 : n ≤ 64) (a1 : Option Addr) (n1 c1 : Nat) (w : World) (L : List Opv) (o : IsOps w a1 n1 L) (m1 : n1 ≤ 200) (h1 : largeB n n1 = false) :
    Calls Try.prog 3 #[.int .i64 (n : Int), .slice a1 n1 c1] w fun e w' => e = .returned (.bool true) ∧ Below w.heap.size w w' := by
  have G1 := fun w => large_any n a1 n1 c1 w
  rw [h1] at G1
  have NO := fun w => new_ok n hn1 hn4 w
  have ND := fun w => newD_ok n hn1 hn4 w
  go_enter Try.func3, Try.ntmps3
  go_wp2_with fail
  refine (G1 _).mono ?_
  rintro e w ⟨rfl, rfl⟩
  clear h1 G1
  go_wp2_with fail
  refine (NO w).mono ?_
  rintro e w10 ⟨⟨p, B, rfl, hp, hB, S⟩, b10⟩
  clear NO
  go_wp2_with fail
  refine (ND w10).mono ?_
  rintro e w11 ⟨⟨q, D, d, rfl, hq, hD, SD⟩, b11⟩
  clear ND
  have INI : Hid (PI w w11 n 0 ⟨p, B, n, q, D, d, newS n⟩ ⟨p, B, n, q, D, d, newS n⟩) := by
    have l1 := S.lt
    have u := b10.size
    have H : IsP w11 n p B n q D d (newS n) := ⟨S.next b11, SD, by omega, by omega, by omega, by omega⟩
    have oo : w.heap.size ≤ p ∧ w.heap.size ≤ B ∧ w.heap.size ≤ q ∧ w.heap.size ≤ D := by omega
    exact ⟨H, H, newS_le n, newS_le n, oo, oo, Below.andThen b10 b11, .inl rfl⟩
  clear S SD hp hB hq hD b10 b11
  have lsz := o.size
  go_wp2_with fail
  go_loopw [5, 7, 9, 10, 11] (fun u5 u7 u9 u10 u11 wr => ∃ (i : Nat) (t t2 : PR), i ≤ n1 ∧ u5 = .pointer (some ⟨t.p, 0, none⟩) ∧ u7 = .pointer (some ⟨t.q, 0, none⟩) ∧ u9 = .pointer (some ⟨t2.p, 0, none⟩) ∧ u10 = .pointer (some ⟨t2.q, 0, none⟩) ∧ u11 = .int .i64 i ∧ PI w wr n i t t2)
    (fun _ _ _ _ u _ => n1 - (intOf u).toNat)
  case atStart => exact ⟨0, _, _, Nat.zero_le _, rfl, rfl, rfl, rfl, rfl, INI.out⟩
  case round =>
    clear INI
    obtain ⟨i, t, t2, hi, rfl, rfl, rfl, rfl, rfl, PIr0⟩ := hrel
    have PIr : Hid (PI w wr n i t t2) := PIr0
    have ur := PIr0.un
    clear PIr0
    by_cases hlt : i < n1
    rotate_left
    · have g1 : ¬ (i : Int) < (n1 : Int) := by omega
      have T1 : Calls Try.prog 15 #[.pointer (some ⟨t.p, 0, none⟩), .pointer (some ⟨t.q, 0, none⟩)] wr fun e w' => e = .returned (.bool true) ∧ Below wr.heap.size wr w' := tells_any PIr.out.a
      go_wp2_with fail
      refine T1.mono ?_
      rintro e v1 ⟨rfl, b1⟩
      clear T1
      have PI1 := PIr.out.tells b1
      have T2 : Calls Try.prog 15 #[.pointer (some ⟨t2.p, 0, none⟩), .pointer (some ⟨t2.q, 0, none⟩)] v1 fun e w' => e = .returned (.bool true) ∧ Below v1.heap.size v1 w' := tells_any PI1.b
      have P1 : Hid _ := PI1
      clear PI1
      go_wp2_with fail
      refine T2.mono ?_
      rintro e v2 ⟨rfl, b2⟩
      clear T2
      have PI2 := P1.out.tells b2
      have T3 : Calls Try.prog 15 #[.pointer (some ⟨t.p, 0, none⟩), .pointer (some ⟨t.q, 0, none⟩)] v2 fun e w' => e = .returned (.bool true) ∧ Below v2.heap.size v2 w' := tells_any PI2.a
      have P2 : Hid _ := PI2
      clear PI2
      go_wp2_with fail
      refine T3.mono ?_
      rintro e v3 ⟨rfl, b3⟩
      clear T3
      have B3 : Below w.heap.size w v3 := Below.andThen P2.out.un b3
      clear b1 b2 b3 ur
      go_wp2_with fail
      refine (works_any _).mono ?_
      rintro e w' ⟨rfl, hb⟩
      go_wp2_with fail
      go_ret
      exact ⟨rfl, Below.andThen B3 hb⟩
    have g1 : (i : Int) < (n1 : Int) := by omega
    obtain ⟨x, hx⟩ : ∃ x, L[i]? = some x := ⟨L[i]'(by omega), List.getElem?_eq_getElem _⟩
    have hok2 : x.Ok := o.good x (List.mem_of_getElem? hx)
    obtain ⟨b, off, e2, hc⟩ := (o.next ur).at_ (by omega)
    subst e2
    obtain ⟨c0, c1', c2, c3, c4, c5, c6⟩ := hc i x hx
    clear hc ur
    have c4' : wr.cell? ⟨b, off + i * 7 + 4, none⟩ = some (.int .u8 x.w1) := c4
    have c5' : wr.cell? ⟨b, off + i * 7 + 5, none⟩ = some (.int .u8 x.w2) := c5
    have c6' : wr.cell? ⟨b, off + i * 7 + 6, none⟩ = some (.int .u8 x.w3) := c6
    clear c4 c5 c6
    have km := Int.tmod_eq_emod_of_nonneg (b := 9) hok2.k0
    have m8 : (i : Int).tmod 8 = ((i % 8 : Nat) : Int) := by rw [Int.tmod_eq_emod_of_nonneg (by omega)]; omega
    have hrr : x.k % 9 = 7 ∨ x.k % 9 = 8 ∨ (x.k % 9 ≠ 7 ∧ x.k % 9 ≠ 8) := by omega
    rcases hrr with hrr | hrr | hrr
    · have R1 : x.k.tmod 9 = 7 := by rw [km]; exact hrr
      have CP1 := copy_any PIr.out.a.f
      have CP2 : Hid (∀ z, Below wr.heap.size wr z → Calls Try.prog 13 #[.pointer (some ⟨t.q, 0, none⟩)] z fun e w' => (∃ p' B' cap', e = .returned (.pointer (some ⟨p', 0, none⟩)) ∧ z.heap.size ≤ p' ∧ z.heap.size ≤ B' ∧ IsD w' p' B' n cap' t.s) ∧ Below z.heap.size z w') := fun z hz => copyD_any (PIr.out.a.next hz).d
      clear km hrr c1' c2 c3 c4' c5' c6' hok2
      go_wp2_with fail
      refine CP1.mono ?_
      rintro e z1 ⟨⟨p', B', c', rfl, hp', hB', S'⟩, b1⟩
      clear CP1
      go_wp2_with fail
      refine (CP2.out z1 b1).mono ?_
      rintro e z2 ⟨⟨q', D', d', rfl, hq', hD', DD⟩, b2⟩
      clear CP2
      have PI2 : Hid (PI w z2 n (i + 1) ⟨p', B', c', q', D', d', t.s⟩ t) := PIr.out.copy hp' hB' S' b1 hq' hD' DD b2
      clear PIr S' DD b1 b2 hp' hB' hq' hD'
      clear c0
      by_cases h8 : i % 8 = 0
      · have e8 : (i : Int).tmod 8 = 0 := by rw [m8, h8]; rfl
        have TA : Calls Try.prog 15 #[.pointer (some ⟨p', 0, none⟩), .pointer (some ⟨q', 0, none⟩)] z2 fun e w' => e = .returned (.bool true) ∧ Below z2.heap.size z2 w' := tells_any PI2.out.a
        clear m8
        go_wp2_with fail
        refine TA.mono ?_
        rintro e v ⟨rfl, bv⟩
        clear TA
        have PI3 : Hid _ := PI2.out.tells bv
        clear bv PI2
        go_wp2_with fail
        exact ⟨⟨i + 1, _, _, by omega, rfl, rfl, rfl, rfl, by go_num, PI3.out⟩, by simp [intOf]; omega⟩
      · have e8 : ((i : Int).tmod 8 == 0) = false := by rw [m8]; simp; omega
        have e9 : (((i % 8 : Nat) : Int) == 0) = false := by simp; omega
        clear m8
        go_wp2_with fail
        exact ⟨⟨i + 1, _, _, by omega, rfl, rfl, rfl, rfl, by go_num, PI2.out⟩, by simp [intOf]; omega⟩
    · have R1 : x.k.tmod 9 = 8 := by rw [km]; exact hrr
      have PI2 : Hid (PI w wr n (i + 1) t2 t2) := PIr.out.back
      clear km hrr c1' c2 c3 c4' c5' c6' hok2 PIr
      by_cases h8 : i % 8 = 0
      · have e8 : (i : Int).tmod 8 = 0 := by rw [m8, h8]; rfl
        have TA : Calls Try.prog 15 #[.pointer (some ⟨t2.p, 0, none⟩), .pointer (some ⟨t2.q, 0, none⟩)] wr fun e w' => e = .returned (.bool true) ∧ Below wr.heap.size wr w' := tells_any PI2.out.a
        clear m8
        go_wp2_with fail
        refine TA.mono ?_
        rintro e v ⟨rfl, bv⟩
        clear TA
        have PI3 : Hid _ := PI2.out.tells bv
        clear bv PI2
        go_wp2_with fail
        exact ⟨⟨i + 1, _, _, by omega, rfl, rfl, rfl, rfl, by go_num, PI3.out⟩, by simp [intOf]; omega⟩
      · have e8 : ((i : Int).tmod 8 == 0) = false := by rw [m8]; simp; omega
        have e9 : (((i % 8 : Nat) : Int) == 0) = false := by simp; omega
        clear m8
        go_wp2_with fail
        exact ⟨⟨i + 1, _, _, by omega, rfl, rfl, rfl, rfl, by go_num, PI2.out⟩, by simp [intOf]; omega⟩
    · obtain ⟨n7, n8⟩ := hrr
      have r7' : (x.k % 9 == 7) = false := by simp [n7]
      have r8' : (x.k % 9 == 8) = false := by simp [n8]
      have ON := one_any PIr.out.a PIr.out.la (by omega) x hok2
      clear n7 n8
      generalize x.k % 9 = RK at *
      clear hok2
      go_wp2_with fail
      refine ON.mono ?_
      rintro e z ⟨rfl, s', Hs, hl, kz⟩
      clear ON
      obtain ⟨t3, e3, e4, PI20⟩ := PIr.out.one Hs hl kz
      have PI2 : Hid _ := PI20
      clear PI20 Hs hl kz PIr c0 c1' c2 c3 c4' c5' c6'
      by_cases h8 : i % 8 = 0
      · have e8 : (i : Int).tmod 8 = 0 := by rw [m8, h8]; rfl
        have TA : Calls Try.prog 15 #[.pointer (some ⟨t.p, 0, none⟩), .pointer (some ⟨t.q, 0, none⟩)] z fun e w' => e = .returned (.bool true) ∧ Below z.heap.size z w' := tells_any PI2.out.a
        clear m8
        go_wp2_with fail
        refine TA.mono ?_
        rintro e v ⟨rfl, bv⟩
        clear TA
        have PI3 : Hid _ := PI2.out.tells bv
        clear bv PI2
        go_wp2_with fail
        exact ⟨⟨i + 1, ⟨t.p, t.B, t.c, t.q, t.D, t.d, s'⟩, t3, by omega, rfl, rfl, by rw [e3], by rw [e4], by go_num, PI3.out⟩, by simp [intOf]; omega⟩
      · have e8 : ((i : Int).tmod 8 == 0) = false := by rw [m8]; simp; omega
        have e9 : (((i % 8 : Nat) : Int) == 0) = false := by simp; omega
        clear m8
        go_wp2_with fail
        exact ⟨⟨i + 1, ⟨t.p, t.B, t.c, t.q, t.D, t.d, s'⟩, t3, by omega, rfl, rfl, by rw [e3], by rw [e4], by go_num, PI2.out⟩, by simp [intOf]; omega⟩
#print axioms playsG

theorem flashPlays_any (z : Int) (a1 : Option Addr) (n1 c1 : Nat) (w : World) (L : List Opv) (o : IsOps w a1 n1 L) :
    Calls Try.prog 3 #[.int .i64 z, .slice a1 n1 c1] w fun e w' => e = .returned (.bool true) ∧ Below w.heap.size w w' := by
  cases h1 : largeB z n1 with
  | true => exact playsL z a1 n1 c1 w h1
  | false =>
    by_cases hz : z < 1 ∨ 64 < z
    · exact playsB z a1 n1 c1 w h1 hz
    · obtain ⟨n, rfl⟩ : ∃ n : Nat, z = n := ⟨z.toNat, by omega⟩
      exact playsG n (by omega) (by omega) a1 n1 c1 w L o (large_not h1) h1
#print axioms flashPlays_any
end Go.Proofs.Ytdohjolgcmokhaa
