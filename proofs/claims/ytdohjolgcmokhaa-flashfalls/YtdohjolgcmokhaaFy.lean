/-
  FlashFalls of any number and row of calls.
-/
import Derived.Test.YtdohjolgcmokhaaFx
import Derived.BigQuiet
namespace Go.Proofs.Ytdohjolgcmokhaa
open Go.RowKit

set_option linter.unusedSimpArgs false in
set_option maxHeartbeats 16000000 in
set_option maxRecDepth 100000 in
theorem fallsL (z : Int) (a1 : Option Addr) (n1 c1 : Nat) (w : World) (h1 : largeB z n1 = true) :
    Calls Try.prog 4 #[.int .i64 z, .slice a1 n1 c1] w fun e w' => e = .returned (.bool true) ∧ Below w.heap.size w w' := by
  have G1 := fun w => large_any z a1 n1 c1 w
  rw [h1] at G1
  go_enter Try.func4, Try.ntmps4
  go_wp2_with fail
  refine (G1 _).mono ?_
  rintro e w ⟨rfl, rfl⟩
  go_wp2_with fail
  refine (works_any _).mono ?_
  rintro e w' ⟨rfl, hb⟩
  go_wp2_with fail
  go_ret
  exact ⟨rfl, hb⟩

set_option linter.unusedSimpArgs false in
set_option maxHeartbeats 16000000 in
set_option maxRecDepth 100000 in
theorem fallsB (z : Int) (a1 : Option Addr) (n1 c1 : Nat) (w : World) (h1 : largeB z n1 = false) (hz : z < 1 ∨ 64 < z) :
    Calls Try.prog 4 #[.int .i64 z, .slice a1 n1 c1] w fun e w' => e = .returned (.bool true) ∧ Below w.heap.size w w' := by
  have G1 := fun w => large_any z a1 n1 c1 w
  rw [h1] at G1
  have NB := fun w => new_bad z w hz
  clear hz
  go_enter Try.func4, Try.ntmps4
  go_wp2_with fail
  refine (G1 _).mono ?_
  rintro e w ⟨rfl, rfl⟩
  go_wp2_with fail
  refine (NB _).mono ?_
  rintro e w ⟨rfl, rfl⟩
  go_wp2_with fail
  refine (works_any _).mono ?_
  rintro e w' ⟨rfl, hb⟩
  go_wp2_with fail
  go_ret
  exact ⟨rfl, hb⟩

theorem row_kp {z y : World} {ab : Option Addr} {N p B : Nat} {C : List Int} (h : Row z ab N C) (k : Kp [p, B] z y) (hn : ∀ b' off', ab = some ⟨b', off', none⟩ → 0 < N → b' ∉ [p, B]) : Row y ab N C where
  size := h.size
  oct := h.oct
  at_ := fun hp => by
    obtain ⟨b, off, e, hc⟩ := h.at_ hp
    exact ⟨b, off, e, fun i hi => k.cell (hc i hi) (hn b off e hp)⟩
theorem row_kp2 {z y : World} {ab : Option Addr} {N p : Nat} {C : List Int} (h : Row z ab N C) (k : Kp [p] z y) (hn : ∀ b' off', ab = some ⟨b', off', none⟩ → 0 < N → b' ≠ p) : Row y ab N C where
  size := h.size
  oct := h.oct
  at_ := fun hp => by
    obtain ⟨b, off, e, hc⟩ := h.at_ hp
    exact ⟨b, off, e, fun i hi => k.cell (hc i hi) (by simpa using hn b off e hp)⟩
theorem of_step {s : FS} (ho : s.of = false) (cs : List Int) : (s.step cs).2.of = true → (s.step cs).1 ≠ 0 := by
  by_cases ha : s.ar = true
  · by_cases hz : s.lf = 0
    · rw [FS.step_cut ha hz]; intro _; show (7 : Int) ≠ 0; decide
    · rw [FS.step_armed ha hz]; intro h; rw [show s.of = true from h] at ho; cases ho
  · rw [FS.step_free (by simpa using ha)]; intro h; rw [show s.of = true from h] at ho; cases ho
theorem of_erase {s : FS} (ho : s.of = false) (n : Nat) (k : Int) : (s.erase n k).2.of = true → (s.erase n k).1 ≠ 0 := by
  unfold FS.erase
  split
  · rename_i h; intro _; exact h
  · exact of_step ho _
theorem of_write {s : FS} (ho : s.of = false) (n : Nat) (k d b0 b1 b2 b3 : Int) : (s.write n k d b0 b1 b2 b3).2.of = true → (s.write n k d b0 b1 b2 b3).1 ≠ 0 := by
  unfold FS.write
  split
  · rename_i h; intro _; exact h
  · split
    · exact of_step ho _
    · intro _; show (51 : Int) ≠ 0; decide
set_option linter.unusedSimpArgs false in
set_option maxHeartbeats 16000000 in
set_option maxRecDepth 100000 in
theorem fallsG (n : Nat) (hn1 : 1 ≤ n) (hn4 : n ≤ 64) (a1 : Option Addr) (n1 c1 : Nat) (w : World) (L : List Opv) (o : IsOps w a1 n1 L) (m1 : n1 ≤ 200) (h1 : largeB n n1 = false) :
    Calls Try.prog 4 #[.int .i64 (n : Int), .slice a1 n1 c1] w fun e w' => e = .returned (.bool true) ∧ Below w.heap.size w w' := by
  have G1 := fun w => large_any n a1 n1 c1 w
  rw [h1] at G1
  have NO := fun w => new_ok n hn1 hn4 w
  obtain ⟨N, hN⟩ : ∃ N, Hid (N = 1024 * n) := ⟨_, rfl⟩
  have NB : Hid (N ≤ 65536) := by show N ≤ 65536; rw [hN.out]; omega
  go_enter Try.func4, Try.ntmps4
  go_wp2_with fail
  refine (G1 _).mono ?_
  rintro e w ⟨rfl, rfl⟩
  clear h1 G1
  go_wp2_with fail
  refine (NO w).mono ?_
  rintro e w11 ⟨⟨p, B, rfl, hp, hB, S⟩, b11⟩
  have lt11 := S.lt
  have ALL : Hid (∀ (z : World) (s : FS), IsS z p B n n s → s.of = false → Calls Try.prog 16 #[.pointer (some ⟨p, 0, none⟩)] z fun e w' => (∃ a c, e = .returned (.slice a N c) ∧ Told z w' a N c s.cs) ∧ Below z.heap.size z w') := fun z s h ho => by have := all_any h ho; rw [← hN.out] at this; exact this
  have ORD : Hid (w.heap.size ≤ p ∧ w.heap.size ≤ B ∧ p < w11.heap.size ∧ B < w11.heap.size) := ⟨by omega, by omega, by omega, by omega⟩
  have INI : Hid (w11.heap.size ≤ w11.heap.size ∧ Below w.heap.size w w11 ∧ ∃ s, IsS w11 p B n n s ∧ s.Le 0 ∧ s.of = false) := ⟨Nat.le_refl _, b11, newS n, S, newS_le n, rfl⟩
  clear S lt11 b11 hp hB NO
  have lsz := o.size
  go_wp2_with fail
  go_loopw [7] (fun u wr => ∃ i : Nat, i ≤ n1 ∧ u = .int .i64 i ∧ w11.heap.size ≤ wr.heap.size ∧ Below w.heap.size w wr ∧ ∃ s, IsS wr p B n n s ∧ s.Le i ∧ s.of = false)
    (fun u _ => n1 - (intOf u).toNat)
  case atStart => exact ⟨0, Nat.zero_le _, rfl, INI.out⟩
  case round =>
    clear INI
    obtain ⟨i, hi, rfl, hsz, ur, s, Sr, hle, hof⟩ := hrel
    have Tr : Hid (IsS wr p B n n s) := Sr
    have HL : Hid (s.Le i) := hle
    have HO : Hid (s.of = false) := hof
    have HZ : Hid (w11.heap.size ≤ wr.heap.size) := hsz
    clear Sr hle hof hsz
    by_cases hlt : i < n1
    rotate_left
    · have g1 : ¬ (i : Int) < (n1 : Int) := by omega
      go_wp2_with fail
      refine (works_any _).mono ?_
      rintro e w' ⟨rfl, hb⟩
      go_wp2_with fail
      go_ret
      exact ⟨rfl, Below.andThen ur hb⟩
    have g1 : (i : Int) < (n1 : Int) := by omega
    obtain ⟨x, hx⟩ : ∃ x, L[i]? = some x := ⟨L[i]'(by omega), List.getElem?_eq_getElem _⟩
    have hok2 : x.Ok := o.good x (List.mem_of_getElem? hx)
    obtain ⟨b, off, e2, hc⟩ := (o.next ur).at_ (by omega)
    subst e2
    obtain ⟨c0, c1', c2, c3, c4, c5, c6⟩ := hc i x hx
    clear hc
    have c4' : wr.cell? ⟨b, off + i * 7 + 4, none⟩ = some (.int .u8 x.w1) := c4
    have c5' : wr.cell? ⟨b, off + i * 7 + 5, none⟩ = some (.int .u8 x.w2) := c5
    have c6' : wr.cell? ⟨b, off + i * 7 + 6, none⟩ = some (.int .u8 x.w3) := c6
    clear c4 c5 c6
    have AL0 : ∀ o, Calls Try.prog 16 #[.pointer (some ⟨p, 0, none⟩)] (wr.alloc o) fun e w' => (∃ a c, e = .returned (.slice a N c) ∧ Told (wr.alloc o) w' a N c s.cs) ∧ Below (wr.alloc o).heap.size (wr.alloc o) w' := fun o => ALL.out _ _ (Tr.out.next (Below.al (Below.refl _ _) o)) HO.out
    go_wp2_with fail
    refine (AL0 _).mono ?_
    rintro e z ⟨⟨ab, cb, rfl, Tz⟩, bz⟩
    clear AL0
    have kz : Kp [] _ z := Kp.of bz
    have x0 := kz.cell (b := wr.heap.size) (o := 0) (v := .int .u8 x.k) (by simp [go_sem]) (by simp)
    have x1 := kz.cell (b := wr.heap.size) (o := 1) (v := .int .i64 x.A) (by simp [go_sem]) (by simp)
    have x2 := kz.cell (b := wr.heap.size) (o := 2) (v := .int .i64 x.B) (by simp [go_sem]) (by simp)
    have x3 := kz.cell (b := wr.heap.size) (o := 3) (v := .int .u8 x.w0) (by simp [go_sem]) (by simp)
    have x4 := kz.cell (b := wr.heap.size) (o := 4) (v := .int .u8 x.w1) (by simp [go_sem]) (by simp)
    have x5 := kz.cell (b := wr.heap.size) (o := 5) (v := .int .u8 x.w2) (by simp [go_sem]) (by simp)
    have x6 := kz.cell (b := wr.heap.size) (o := 6) (v := .int .u8 x.w3) (by simp [go_sem]) (by simp)
    have bz2 : Below wr.heap.size wr z := Below.andThen (Below.al (Below.refl _ _) _) bz
    have Sz : Hid (IsS z p B n n s) := Tr.out.next bz2
    have uz : Below w.heap.size w z := Below.andThen ur bz2
    have zsz : Hid (w11.heap.size ≤ z.heap.size) := by have := HZ.out; have := bz2.size; show _ ≤ _; omega
    have Rz : Hid (Row z ab N s.cs) := Tz.row
    have OC : Hid (Oct s.cs) := Tr.out.oct
    have LC : Hid (s.cs.length = 1024 * n) := Tr.out.len
    have CL0 : Hid (s.cs.length = N) := by show _ = _; rw [hN.out]; exact Tr.out.len
    have nr : Hid (∀ b' off', ab = some ⟨b', off', none⟩ → 0 < N → b' ∉ [p, B]) := fun b' off' e' hp => by
      obtain ⟨g', eg, hg', _⟩ := Tz.own hp
      rw [eg] at e'
      obtain ⟨rfl, _⟩ : g' = b' ∧ (0 : Nat) = off' := by simpa using e'
      have h1 : (wr.alloc (.cells #[.int .u8 x.k, .int .i64 x.A, .int .i64 x.B, .int .u8 x.w0, .int .u8 x.w1, .int .u8 x.w2, .int .u8 x.w3] 34)).heap.size ≤ g' := hg'
      obtain ⟨r1, r2, r3, r4⟩ := ORD.out
      have := HZ.out
      simp at h1 ⊢
      omega
    have nr2 : Hid (∀ b' off', ab = some ⟨b', off', none⟩ → 0 < N → b' ≠ p) := fun b' off' e' hp => by have := nr.out b' off' e' hp; simp at this; exact this.1
    have HZ2 := HZ
    have km := Int.tmod_eq_emod_of_nonneg (b := 9) hok2.k0
    clear Tz bz bz2 kz c0 c1' c2 c3 c4' c5' c6' ur Tr HZ
    have hrr : x.k % 9 = 3 ∨ x.k % 9 = 4 ∨ x.k % 9 = 5 ∨ x.k % 9 = 6 ∨ (x.k % 9 ≠ 3 ∧ x.k % 9 ≠ 4 ∧ x.k % 9 ≠ 5 ∧ x.k % 9 ≠ 6) := by omega
    rcases hrr with hrr | hrr | hrr | hrr | hrr
    · have R1 : x.k.tmod 9 = 3 := by rw [km]; exact hrr
      have CO := erase_any Sz.out (HL.out.ok (by omega)) x.A
      have FP0 : Hid (FP s.cs (s.erase n x.A).2.cs (s.erase n x.A).1 x.A) := fp_erase OC.out LC.out x.A
      have LE0 : Hid ((s.erase n x.A).2.Le (i + 1)) := HL.out.erase n x.A
      have OG : Hid ((s.erase n x.A).2.of = true → (s.erase n x.A).1 ≠ 0) := of_erase HO.out n x.A
      generalize s.erase n x.A = RA at *
      clear km hrr
      go_wp2_with fail
      refine CO.mono ?_
      rintro e y ⟨rfl, Sy, ky⟩
      clear CO
      have kk : Kp [p, B] z y := ky.more (by simp)
      obtain ⟨r1, r2, r3, r4⟩ := ORD.out
      have uy : Below w.heap.size w y := Kp.below uz kk uz.size (by intro j hj; simp at hj; omega)
      have ysz : Hid (w11.heap.size ≤ y.heap.size) := by have := zsz.out; have := kk.size; show _ ≤ _; omega
      have Rb : Hid (Row y ab N s.cs) := row_kp Rz.out kk nr.out
      obtain ⟨C, hC⟩ : ∃ C, Hid (C = s.cs) := ⟨_, rfl⟩
      rw [← hC.out] at Rb CL0
      have CL := CL0
      have x1y : Hid (y.cell? ⟨wr.heap.size, 1, none⟩ = some (.int .i64 x.A)) := kk.cell x1 (by have := HZ2.out; simp; omega)
      have x1z := x1y.out
      obtain ⟨g, hgg⟩ : ∃ g : Int, Hid (g = RA.1) := ⟨_, rfl⟩
      have OFA := off_any Sy
      have Sy2 : Hid (IsS y p B n n RA.2) := Sy
      rw [← hC.out] at FP0
      clear Sy ky kk Rz nr r1 r2 r3 r4 OC LC HL HO Sz uz zsz hC CL0 x0 x1 x2 x3 x4 x5 x6
      rw [← hgg.out] at FP0 OG ⊢
      obtain ⟨er, her⟩ : ∃ er : Int, Hid (er = x.A) := ⟨_, rfl⟩
      rw [← her.out] at FP0 x1z
      cases hq0 : RA.2.of with
      | true =>
        rw [hq0] at OFA
        go_wp2_with fail
        refine OFA.mono ?_
        rintro e y ⟨rfl, rfl⟩
        clear OFA
        have hgn : Hid (g ≠ 0) := OG.out hq0
        have ON := on_any Sy2.out
        go_wp2_with fail
        refine ON.mono ?_
        rintro e y' ⟨rfl, Sy', ky'⟩
        clear ON
        obtain ⟨s2, hs2⟩ : ∃ s2 : FS, s2 = ⟨RA.2.cs, RA.2.st, false, 0, false⟩ := ⟨_, rfl⟩
        have Ty : Hid (IsS y' p B n n s2) := by rw [hs2]; exact Sy'
        have o2 : Hid (s2.of = false) := by rw [hs2]; exact rfl
        have NX : Hid (s2.Le (i + 1)) := by rw [hs2]; exact ⟨LE0.out.st0, LE0.out.st1, by show (0 : Int) ≤ 0; omega, by show (0 : Int) < _; omega⟩
        have FPH : Hid (FP C s2.cs g er) := by rw [hs2]; exact FP0.out
        obtain ⟨r1, r2, r3, r4⟩ := ORD.out
        have uy2 : Below w.heap.size w y' := Kp.below uy ky' uy.size (by intro j hj; simp at hj; omega)
        have ysz2 : Hid (w11.heap.size ≤ y'.heap.size) := by have := ysz.out; have := ky'.size; show _ ≤ _; omega
        have Rb2 : Hid (Row y' ab N C) := row_kp2 Rb.out ky' nr2.out
        have uy := uy2
        have ysz := ysz2
        have Rb := Rb2
        clear Sy' ky' uy2 ysz2 Rb2 Sy2 hq0 hs2 OG LE0 FP0 r1 r2 r3 r4
        have AL := ALL.out _ _ Ty.out o2.out
        go_wp2_with fail
        refine AL.mono ?_
        rintro e v ⟨⟨aa, ca, rfl, Ta⟩, bv0⟩
        clear AL
        have Ra : Hid (Row v aa N s2.cs) := Ta.row
        have Rb2 : Hid (Row v ab N C) := Rb.out.next bv0
        have DONE : Hid (∀ v2, Below v.heap.size v v2 → w11.heap.size ≤ v2.heap.size ∧ Below w.heap.size w v2 ∧ ∃ s, IsS v2 p B n n s ∧ s.Le (i + 1) ∧ s.of = false) := fun v2 h2 => ⟨by have := h2.size; have := bv0.size; have := ysz.out; omega, Below.andThen (Below.andThen uy bv0) h2, s2, (Ty.out.next bv0).next h2, NX.out, o2.out⟩
        have nn : ((N : Int) != (N : Int)) = false := by simp
        clear Ta bv0 Rb Ty uy ysz NX o2
        go_wp2_with fail
        go_loopw [13] (fun u vr => ∃ k : Nat, k ≤ N ∧ u = .int .i64 k ∧ Below v.heap.size v vr)
          (fun u _ => N - (intOf u).toNat)
        case atStart => exact ⟨0, Nat.zero_le _, rfl, Below.refl _ _⟩
        case round =>
          obtain ⟨k, hk, rfl, VB⟩ := hrel
          by_cases hkn : k < N
          rotate_left
          · have gk : ¬ (k : Int) < (N : Int) := by omega
            have DD := DONE.out _ VB
            have D2 : Hid _ := DD
            clear DD DONE Ra Rb2 FPH nn
            go_wp2_with fail
            exact ⟨⟨i + 1, by omega, by go_num, D2.out⟩, by simp [intOf]; omega⟩
          have gk : (k : Int) < (N : Int) := by omega
          have kb : (k : Int) < 65536 := by have := NB.out; omega
          obtain ⟨ga, oa, ea, ha⟩ := (Ra.out.next VB).at_ (by omega)
          obtain ⟨gb, ob, eb, hbb⟩ := (Rb2.out.next VB).at_ (by omega)
          subst ea eb
          have ca1 := ha k hkn
          have cb1 := hbb k hkn
          obtain ⟨f1, f2, f3⟩ := FPH.out.2 k (by rw [CL.out]; exact hkn)
          obtain ⟨Q, hQ⟩ : ∃ Q : Int, Hid (Q = ((k / 1024 : Nat) : Int)) := ⟨_, rfl⟩
          have QK : (k : Int).tdiv 1024 = Q := by rw [hQ.out, Int.tdiv_eq_ediv_of_nonneg (by omega)]; omega
          have QW : IntKind.i64.wrap Q = Q := by rw [hQ.out, IntKind.wrap_i64]; have := hkn; have := NB.out; omega
          rw [← hQ.out] at f2 f3
          generalize s2.cs.getD k 0 = av at *
          generalize C.getD k 0 = bv at *
          clear ha hbb Ra Rb2 FPH DONE nn
          have hg : g ≠ 0 := hgn.out
          by_cases hq : Q = er
          · have e1 : (g != 0) = true := by simp [hg]
            have e2 : (g == 0) = false := by simp [hg]
            obtain rfl : av = bv := f1 hg
            have e3 : (av != av) = false := by simp
            clear hQ f2 f3
            subst hq
            have e4 : (Q != Q) = false := by simp
            have e5 : (Q == Q) = true := by simp
            clear f1
            go_wp2_with fail
            go_quiet (fail)
            go_wp2_with fail
            exact ⟨⟨k + 1, by omega, by go_num, ⟨VB.os, VB.tape, VB.output, VB.size, VB.block⟩⟩, by simp [intOf]; omega⟩
          · have e1 : (g != 0) = true := by simp [hg]
            have e2 : (g == 0) = false := by simp [hg]
            obtain rfl : av = bv := f1 hg
            have e3 : (av != av) = false := by simp
            have e4 : (Q != er) = true := by simp [hq]
            have e5 : (Q == er) = false := by simp [hq]
            have AN := f2 hq
            clear f1
            clear f2 f3
            go_wp2_with fail
            go_quiet (fail)
            go_wp2_with fail
            exact ⟨⟨k + 1, by omega, by go_num, ⟨VB.os, VB.tape, VB.output, VB.size, VB.block⟩⟩, by simp [intOf]; omega⟩
      | false =>
        rw [hq0] at OFA
        go_wp2_with fail
        refine OFA.mono ?_
        rintro e y ⟨rfl, rfl⟩
        clear OFA
        have s2e : ∃ s2 : FS, s2 = RA.2 := ⟨_, rfl⟩
        obtain ⟨s2, hs2⟩ := s2e
        rw [← hs2] at Sy2 LE0 FP0
        have Ty := Sy2
        have o2 : Hid (s2.of = false) := by rw [hs2]; exact hq0
        have NX := LE0
        have FPH := FP0
        clear Sy2 LE0 FP0 hq0 hs2 OG
        have AL := ALL.out _ _ Ty.out o2.out
        go_wp2_with fail
        refine AL.mono ?_
        rintro e v ⟨⟨aa, ca, rfl, Ta⟩, bv0⟩
        clear AL
        have Ra : Hid (Row v aa N s2.cs) := Ta.row
        have Rb2 : Hid (Row v ab N C) := Rb.out.next bv0
        have DONE : Hid (∀ v2, Below v.heap.size v v2 → w11.heap.size ≤ v2.heap.size ∧ Below w.heap.size w v2 ∧ ∃ s, IsS v2 p B n n s ∧ s.Le (i + 1) ∧ s.of = false) := fun v2 h2 => ⟨by have := h2.size; have := bv0.size; have := ysz.out; omega, Below.andThen (Below.andThen uy bv0) h2, s2, (Ty.out.next bv0).next h2, NX.out, o2.out⟩
        have nn : ((N : Int) != (N : Int)) = false := by simp
        clear Ta bv0 Rb Ty uy ysz NX o2
        go_wp2_with fail
        go_loopw [13] (fun u vr => ∃ k : Nat, k ≤ N ∧ u = .int .i64 k ∧ Below v.heap.size v vr)
          (fun u _ => N - (intOf u).toNat)
        case atStart => exact ⟨0, Nat.zero_le _, rfl, Below.refl _ _⟩
        case round =>
          obtain ⟨k, hk, rfl, VB⟩ := hrel
          by_cases hkn : k < N
          rotate_left
          · have gk : ¬ (k : Int) < (N : Int) := by omega
            have DD := DONE.out _ VB
            have D2 : Hid _ := DD
            clear DD DONE Ra Rb2 FPH nn
            go_wp2_with fail
            exact ⟨⟨i + 1, by omega, by go_num, D2.out⟩, by simp [intOf]; omega⟩
          have gk : (k : Int) < (N : Int) := by omega
          have kb : (k : Int) < 65536 := by have := NB.out; omega
          obtain ⟨ga, oa, ea, ha⟩ := (Ra.out.next VB).at_ (by omega)
          obtain ⟨gb, ob, eb, hbb⟩ := (Rb2.out.next VB).at_ (by omega)
          subst ea eb
          have ca1 := ha k hkn
          have cb1 := hbb k hkn
          obtain ⟨f1, f2, f3⟩ := FPH.out.2 k (by rw [CL.out]; exact hkn)
          obtain ⟨Q, hQ⟩ : ∃ Q : Int, Hid (Q = ((k / 1024 : Nat) : Int)) := ⟨_, rfl⟩
          have QK : (k : Int).tdiv 1024 = Q := by rw [hQ.out, Int.tdiv_eq_ediv_of_nonneg (by omega)]; omega
          have QW : IntKind.i64.wrap Q = Q := by rw [hQ.out, IntKind.wrap_i64]; have := hkn; have := NB.out; omega
          rw [← hQ.out] at f2 f3
          generalize s2.cs.getD k 0 = av at *
          generalize C.getD k 0 = bv at *
          clear ha hbb Ra Rb2 FPH DONE nn
          by_cases hg : g = 0
          · by_cases hq : Q = er
            · have e1 : (g != 0) = false := by simp [hg]
              have e2 : (g == 0) = true := by simp [hg]
              have e6 : av = 255 := f3 hg hq
              subst e6
              clear hQ f2 f3
              subst hq
              have e4 : (Q != Q) = false := by simp
              have e5 : (Q == Q) = true := by simp
              clear f1
              go_wp2_with fail
              go_quiet (fail)
              go_wp2_with fail
              exact ⟨⟨k + 1, by omega, by go_num, ⟨VB.os, VB.tape, VB.output, VB.size, VB.block⟩⟩, by simp [intOf]; omega⟩
            · have e1 : (g != 0) = false := by simp [hg]
              have e2 : (g == 0) = true := by simp [hg]
              have e4 : (Q != er) = true := by simp [hq]
              have e5 : (Q == er) = false := by simp [hq]
              have AN := f2 hq
              clear f1
              clear f2 f3
              go_wp2_with fail
              go_quiet (fail)
              go_wp2_with fail
              exact ⟨⟨k + 1, by omega, by go_num, ⟨VB.os, VB.tape, VB.output, VB.size, VB.block⟩⟩, by simp [intOf]; omega⟩
          · by_cases hq : Q = er
            · have e1 : (g != 0) = true := by simp [hg]
              have e2 : (g == 0) = false := by simp [hg]
              obtain rfl : av = bv := f1 hg
              have e3 : (av != av) = false := by simp
              clear hQ f2 f3
              subst hq
              have e4 : (Q != Q) = false := by simp
              have e5 : (Q == Q) = true := by simp
              clear f1
              go_wp2_with fail
              go_quiet (fail)
              go_wp2_with fail
              exact ⟨⟨k + 1, by omega, by go_num, ⟨VB.os, VB.tape, VB.output, VB.size, VB.block⟩⟩, by simp [intOf]; omega⟩
            · have e1 : (g != 0) = true := by simp [hg]
              have e2 : (g == 0) = false := by simp [hg]
              obtain rfl : av = bv := f1 hg
              have e3 : (av != av) = false := by simp
              have e4 : (Q != er) = true := by simp [hq]
              have e5 : (Q == er) = false := by simp [hq]
              have AN := f2 hq
              clear f1
              clear f2 f3
              go_wp2_with fail
              go_quiet (fail)
              go_wp2_with fail
              exact ⟨⟨k + 1, by omega, by go_num, ⟨VB.os, VB.tape, VB.output, VB.size, VB.block⟩⟩, by simp [intOf]; omega⟩
    · have R1 : x.k.tmod 9 = 4 := by rw [km]; exact hrr
      have CO := cut_any Sz.out x.A
      clear km hrr
      go_wp2_with fail
      refine CO.mono ?_
      rintro e y ⟨rfl, Sy, ky⟩
      clear CO
      have kk : Kp [p, B] z y := ky.more (by simp)
      obtain ⟨r1, r2, r3, r4⟩ := ORD.out
      have uy : Below w.heap.size w y := Kp.below uz kk uz.size (by intro j hj; simp at hj; omega)
      have ysz : Hid (w11.heap.size ≤ y.heap.size) := by have := zsz.out; have := kk.size; show _ ≤ _; omega
      have Rb : Hid (Row y ab N s.cs) := row_kp Rz.out kk nr.out
      obtain ⟨C, hC⟩ : ∃ C, Hid (C = s.cs) := ⟨_, rfl⟩
      rw [← hC.out] at Rb CL0
      have CL := CL0
      obtain ⟨s2, hs2⟩ : ∃ s2 : FS, s2 = ⟨s.cs, s.st, decide (0 ≤ x.A), max x.A 0, s.of⟩ := ⟨_, rfl⟩
      have Ty : Hid (IsS y p B n n s2) := by rw [hs2]; exact Sy
      have o2 : Hid (s2.of = false) := by rw [hs2]; exact HO.out
      have NX : Hid (s2.Le (i + 1)) := by rw [hs2]; exact ⟨HL.out.st0, by have := HL.out.st1; show s.st ≤ _; omega, by show 0 ≤ max x.A 0; omega, by have := hok2.a1; show max x.A 0 < _; omega⟩
      obtain ⟨g, hgz⟩ : ∃ g : Int, Hid (g = 0) := ⟨0, rfl⟩
      obtain ⟨er, her⟩ : ∃ er : Int, Hid (er = -1) := ⟨_, rfl⟩
      have FPH : Hid (FP C s2.cs g er) := by rw [hs2, hC.out, her.out]; exact fp_same OC.out (.inr (by decide))
      have OFA := off_any Ty.out
      rw [o2.out] at OFA
      clear Sy ky kk Rz nr r1 r2 r3 r4 OC LC HL HO Sz uz zsz hC CL0 hok2 x0 x1 x2 x3 x4 x5 x6 hs2
      go_wp2_with fail
      refine OFA.mono ?_
      rintro e y ⟨rfl, rfl⟩
      clear OFA
      have AL := ALL.out _ _ Ty.out o2.out
      go_wp2_with fail
      refine AL.mono ?_
      rintro e v ⟨⟨aa, ca, rfl, Ta⟩, bv0⟩
      clear AL
      have Ra : Hid (Row v aa N s2.cs) := Ta.row
      have Rb2 : Hid (Row v ab N C) := Rb.out.next bv0
      have DONE : Hid (∀ v2, Below v.heap.size v v2 → w11.heap.size ≤ v2.heap.size ∧ Below w.heap.size w v2 ∧ ∃ s, IsS v2 p B n n s ∧ s.Le (i + 1) ∧ s.of = false) := fun v2 h2 => ⟨by have := h2.size; have := bv0.size; have := ysz.out; omega, Below.andThen (Below.andThen uy bv0) h2, s2, (Ty.out.next bv0).next h2, NX.out, o2.out⟩
      have nn : ((N : Int) != (N : Int)) = false := by simp
      clear Ta bv0 Rb Ty uy ysz NX o2
      go_wp2_with fail
      go_loopw [13] (fun u vr => ∃ k : Nat, k ≤ N ∧ u = .int .i64 k ∧ Below v.heap.size v vr)
        (fun u _ => N - (intOf u).toNat)
      case atStart => exact ⟨0, Nat.zero_le _, rfl, Below.refl _ _⟩
      case round =>
        obtain ⟨k, hk, rfl, VB⟩ := hrel
        by_cases hkn : k < N
        rotate_left
        · have gk : ¬ (k : Int) < (N : Int) := by omega
          have DD := DONE.out _ VB
          have D2 : Hid _ := DD
          clear DD DONE Ra Rb2 FPH nn
          go_wp2_with fail
          exact ⟨⟨i + 1, by omega, by go_num, D2.out⟩, by simp [intOf]; omega⟩
        have gk : (k : Int) < (N : Int) := by omega
        have kb : (k : Int) < 65536 := by have := NB.out; omega
        obtain ⟨ga, oa, ea, ha⟩ := (Ra.out.next VB).at_ (by omega)
        obtain ⟨gb, ob, eb, hbb⟩ := (Rb2.out.next VB).at_ (by omega)
        subst ea eb
        have ca1 := ha k hkn
        have cb1 := hbb k hkn
        obtain ⟨f1, f2, f3⟩ := FPH.out.2 k (by rw [CL.out]; exact hkn)
        obtain ⟨Q, hQ⟩ : ∃ Q : Int, Hid (Q = ((k / 1024 : Nat) : Int)) := ⟨_, rfl⟩
        have QK : (k : Int).tdiv 1024 = Q := by rw [hQ.out, Int.tdiv_eq_ediv_of_nonneg (by omega)]; omega
        have QW : IntKind.i64.wrap Q = Q := by rw [hQ.out, IntKind.wrap_i64]; have := hkn; have := NB.out; omega
        rw [← hQ.out] at f2 f3
        generalize s2.cs.getD k 0 = av at *
        generalize C.getD k 0 = bv at *
        clear ha hbb Ra Rb2 FPH DONE nn
        have hg : g = 0 := hgz.out
        have hE : er = -1 := her.out
        subst hE
        have hq : Q ≠ (-1 : Int) := by rw [hQ.out]; omega
        subst hg
        skip
        have e4 : (Q != (-1 : Int)) = true := by simp [hq]
        have e5 : (Q == (-1 : Int)) = false := by simp [hq]
        have AN := f2 hq
        clear f1
        clear f2 f3
        go_wp2_with fail
        go_quiet (fail)
        go_wp2_with fail
        exact ⟨⟨k + 1, by omega, by go_num, ⟨VB.os, VB.tape, VB.output, VB.size, VB.block⟩⟩, by simp [intOf]; omega⟩
    · have R1 : x.k.tmod 9 = 5 := by rw [km]; exact hrr
      have CO := on_any Sz.out
      clear km hrr
      go_wp2_with fail
      refine CO.mono ?_
      rintro e y ⟨rfl, Sy, ky⟩
      clear CO
      have kk : Kp [p, B] z y := ky.more (by simp)
      obtain ⟨r1, r2, r3, r4⟩ := ORD.out
      have uy : Below w.heap.size w y := Kp.below uz kk uz.size (by intro j hj; simp at hj; omega)
      have ysz : Hid (w11.heap.size ≤ y.heap.size) := by have := zsz.out; have := kk.size; show _ ≤ _; omega
      have Rb : Hid (Row y ab N s.cs) := row_kp Rz.out kk nr.out
      obtain ⟨C, hC⟩ : ∃ C, Hid (C = s.cs) := ⟨_, rfl⟩
      rw [← hC.out] at Rb CL0
      have CL := CL0
      obtain ⟨s2, hs2⟩ : ∃ s2 : FS, s2 = ⟨s.cs, s.st, false, 0, false⟩ := ⟨_, rfl⟩
      have Ty : Hid (IsS y p B n n s2) := by rw [hs2]; exact Sy
      have o2 : Hid (s2.of = false) := by rw [hs2]; exact rfl
      have NX : Hid (s2.Le (i + 1)) := by rw [hs2]; exact ⟨HL.out.st0, by have := HL.out.st1; show s.st ≤ _; omega, by show (0 : Int) ≤ 0; omega, by show (0 : Int) < _; omega⟩
      obtain ⟨g, hgz⟩ : ∃ g : Int, Hid (g = 0) := ⟨0, rfl⟩
      obtain ⟨er, her⟩ : ∃ er : Int, Hid (er = -1) := ⟨_, rfl⟩
      have FPH : Hid (FP C s2.cs g er) := by rw [hs2, hC.out, her.out]; exact fp_same OC.out (.inr (by decide))
      have OFA := off_any Ty.out
      rw [o2.out] at OFA
      clear Sy ky kk Rz nr r1 r2 r3 r4 OC LC HL HO Sz uz zsz hC CL0 hok2 x0 x1 x2 x3 x4 x5 x6 hs2
      go_wp2_with fail
      refine OFA.mono ?_
      rintro e y ⟨rfl, rfl⟩
      clear OFA
      have AL := ALL.out _ _ Ty.out o2.out
      go_wp2_with fail
      refine AL.mono ?_
      rintro e v ⟨⟨aa, ca, rfl, Ta⟩, bv0⟩
      clear AL
      have Ra : Hid (Row v aa N s2.cs) := Ta.row
      have Rb2 : Hid (Row v ab N C) := Rb.out.next bv0
      have DONE : Hid (∀ v2, Below v.heap.size v v2 → w11.heap.size ≤ v2.heap.size ∧ Below w.heap.size w v2 ∧ ∃ s, IsS v2 p B n n s ∧ s.Le (i + 1) ∧ s.of = false) := fun v2 h2 => ⟨by have := h2.size; have := bv0.size; have := ysz.out; omega, Below.andThen (Below.andThen uy bv0) h2, s2, (Ty.out.next bv0).next h2, NX.out, o2.out⟩
      have nn : ((N : Int) != (N : Int)) = false := by simp
      clear Ta bv0 Rb Ty uy ysz NX o2
      go_wp2_with fail
      go_loopw [13] (fun u vr => ∃ k : Nat, k ≤ N ∧ u = .int .i64 k ∧ Below v.heap.size v vr)
        (fun u _ => N - (intOf u).toNat)
      case atStart => exact ⟨0, Nat.zero_le _, rfl, Below.refl _ _⟩
      case round =>
        obtain ⟨k, hk, rfl, VB⟩ := hrel
        by_cases hkn : k < N
        rotate_left
        · have gk : ¬ (k : Int) < (N : Int) := by omega
          have DD := DONE.out _ VB
          have D2 : Hid _ := DD
          clear DD DONE Ra Rb2 FPH nn
          go_wp2_with fail
          exact ⟨⟨i + 1, by omega, by go_num, D2.out⟩, by simp [intOf]; omega⟩
        have gk : (k : Int) < (N : Int) := by omega
        have kb : (k : Int) < 65536 := by have := NB.out; omega
        obtain ⟨ga, oa, ea, ha⟩ := (Ra.out.next VB).at_ (by omega)
        obtain ⟨gb, ob, eb, hbb⟩ := (Rb2.out.next VB).at_ (by omega)
        subst ea eb
        have ca1 := ha k hkn
        have cb1 := hbb k hkn
        obtain ⟨f1, f2, f3⟩ := FPH.out.2 k (by rw [CL.out]; exact hkn)
        obtain ⟨Q, hQ⟩ : ∃ Q : Int, Hid (Q = ((k / 1024 : Nat) : Int)) := ⟨_, rfl⟩
        have QK : (k : Int).tdiv 1024 = Q := by rw [hQ.out, Int.tdiv_eq_ediv_of_nonneg (by omega)]; omega
        have QW : IntKind.i64.wrap Q = Q := by rw [hQ.out, IntKind.wrap_i64]; have := hkn; have := NB.out; omega
        rw [← hQ.out] at f2 f3
        generalize s2.cs.getD k 0 = av at *
        generalize C.getD k 0 = bv at *
        clear ha hbb Ra Rb2 FPH DONE nn
        have hg : g = 0 := hgz.out
        have hE : er = -1 := her.out
        subst hE
        have hq : Q ≠ (-1 : Int) := by rw [hQ.out]; omega
        subst hg
        skip
        have e4 : (Q != (-1 : Int)) = true := by simp [hq]
        have e5 : (Q == (-1 : Int)) = false := by simp [hq]
        have AN := f2 hq
        clear f1
        clear f2 f3
        go_wp2_with fail
        go_quiet (fail)
        go_wp2_with fail
        exact ⟨⟨k + 1, by omega, by go_num, ⟨VB.os, VB.tape, VB.output, VB.size, VB.block⟩⟩, by simp [intOf]; omega⟩
    · have R1 : x.k.tmod 9 = 6 := by rw [km]; exact hrr
      have CO := word_some Sz.out x.A x.B
      clear km hrr
      go_wp2_with fail
      refine CO.mono ?_
      rintro e y ⟨⟨cw, ew, rfl⟩, by0⟩
      clear CO
      have ky : Kp [p] z y := Kp.of by0
      have Sy : IsS y p B n n s := Sz.out.next by0
      clear by0
      have kk : Kp [p, B] z y := ky.more (by simp)
      obtain ⟨r1, r2, r3, r4⟩ := ORD.out
      have uy : Below w.heap.size w y := Kp.below uz kk uz.size (by intro j hj; simp at hj; omega)
      have ysz : Hid (w11.heap.size ≤ y.heap.size) := by have := zsz.out; have := kk.size; show _ ≤ _; omega
      have Rb : Hid (Row y ab N s.cs) := row_kp Rz.out kk nr.out
      obtain ⟨C, hC⟩ : ∃ C, Hid (C = s.cs) := ⟨_, rfl⟩
      rw [← hC.out] at Rb CL0
      have CL := CL0
      obtain ⟨s2, hs2⟩ : ∃ s2 : FS, s2 = s := ⟨_, rfl⟩
      have Ty : Hid (IsS y p B n n s2) := by rw [hs2]; exact Sy
      have o2 : Hid (s2.of = false) := by rw [hs2]; exact HO.out
      have NX : Hid (s2.Le (i + 1)) := by rw [hs2]; exact HL.out.more (by omega)
      obtain ⟨g, hgz⟩ : ∃ g : Int, Hid (g = 0) := ⟨0, rfl⟩
      obtain ⟨er, her⟩ : ∃ er : Int, Hid (er = -1) := ⟨_, rfl⟩
      have FPH : Hid (FP C s2.cs g er) := by rw [hs2, hC.out, her.out]; exact fp_same OC.out (.inr (by decide))
      have OFA := off_any Ty.out
      rw [o2.out] at OFA
      clear Sy ky kk Rz nr r1 r2 r3 r4 OC LC HL HO Sz uz zsz hC CL0 hok2 x0 x1 x2 x3 x4 x5 x6 hs2
      go_wp2_with fail
      refine OFA.mono ?_
      rintro e y ⟨rfl, rfl⟩
      clear OFA
      have AL := ALL.out _ _ Ty.out o2.out
      go_wp2_with fail
      refine AL.mono ?_
      rintro e v ⟨⟨aa, ca, rfl, Ta⟩, bv0⟩
      clear AL
      have Ra : Hid (Row v aa N s2.cs) := Ta.row
      have Rb2 : Hid (Row v ab N C) := Rb.out.next bv0
      have DONE : Hid (∀ v2, Below v.heap.size v v2 → w11.heap.size ≤ v2.heap.size ∧ Below w.heap.size w v2 ∧ ∃ s, IsS v2 p B n n s ∧ s.Le (i + 1) ∧ s.of = false) := fun v2 h2 => ⟨by have := h2.size; have := bv0.size; have := ysz.out; omega, Below.andThen (Below.andThen uy bv0) h2, s2, (Ty.out.next bv0).next h2, NX.out, o2.out⟩
      have nn : ((N : Int) != (N : Int)) = false := by simp
      clear Ta bv0 Rb Ty uy ysz NX o2
      go_wp2_with fail
      go_loopw [13] (fun u vr => ∃ k : Nat, k ≤ N ∧ u = .int .i64 k ∧ Below v.heap.size v vr)
        (fun u _ => N - (intOf u).toNat)
      case atStart => exact ⟨0, Nat.zero_le _, rfl, Below.refl _ _⟩
      case round =>
        obtain ⟨k, hk, rfl, VB⟩ := hrel
        by_cases hkn : k < N
        rotate_left
        · have gk : ¬ (k : Int) < (N : Int) := by omega
          have DD := DONE.out _ VB
          have D2 : Hid _ := DD
          clear DD DONE Ra Rb2 FPH nn
          go_wp2_with fail
          exact ⟨⟨i + 1, by omega, by go_num, D2.out⟩, by simp [intOf]; omega⟩
        have gk : (k : Int) < (N : Int) := by omega
        have kb : (k : Int) < 65536 := by have := NB.out; omega
        obtain ⟨ga, oa, ea, ha⟩ := (Ra.out.next VB).at_ (by omega)
        obtain ⟨gb, ob, eb, hbb⟩ := (Rb2.out.next VB).at_ (by omega)
        subst ea eb
        have ca1 := ha k hkn
        have cb1 := hbb k hkn
        obtain ⟨f1, f2, f3⟩ := FPH.out.2 k (by rw [CL.out]; exact hkn)
        obtain ⟨Q, hQ⟩ : ∃ Q : Int, Hid (Q = ((k / 1024 : Nat) : Int)) := ⟨_, rfl⟩
        have QK : (k : Int).tdiv 1024 = Q := by rw [hQ.out, Int.tdiv_eq_ediv_of_nonneg (by omega)]; omega
        have QW : IntKind.i64.wrap Q = Q := by rw [hQ.out, IntKind.wrap_i64]; have := hkn; have := NB.out; omega
        rw [← hQ.out] at f2 f3
        generalize s2.cs.getD k 0 = av at *
        generalize C.getD k 0 = bv at *
        clear ha hbb Ra Rb2 FPH DONE nn
        have hg : g = 0 := hgz.out
        have hE : er = -1 := her.out
        subst hE
        have hq : Q ≠ (-1 : Int) := by rw [hQ.out]; omega
        subst hg
        skip
        have e4 : (Q != (-1 : Int)) = true := by simp [hq]
        have e5 : (Q == (-1 : Int)) = false := by simp [hq]
        have AN := f2 hq
        clear f1
        clear f2 f3
        go_wp2_with fail
        go_quiet (fail)
        go_wp2_with fail
        exact ⟨⟨k + 1, by omega, by go_num, ⟨VB.os, VB.tape, VB.output, VB.size, VB.block⟩⟩, by simp [intOf]; omega⟩
    · obtain ⟨n3, n4, n5, n6⟩ := hrr
      have r3' : (x.k % 9 == 3) = false := by simp [n3]
      have r4' : (x.k % 9 == 4) = false := by simp [n4]
      have r5' : (x.k % 9 == 5) = false := by simp [n5]
      have r6' : (x.k % 9 == 6) = false := by simp [n6]
      clear n3 n4 n5 n6
      have CO := write_any Sz.out (HL.out.ok (by omega)) x.A x.B x.w0 x.w1 x.w2 x.w3 hok2.ow
      have FP0 : Hid (FP s.cs (s.write n x.A x.B x.w0 x.w1 x.w2 x.w3).2.cs (s.write n x.A x.B x.w0 x.w1 x.w2 x.w3).1 (-1)) := fp_write OC.out LC.out x.A x.B x.w0 x.w1 x.w2 x.w3 hok2.ow
      have LE0 : Hid ((s.write n x.A x.B x.w0 x.w1 x.w2 x.w3).2.Le (i + 1)) := HL.out.write n x.A x.B x.w0 x.w1 x.w2 x.w3
      have OG : Hid ((s.write n x.A x.B x.w0 x.w1 x.w2 x.w3).2.of = true → (s.write n x.A x.B x.w0 x.w1 x.w2 x.w3).1 ≠ 0) := of_write HO.out n x.A x.B x.w0 x.w1 x.w2 x.w3
      generalize s.write n x.A x.B x.w0 x.w1 x.w2 x.w3 = RA at *
      generalize x.k % 9 = RK at *
      go_wp2_with fail
      refine CO.mono ?_
      rintro e y ⟨rfl, Sy, ky⟩
      clear CO
      have kk : Kp [p, B] z y := ky.more (by simp)
      obtain ⟨r1, r2, r3, r4⟩ := ORD.out
      have uy : Below w.heap.size w y := Kp.below uz kk uz.size (by intro j hj; simp at hj; omega)
      have ysz : Hid (w11.heap.size ≤ y.heap.size) := by have := zsz.out; have := kk.size; show _ ≤ _; omega
      have Rb : Hid (Row y ab N s.cs) := row_kp Rz.out kk nr.out
      obtain ⟨C, hC⟩ : ∃ C, Hid (C = s.cs) := ⟨_, rfl⟩
      rw [← hC.out] at Rb CL0
      have CL := CL0
      obtain ⟨g, hgg⟩ : ∃ g : Int, Hid (g = RA.1) := ⟨_, rfl⟩
      have OFA := off_any Sy
      have Sy2 : Hid (IsS y p B n n RA.2) := Sy
      rw [← hC.out] at FP0
      clear Sy ky kk Rz nr r1 r2 r3 r4 OC LC HL HO Sz uz zsz hC CL0 x0 x1 x2 x3 x4 x5 x6
      rw [← hgg.out] at FP0 OG ⊢
      cases hq0 : RA.2.of with
      | true =>
        rw [hq0] at OFA
        go_wp2_with fail
        refine OFA.mono ?_
        rintro e y ⟨rfl, rfl⟩
        clear OFA
        have hgn : Hid (g ≠ 0) := OG.out hq0
        have ON := on_any Sy2.out
        go_wp2_with fail
        refine ON.mono ?_
        rintro e y' ⟨rfl, Sy', ky'⟩
        clear ON
        obtain ⟨s2, hs2⟩ : ∃ s2 : FS, s2 = ⟨RA.2.cs, RA.2.st, false, 0, false⟩ := ⟨_, rfl⟩
        have Ty : Hid (IsS y' p B n n s2) := by rw [hs2]; exact Sy'
        have o2 : Hid (s2.of = false) := by rw [hs2]; exact rfl
        have NX : Hid (s2.Le (i + 1)) := by rw [hs2]; exact ⟨LE0.out.st0, LE0.out.st1, by show (0 : Int) ≤ 0; omega, by show (0 : Int) < _; omega⟩
        have FPH : Hid (FP C s2.cs g (-1)) := by rw [hs2]; exact FP0.out
        obtain ⟨r1, r2, r3, r4⟩ := ORD.out
        have uy2 : Below w.heap.size w y' := Kp.below uy ky' uy.size (by intro j hj; simp at hj; omega)
        have ysz2 : Hid (w11.heap.size ≤ y'.heap.size) := by have := ysz.out; have := ky'.size; show _ ≤ _; omega
        have Rb2 : Hid (Row y' ab N C) := row_kp2 Rb.out ky' nr2.out
        have uy := uy2
        have ysz := ysz2
        have Rb := Rb2
        clear Sy' ky' uy2 ysz2 Rb2 Sy2 hq0 hs2 OG LE0 FP0 r1 r2 r3 r4
        have AL := ALL.out _ _ Ty.out o2.out
        go_wp2_with fail
        refine AL.mono ?_
        rintro e v ⟨⟨aa, ca, rfl, Ta⟩, bv0⟩
        clear AL
        have Ra : Hid (Row v aa N s2.cs) := Ta.row
        have Rb2 : Hid (Row v ab N C) := Rb.out.next bv0
        have DONE : Hid (∀ v2, Below v.heap.size v v2 → w11.heap.size ≤ v2.heap.size ∧ Below w.heap.size w v2 ∧ ∃ s, IsS v2 p B n n s ∧ s.Le (i + 1) ∧ s.of = false) := fun v2 h2 => ⟨by have := h2.size; have := bv0.size; have := ysz.out; omega, Below.andThen (Below.andThen uy bv0) h2, s2, (Ty.out.next bv0).next h2, NX.out, o2.out⟩
        have nn : ((N : Int) != (N : Int)) = false := by simp
        clear Ta bv0 Rb Ty uy ysz NX o2
        go_wp2_with fail
        go_loopw [13] (fun u vr => ∃ k : Nat, k ≤ N ∧ u = .int .i64 k ∧ Below v.heap.size v vr)
          (fun u _ => N - (intOf u).toNat)
        case atStart => exact ⟨0, Nat.zero_le _, rfl, Below.refl _ _⟩
        case round =>
          obtain ⟨k, hk, rfl, VB⟩ := hrel
          by_cases hkn : k < N
          rotate_left
          · have gk : ¬ (k : Int) < (N : Int) := by omega
            have DD := DONE.out _ VB
            have D2 : Hid _ := DD
            clear DD DONE Ra Rb2 FPH nn
            go_wp2_with fail
            exact ⟨⟨i + 1, by omega, by go_num, D2.out⟩, by simp [intOf]; omega⟩
          have gk : (k : Int) < (N : Int) := by omega
          have kb : (k : Int) < 65536 := by have := NB.out; omega
          obtain ⟨ga, oa, ea, ha⟩ := (Ra.out.next VB).at_ (by omega)
          obtain ⟨gb, ob, eb, hbb⟩ := (Rb2.out.next VB).at_ (by omega)
          subst ea eb
          have ca1 := ha k hkn
          have cb1 := hbb k hkn
          obtain ⟨f1, f2, f3⟩ := FPH.out.2 k (by rw [CL.out]; exact hkn)
          obtain ⟨Q, hQ⟩ : ∃ Q : Int, Hid (Q = ((k / 1024 : Nat) : Int)) := ⟨_, rfl⟩
          have QK : (k : Int).tdiv 1024 = Q := by rw [hQ.out, Int.tdiv_eq_ediv_of_nonneg (by omega)]; omega
          have QW : IntKind.i64.wrap Q = Q := by rw [hQ.out, IntKind.wrap_i64]; have := hkn; have := NB.out; omega
          rw [← hQ.out] at f2 f3
          generalize s2.cs.getD k 0 = av at *
          generalize C.getD k 0 = bv at *
          clear ha hbb Ra Rb2 FPH DONE nn
          have hg : g ≠ 0 := hgn.out
          have hq : Q ≠ (-1 : Int) := by rw [hQ.out]; omega
          have e1 : (g != 0) = true := by simp [hg]
          have e2 : (g == 0) = false := by simp [hg]
          obtain rfl : av = bv := f1 hg
          have e3 : (av != av) = false := by simp
          have e4 : (Q != (-1 : Int)) = true := by simp [hq]
          have e5 : (Q == (-1 : Int)) = false := by simp [hq]
          have AN := f2 hq
          clear f1
          clear f2 f3
          go_wp2_with fail
          go_quiet (fail)
          go_wp2_with fail
          exact ⟨⟨k + 1, by omega, by go_num, ⟨VB.os, VB.tape, VB.output, VB.size, VB.block⟩⟩, by simp [intOf]; omega⟩
      | false =>
        rw [hq0] at OFA
        go_wp2_with fail
        refine OFA.mono ?_
        rintro e y ⟨rfl, rfl⟩
        clear OFA
        have s2e : ∃ s2 : FS, s2 = RA.2 := ⟨_, rfl⟩
        obtain ⟨s2, hs2⟩ := s2e
        rw [← hs2] at Sy2 LE0 FP0
        have Ty := Sy2
        have o2 : Hid (s2.of = false) := by rw [hs2]; exact hq0
        have NX := LE0
        have FPH := FP0
        clear Sy2 LE0 FP0 hq0 hs2 OG
        have AL := ALL.out _ _ Ty.out o2.out
        go_wp2_with fail
        refine AL.mono ?_
        rintro e v ⟨⟨aa, ca, rfl, Ta⟩, bv0⟩
        clear AL
        have Ra : Hid (Row v aa N s2.cs) := Ta.row
        have Rb2 : Hid (Row v ab N C) := Rb.out.next bv0
        have DONE : Hid (∀ v2, Below v.heap.size v v2 → w11.heap.size ≤ v2.heap.size ∧ Below w.heap.size w v2 ∧ ∃ s, IsS v2 p B n n s ∧ s.Le (i + 1) ∧ s.of = false) := fun v2 h2 => ⟨by have := h2.size; have := bv0.size; have := ysz.out; omega, Below.andThen (Below.andThen uy bv0) h2, s2, (Ty.out.next bv0).next h2, NX.out, o2.out⟩
        have nn : ((N : Int) != (N : Int)) = false := by simp
        clear Ta bv0 Rb Ty uy ysz NX o2
        go_wp2_with fail
        go_loopw [13] (fun u vr => ∃ k : Nat, k ≤ N ∧ u = .int .i64 k ∧ Below v.heap.size v vr)
          (fun u _ => N - (intOf u).toNat)
        case atStart => exact ⟨0, Nat.zero_le _, rfl, Below.refl _ _⟩
        case round =>
          obtain ⟨k, hk, rfl, VB⟩ := hrel
          by_cases hkn : k < N
          rotate_left
          · have gk : ¬ (k : Int) < (N : Int) := by omega
            have DD := DONE.out _ VB
            have D2 : Hid _ := DD
            clear DD DONE Ra Rb2 FPH nn
            go_wp2_with fail
            exact ⟨⟨i + 1, by omega, by go_num, D2.out⟩, by simp [intOf]; omega⟩
          have gk : (k : Int) < (N : Int) := by omega
          have kb : (k : Int) < 65536 := by have := NB.out; omega
          obtain ⟨ga, oa, ea, ha⟩ := (Ra.out.next VB).at_ (by omega)
          obtain ⟨gb, ob, eb, hbb⟩ := (Rb2.out.next VB).at_ (by omega)
          subst ea eb
          have ca1 := ha k hkn
          have cb1 := hbb k hkn
          obtain ⟨f1, f2, f3⟩ := FPH.out.2 k (by rw [CL.out]; exact hkn)
          obtain ⟨Q, hQ⟩ : ∃ Q : Int, Hid (Q = ((k / 1024 : Nat) : Int)) := ⟨_, rfl⟩
          have QK : (k : Int).tdiv 1024 = Q := by rw [hQ.out, Int.tdiv_eq_ediv_of_nonneg (by omega)]; omega
          have QW : IntKind.i64.wrap Q = Q := by rw [hQ.out, IntKind.wrap_i64]; have := hkn; have := NB.out; omega
          rw [← hQ.out] at f2 f3
          generalize s2.cs.getD k 0 = av at *
          generalize C.getD k 0 = bv at *
          clear ha hbb Ra Rb2 FPH DONE nn
          by_cases hg : g = 0
          · have hq : Q ≠ (-1 : Int) := by rw [hQ.out]; omega
            have e1 : (g != 0) = false := by simp [hg]
            have e2 : (g == 0) = true := by simp [hg]
            have e4 : (Q != (-1 : Int)) = true := by simp [hq]
            have e5 : (Q == (-1 : Int)) = false := by simp [hq]
            have AN := f2 hq
            clear f1
            clear f2 f3
            go_wp2_with fail
            go_quiet (fail)
            go_wp2_with fail
            exact ⟨⟨k + 1, by omega, by go_num, ⟨VB.os, VB.tape, VB.output, VB.size, VB.block⟩⟩, by simp [intOf]; omega⟩
          · have hq : Q ≠ (-1 : Int) := by rw [hQ.out]; omega
            have e1 : (g != 0) = true := by simp [hg]
            have e2 : (g == 0) = false := by simp [hg]
            obtain rfl : av = bv := f1 hg
            have e3 : (av != av) = false := by simp
            have e4 : (Q != (-1 : Int)) = true := by simp [hq]
            have e5 : (Q == (-1 : Int)) = false := by simp [hq]
            have AN := f2 hq
            clear f1
            clear f2 f3
            go_wp2_with fail
            go_quiet (fail)
            go_wp2_with fail
            exact ⟨⟨k + 1, by omega, by go_num, ⟨VB.os, VB.tape, VB.output, VB.size, VB.block⟩⟩, by simp [intOf]; omega⟩
#print axioms fallsG

theorem flashFalls_any (z : Int) (a1 : Option Addr) (n1 c1 : Nat) (w : World) (L : List Opv) (o : IsOps w a1 n1 L) :
    Calls Try.prog 4 #[.int .i64 z, .slice a1 n1 c1] w fun e w' => e = .returned (.bool true) ∧ Below w.heap.size w w' := by
  cases h1 : largeB z n1 with
  | true => exact fallsL z a1 n1 c1 w h1
  | false =>
    by_cases hz : z < 1 ∨ 64 < z
    · exact fallsB z a1 n1 c1 w h1 hz
    · obtain ⟨n, rfl⟩ : ∃ n : Nat, z = n := ⟨z.toNat, by omega⟩
      exact fallsG n (by omega) (by omega) a1 n1 c1 w L o (large_not h1) h1
#print axioms flashFalls_any
end Go.Proofs.Ytdohjolgcmokhaa
