/-
  The walk of FlashCopies.
-/
import Derived.Test.YtdohjolgcmokhaaFs
import Derived.Test.YtdohjolgcmokhaaFt
import Derived.Test.YtdohjolgcmokhaaFn
import Derived.Test.YtdohjolgcmokhaaFo
namespace Go.Proofs.Ytdohjolgcmokhaa
open Go.RowKit

set_option linter.unusedSimpArgs false in
set_option maxHeartbeats 8000000 in
set_option maxRecDepth 100000 in
theorem copiesL1 (z : Int) (a1 : Option Addr) (n1 c1 : Nat) (a2 : Option Addr) (n2 c2 : Nat) (a3 : Option Addr) (n3 c3 : Nat) (w : World) (h1 : largeB z n1 = true) :
    Calls Try.prog 6 #[.int .i64 z, .slice a1 n1 c1, .slice a2 n2 c2, .slice a3 n3 c3] w fun e w' => e = .returned (.bool true) ∧ Below w.heap.size w w' := by
  have G1 := fun w => large_any z a1 n1 c1 w
  rw [h1] at G1
  go_enter Try.func6, Try.ntmps6
  go_wp2_with fail
  refine (G1 _).mono ?_
  rintro e w ⟨rfl, rfl⟩
  go_wp2_with fail
  refine (works_any _).mono ?_
  rintro e w' ⟨rfl, hb⟩
  go_wp2_with fail
  go_ret
  exact ⟨rfl, hb⟩

set_option linter.unusedSimpArgs false in
set_option maxHeartbeats 8000000 in
set_option maxRecDepth 100000 in
theorem copiesL2 (z : Int) (a1 : Option Addr) (n1 c1 : Nat) (a2 : Option Addr) (n2 c2 : Nat) (a3 : Option Addr) (n3 c3 : Nat) (w : World) (h1 : largeB z n1 = false) (h2 : largeB z n2 = true) :
    Calls Try.prog 6 #[.int .i64 z, .slice a1 n1 c1, .slice a2 n2 c2, .slice a3 n3 c3] w fun e w' => e = .returned (.bool true) ∧ Below w.heap.size w w' := by
  have G1 := fun w => large_any z a1 n1 c1 w
  rw [h1] at G1
  have G2 := fun w => large_any z a2 n2 c2 w
  rw [h2] at G2
  go_enter Try.func6, Try.ntmps6
  go_wp2_with fail
  refine (G1 _).mono ?_
  rintro e w ⟨rfl, rfl⟩
  go_wp2_with fail
  refine (G2 _).mono ?_
  rintro e w ⟨rfl, rfl⟩
  go_wp2_with fail
  refine (works_any _).mono ?_
  rintro e w' ⟨rfl, hb⟩
  go_wp2_with fail
  go_ret
  exact ⟨rfl, hb⟩

set_option linter.unusedSimpArgs false in
set_option maxHeartbeats 8000000 in
set_option maxRecDepth 100000 in
theorem copiesL3 (z : Int) (a1 : Option Addr) (n1 c1 : Nat) (a2 : Option Addr) (n2 c2 : Nat) (a3 : Option Addr) (n3 c3 : Nat) (w : World) (h1 : largeB z n1 = false) (h2 : largeB z n2 = false) (h3 : largeB z n3 = true) :
    Calls Try.prog 6 #[.int .i64 z, .slice a1 n1 c1, .slice a2 n2 c2, .slice a3 n3 c3] w fun e w' => e = .returned (.bool true) ∧ Below w.heap.size w w' := by
  have G1 := fun w => large_any z a1 n1 c1 w
  rw [h1] at G1
  have G2 := fun w => large_any z a2 n2 c2 w
  rw [h2] at G2
  have G3 := fun w => large_any z a3 n3 c3 w
  rw [h3] at G3
  go_enter Try.func6, Try.ntmps6
  go_wp2_with fail
  refine (G1 _).mono ?_
  rintro e w ⟨rfl, rfl⟩
  go_wp2_with fail
  refine (G2 _).mono ?_
  rintro e w ⟨rfl, rfl⟩
  go_wp2_with fail
  refine (G3 _).mono ?_
  rintro e w ⟨rfl, rfl⟩
  go_wp2_with fail
  refine (works_any _).mono ?_
  rintro e w' ⟨rfl, hb⟩
  go_wp2_with fail
  go_ret
  exact ⟨rfl, hb⟩

set_option linter.unusedSimpArgs false in
set_option maxHeartbeats 8000000 in
set_option maxRecDepth 100000 in
theorem copiesB (z : Int) (a1 : Option Addr) (n1 c1 : Nat) (a2 : Option Addr) (n2 c2 : Nat) (a3 : Option Addr) (n3 c3 : Nat) (w : World) (h1 : largeB z n1 = false) (h2 : largeB z n2 = false) (h3 : largeB z n3 = false) (hz : z < 1 ∨ 64 < z) :
    Calls Try.prog 6 #[.int .i64 z, .slice a1 n1 c1, .slice a2 n2 c2, .slice a3 n3 c3] w fun e w' => e = .returned (.bool true) ∧ Below w.heap.size w w' := by
  have G1 := fun w => large_any z a1 n1 c1 w
  rw [h1] at G1
  have G2 := fun w => large_any z a2 n2 c2 w
  rw [h2] at G2
  have G3 := fun w => large_any z a3 n3 c3 w
  rw [h3] at G3
  have NB := fun w => new_bad z w hz
  clear hz
  go_enter Try.func6, Try.ntmps6
  go_wp2_with fail
  refine (G1 _).mono ?_
  rintro e w ⟨rfl, rfl⟩
  go_wp2_with fail
  refine (G2 _).mono ?_
  rintro e w ⟨rfl, rfl⟩
  go_wp2_with fail
  refine (G3 _).mono ?_
  rintro e w ⟨rfl, rfl⟩
  go_wp2_with fail
  refine (NB _).mono ?_
  rintro e w ⟨rfl, rfl⟩
  go_wp2_with fail
  refine (NB _).mono ?_
  rintro e w ⟨rfl, rfl⟩
  go_wp2_with fail
  refine (NB _).mono ?_
  rintro e w ⟨rfl, rfl⟩
  go_wp2_with fail
  refine (works_any _).mono ?_
  rintro e w' ⟨rfl, hb⟩
  go_wp2_with fail
  go_ret
  exact ⟨rfl, hb⟩

theorem slice_ops (b off len cp i : Nat) (h : i < len) (hc : len ≤ cp) (w : World) : (Instr.slice 22 (.slice (some ⟨b, off, none⟩) len cp) (some (.int .i64 (i : Int))) (some (.int .i64 ((i : Int) + 1))) none).run Try.prog w = .ok (.slice (some ⟨b, off + i * 7, none⟩) 1 (cp - i)) w := by
  have g1 : (i : Int) + 1 ≤ (cp : Int) := by omega
  have nk : ¬ cp = i := by omega
  have ik : i ≤ cp := by omega
  go_simp
  all_goals try omega
theorem newS_le (n : Nat) : (newS n).Le 0 := ⟨Int.le_refl 0, Int.le_refl 0, Int.le_refl 0, by show (0 : Int) < 9223372036854775808; decide⟩
theorem take_more {α : Type} (l : List α) (i : Nat) (h : l.length ≤ i) : l.take (i + 1) = l.take i := by rw [List.take_of_length_le (by omega), List.take_of_length_le h]
theorem ops_one (n : Nat) (s : FS) (x : Opv) : s.ops n [x] = s.op n x := rfl

set_option linter.unusedSimpArgs false in
set_option maxHeartbeats 8000000 in
set_option maxRecDepth 100000 in
theorem copiesG (n : Nat) (hn1 : 1 ≤ n) (hn4 : n ≤ 64) (a1 : Option Addr) (n1 c1 : Nat) (a2 : Option Addr) (n2 c2 : Nat) (a3 : Option Addr) (n3 c3 : Nat) (w : World) (L1 L2 L3 : List Opv) (o1 : IsOps w a1 n1 L1) (o2 : IsOps w a2 n2 L2) (o3 : IsOps w a3 n3 L3) (k2 : n2 ≤ c2) (k3 : n3 ≤ c3) (m1 : n1 ≤ 200) (m2 : n2 ≤ 200) (m3 : n3 ≤ 200) (h1 : largeB n n1 = false) (h2 : largeB n n2 = false) (h3 : largeB n n3 = false) :
    Calls Try.prog 6 #[.int .i64 (n : Int), .slice a1 n1 c1, .slice a2 n2 c2, .slice a3 n3 c3] w fun e w' => e = .returned (.bool true) ∧ Below w.heap.size w w' := by
  have G1 := fun w => large_any n a1 n1 c1 w
  rw [h1] at G1
  have G2 := fun w => large_any n a2 n2 c2 w
  rw [h2] at G2
  have G3 := fun w => large_any n a3 n3 c3 w
  rw [h3] at G3
  have NO := fun w => new_ok n hn1 hn4 w
  have s1le : ((newS n).ops n L1).Le 200 := (FS.Le.ops n L1 _ 0 (newS_le n) o1.good).more (by rw [o1.size]; omega)
  go_enter Try.func6, Try.ntmps6
  go_wp2_with fail
  refine (G1 _).mono ?_
  rintro e w ⟨rfl, rfl⟩
  go_wp2_with fail
  refine (G2 _).mono ?_
  rintro e w ⟨rfl, rfl⟩
  go_wp2_with fail
  refine (G3 _).mono ?_
  rintro e w ⟨rfl, rfl⟩
  clear h1 h2 h3 G1 G2 G3
  go_wp2_with fail
  refine (NO w).mono ?_
  rintro e w11 ⟨⟨p, B, rfl, hp, hB, S⟩, b11⟩
  have lt11 := S.lt
  have bb11 : Below w.heap.size w w11 := b11
  go_wp2_with fail
  refine (NO w11).mono ?_
  rintro e w12 ⟨⟨px, Bx, rfl, hpx, hBx, Sx⟩, b12⟩
  have lt12 := Sx.lt
  have S := S.next b12
  have bb12 : Below w.heap.size w w12 := Below.andThen bb11 b12
  go_wp2_with fail
  refine (NO w12).mono ?_
  rintro e w13 ⟨⟨py, By, rfl, hpy, hBy, Sy⟩, b13⟩
  have lt13 := Sy.lt
  have S := S.next b13
  have Sx := Sx.next b13
  have bb13 : Below w.heap.size w w13 := Below.andThen bb12 b13
  have z11 := b11.size
  have z12 := b12.size
  have z13 := b13.size
  have RN := runsB o1 bb13 S (newS_le n) c1 (by omega) (by omega) (by omega)
  go_wp2_with fail
  refine RN.mono ?_
  rintro e w14 ⟨rfl, S', q14, bb14⟩
  clear RN
  have S := S'
  have Sx := Sx.kp q14 (by simp; omega) (by simp; omega)
  have Sy := Sy.kp q14 (by simp; omega) (by simp; omega)
  have RN := runsB o1 bb14 Sx (newS_le n) c1 (by omega) (by omega) (by omega)
  go_wp2_with fail
  refine RN.mono ?_
  rintro e w15 ⟨rfl, Sx', q15, bb15⟩
  clear RN
  have Sx := Sx'
  have S := S.kp q15 (by simp; omega) (by simp; omega)
  have Sy := Sy.kp q15 (by simp; omega) (by simp; omega)
  have RN := runsB o1 bb15 Sy (newS_le n) c1 (by omega) (by omega) (by omega)
  go_wp2_with fail
  refine RN.mono ?_
  rintro e w16 ⟨rfl, Sy', q16, bb16⟩
  clear RN
  have Sy := Sy'
  have S := S.kp q16 (by simp; omega) (by simp; omega)
  have Sx := Sx.kp q16 (by simp; omega) (by simp; omega)
  have z16 := q14.size
  have z17 := q15.size
  have z18 := q16.size
  have CP := copy_any S
  go_wp2_with fail
  refine CP.mono ?_
  rintro e w17 ⟨⟨pc, Bc, cc, rfl, hpc, hBc, Sc⟩, b17⟩
  clear CP
  have S := S.next b17
  have Sx := Sx.next b17
  have Sy := Sy.next b17
  have bb17 : Below w.heap.size w w17 := Below.andThen bb16 b17
  generalize hG : (newS n).ops n L1 = s1 at *
  clear hG
  have INI : Hid (Below w.heap.size w w17 ∧ IsS w17 p B n n (s1.ops n (L2.take 0)) ∧ IsS w17 px Bx n n s1 ∧ IsS w17 py By n n s1 ∧ IsS w17 pc Bc n cc (s1.ops n (L3.take 0))) := ⟨bb17, S, Sx, Sy, Sc⟩
  have ORD : Hid (w.heap.size ≤ p ∧ w.heap.size ≤ B ∧ p < w11.heap.size ∧ B < w11.heap.size ∧ w11.heap.size ≤ px ∧ w11.heap.size ≤ Bx ∧ px < w12.heap.size ∧ Bx < w12.heap.size ∧ w12.heap.size ≤ py ∧ w12.heap.size ≤ By ∧ py < w13.heap.size ∧ By < w13.heap.size ∧ w13.heap.size ≤ pc ∧ w13.heap.size ≤ Bc ∧ w.heap.size ≤ w11.heap.size ∧ w11.heap.size ≤ w12.heap.size ∧ w12.heap.size ≤ w13.heap.size) := ⟨by omega, by omega, by omega, by omega, by omega, by omega, by omega, by omega, by omega, by omega, by omega, by omega, by omega, by omega, by omega, by omega, by omega⟩
  clear S Sx Sy Sc S' Sx' Sy' bb11 bb12 bb13 bb14 bb15 bb16 bb17 b11 b12 b13 b17 q14 q15 q16 lt11 lt12 lt13 hp hB hpx hBx hpy hBy hpc hBc z11 z12 z13 z16 z17 z18 NO
  have l2 := o2.size
  have l3 := o3.size
  go_wp2_with fail
  go_loopw [16] (fun u wr => ∃ i : Nat, i ≤ 200 ∧ u = .int .i64 i ∧ Below w.heap.size w wr ∧ IsS wr p B n n (s1.ops n (L2.take i)) ∧ IsS wr px Bx n n s1 ∧ IsS wr py By n n s1 ∧ IsS wr pc Bc n cc (s1.ops n (L3.take i)))
    (fun u _ => 200 - (intOf u).toNat)
  case atStart => exact ⟨0, Nat.zero_le _, rfl, INI.out⟩
  case round =>
    clear INI
    obtain ⟨i, hi, rfl, hb, S, Sx, Sy, Sc⟩ := hrel
    have le2 : (s1.ops n (L2.take i)).Le 400 := (FS.Le.ops n (L2.take i) s1 200 s1le (fun y hy => o2.good y (List.mem_of_mem_take hy))).more (by rw [List.length_take]; omega)
    have le3 : (s1.ops n (L3.take i)).Le 400 := (FS.Le.ops n (L3.take i) s1 200 s1le (fun y hy => o3.good y (List.mem_of_mem_take hy))).more (by rw [List.length_take]; omega)
    obtain ⟨r1, r2, r3, r4, r5, r6, r7, r8, r9, r10, r11, r12, r13, r14, r15, r16, r17⟩ := ORD.out
    by_cases d2 : i < n2
    · have g2 : (i : Int) < (n2 : Int) := by omega
      obtain ⟨x, hx⟩ : ∃ x, L2[i]? = some x := ⟨L2[i]'(by omega), List.getElem?_eq_getElem _⟩
      obtain ⟨b, off, e2, _⟩ := o2.at_ (by omega)
      subst e2
      have R2 := runsB (o2.one i x hx) hb S le2 (c2 - i) (by omega) r1 r2
      rw [ops_one, ← FS.ops_next n s1 L2 i x hx] at R2
      have SL2 := slice_ops b off n2 c2 i (by omega) k2
      have gk2 : (i : Int) + 1 ≤ (c2 : Int) := by omega
      have nk2 : ¬ c2 = i := by omega
      by_cases d3 : i < n3
      · have g3 : (i : Int) < (n3 : Int) := by omega
        obtain ⟨y, hy⟩ : ∃ y, L3[i]? = some y := ⟨L3[i]'(by omega), List.getElem?_eq_getElem _⟩
        obtain ⟨b', off', e3, _⟩ := o3.at_ (by omega)
        subst e3
        have SL3 := slice_ops b' off' n3 c3 i (by omega) k3
        have gk3 : (i : Int) + 1 ≤ (c3 : Int) := by omega
        have nk3 : ¬ c3 = i := by omega
        have HS : Hid (IsS wr p B n n _) := S
        have HSx : Hid (IsS wr px Bx n n s1) := Sx
        have HSy : Hid (IsS wr py By n n s1) := Sy
        have HSc : Hid (IsS wr pc Bc n cc _) := Sc
        clear S Sx Sy Sc r1 r2 r3 r4 r5 r6 r7 r8 r9 r10 r11 r12 r13 r14 r15 r16 r17
        go_wp2_with fail
        refine R2.mono ?_
        rintro e z1 ⟨rfl, T1, t1, u1⟩
        clear R2
        obtain ⟨r1, r2, r3, r4, r5, r6, r7, r8, r9, r10, r11, r12, r13, r14, r15, r16, r17⟩ := ORD.out
        have Tc := HSc.out.kp t1 (by simp; omega) (by simp; omega)
        have R3 := runsB (o3.one i y hy) u1 Tc le3 (c3 - i) (by omega) (by omega) (by omega)
        rw [ops_one, ← FS.ops_next n s1 L3 i y hy] at R3
        clear r1 r2 r3 r4 r5 r6 r7 r8 r9 r10 r11 r12 r13 r14 r15 r16 r17
        go_wp2_with fail
        refine R3.mono ?_
        rintro e z2 ⟨rfl, T2, t2, u2⟩
        clear R3
        obtain ⟨r1, r2, r3, r4, r5, r6, r7, r8, r9, r10, r11, r12, r13, r14, r15, r16, r17⟩ := ORD.out
        have DONE : Hid (Below w.heap.size w z2 ∧ IsS z2 p B n n (s1.ops n (L2.take (i + 1))) ∧ IsS z2 px Bx n n s1 ∧ IsS z2 py By n n s1 ∧ IsS z2 pc Bc n cc (s1.ops n (L3.take (i + 1)))) := ⟨u2, T1.kp t2 (by simp; omega) (by simp; omega), (HSx.out.kp t1 (by simp; omega) (by simp; omega)).kp t2 (by simp; omega) (by simp; omega), (HSy.out.kp t1 (by simp; omega) (by simp; omega)).kp t2 (by simp; omega) (by simp; omega), T2⟩
        clear r1 r2 r3 r4 r5 r6 r7 r8 r9 r10 r11 r12 r13 r14 r15 r16 r17
        go_wp2_with fail
        exact ⟨⟨i + 1, by omega, by go_num, DONE.out⟩, by simp [intOf]; omega⟩
      · have g3 : ¬ (i : Int) < (n3 : Int) := by omega
        have HS : Hid (IsS wr p B n n _) := S
        have HSx : Hid (IsS wr px Bx n n s1) := Sx
        have HSy : Hid (IsS wr py By n n s1) := Sy
        have HSc : Hid (IsS wr pc Bc n cc _) := Sc
        clear S Sx Sy Sc r1 r2 r3 r4 r5 r6 r7 r8 r9 r10 r11 r12 r13 r14 r15 r16 r17
        go_wp2_with fail
        refine R2.mono ?_
        rintro e z1 ⟨rfl, T1, t1, u1⟩
        clear R2
        obtain ⟨r1, r2, r3, r4, r5, r6, r7, r8, r9, r10, r11, r12, r13, r14, r15, r16, r17⟩ := ORD.out
        have DONE : Hid (Below w.heap.size w z1 ∧ IsS z1 p B n n (s1.ops n (L2.take (i + 1))) ∧ IsS z1 px Bx n n s1 ∧ IsS z1 py By n n s1 ∧ IsS z1 pc Bc n cc (s1.ops n (L3.take (i + 1)))) := ⟨u1, T1, HSx.out.kp t1 (by simp; omega) (by simp; omega), HSy.out.kp t1 (by simp; omega) (by simp; omega), by rw [take_more L3 i (by omega)]; exact HSc.out.kp t1 (by simp; omega) (by simp; omega)⟩
        clear r1 r2 r3 r4 r5 r6 r7 r8 r9 r10 r11 r12 r13 r14 r15 r16 r17
        go_wp2_with fail
        exact ⟨⟨i + 1, by omega, by go_num, DONE.out⟩, by simp [intOf]; omega⟩
    · have g2 : ¬ (i : Int) < (n2 : Int) := by omega
      by_cases d3 : i < n3
      · have g3 : (i : Int) < (n3 : Int) := by omega
        obtain ⟨y, hy⟩ : ∃ y, L3[i]? = some y := ⟨L3[i]'(by omega), List.getElem?_eq_getElem _⟩
        obtain ⟨b', off', e3, _⟩ := o3.at_ (by omega)
        subst e3
        have SL3 := slice_ops b' off' n3 c3 i (by omega) k3
        have gk3 : (i : Int) + 1 ≤ (c3 : Int) := by omega
        have nk3 : ¬ c3 = i := by omega
        have R3 := runsB (o3.one i y hy) hb Sc le3 (c3 - i) (by omega) (by omega) (by omega)
        rw [ops_one, ← FS.ops_next n s1 L3 i y hy] at R3
        have HS : Hid (IsS wr p B n n _) := S
        have HSx : Hid (IsS wr px Bx n n s1) := Sx
        have HSy : Hid (IsS wr py By n n s1) := Sy
        have HSc : Hid (IsS wr pc Bc n cc _) := Sc
        clear S Sx Sy Sc r1 r2 r3 r4 r5 r6 r7 r8 r9 r10 r11 r12 r13 r14 r15 r16 r17
        go_wp2_with fail
        refine R3.mono ?_
        rintro e z1 ⟨rfl, T1, t1, u1⟩
        clear R3
        obtain ⟨r1, r2, r3, r4, r5, r6, r7, r8, r9, r10, r11, r12, r13, r14, r15, r16, r17⟩ := ORD.out
        have DONE : Hid (Below w.heap.size w z1 ∧ IsS z1 p B n n (s1.ops n (L2.take (i + 1))) ∧ IsS z1 px Bx n n s1 ∧ IsS z1 py By n n s1 ∧ IsS z1 pc Bc n cc (s1.ops n (L3.take (i + 1)))) := ⟨u1, by rw [take_more L2 i (by omega)]; exact HS.out.kp t1 (by simp; omega) (by simp; omega), HSx.out.kp t1 (by simp; omega) (by simp; omega), HSy.out.kp t1 (by simp; omega) (by simp; omega), T1⟩
        clear r1 r2 r3 r4 r5 r6 r7 r8 r9 r10 r11 r12 r13 r14 r15 r16 r17
        go_wp2_with fail
        exact ⟨⟨i + 1, by omega, by go_num, DONE.out⟩, by simp [intOf]; omega⟩
      · have g3 : ¬ (i : Int) < (n3 : Int) := by omega
        rw [List.take_of_length_le (by omega)] at S Sc
        have RX := runsB o2 hb Sx s1le c2 (by omega) (by omega) (by omega)
        have HS : Hid (IsS wr p B n n _) := S
        have HSx : Hid (IsS wr px Bx n n s1) := Sx
        have HSy : Hid (IsS wr py By n n s1) := Sy
        have HSc : Hid (IsS wr pc Bc n cc _) := Sc
        clear S Sx Sy Sc r1 r2 r3 r4 r5 r6 r7 r8 r9 r10 r11 r12 r13 r14 r15 r16 r17
        go_wp2_with fail
        refine RX.mono ?_
        rintro e z1 ⟨rfl, T1, t1, u1⟩
        clear RX
        obtain ⟨r1, r2, r3, r4, r5, r6, r7, r8, r9, r10, r11, r12, r13, r14, r15, r16, r17⟩ := ORD.out
        have RY := runsB o3 u1 (HSy.out.kp t1 (by simp; omega) (by simp; omega)) s1le c3 (by omega) (by omega) (by omega)
        clear r1 r2 r3 r4 r5 r6 r7 r8 r9 r10 r11 r12 r13 r14 r15 r16 r17
        go_wp2_with fail
        refine RY.mono ?_
        rintro e z2 ⟨rfl, T2, t2, u2⟩
        clear RY
        obtain ⟨r1, r2, r3, r4, r5, r6, r7, r8, r9, r10, r11, r12, r13, r14, r15, r16, r17⟩ := ORD.out
        have A1 := alike_any ((HS.out.kp t1 (by simp; omega) (by simp; omega)).kp t2 (by simp; omega) (by simp; omega)) (T1.kp t2 (by simp; omega) (by simp; omega)) (by omega) (by omega) (by omega) (by omega)
        have Tc := (HSc.out.kp t1 (by simp; omega) (by simp; omega)).kp t2 (by simp; omega) (by simp; omega)
        clear r1 r2 r3 r4 r5 r6 r7 r8 r9 r10 r11 r12 r13 r14 r15 r16 r17
        go_wp2_with fail
        refine A1.mono ?_
        rintro e z3 ⟨rfl, t3⟩
        clear A1
        obtain ⟨r1, r2, r3, r4, r5, r6, r7, r8, r9, r10, r11, r12, r13, r14, r15, r16, r17⟩ := ORD.out
        have A2 := alike_any (Tc.kp t3 (by simp; omega) (by simp; omega)) (T2.kp t3 (by simp; omega) (by simp; omega)) (by omega) (by omega) (by omega) (by omega)
        have u3 : Below w.heap.size w z3 := Kp.below u2 t3 u2.size (by intro j hj; simp at hj; omega)
        clear r1 r2 r3 r4 r5 r6 r7 r8 r9 r10 r11 r12 r13 r14 r15 r16 r17
        go_wp2_with fail
        refine A2.mono ?_
        rintro e z4 ⟨rfl, t4⟩
        clear A2
        obtain ⟨r1, r2, r3, r4, r5, r6, r7, r8, r9, r10, r11, r12, r13, r14, r15, r16, r17⟩ := ORD.out
        have u4 : Below w.heap.size w z4 := Kp.below u3 t4 u3.size (by intro j hj; simp at hj; omega)
        clear r1 r2 r3 r4 r5 r6 r7 r8 r9 r10 r11 r12 r13 r14 r15 r16 r17
        go_wp2_with fail
        refine (works_any _).mono ?_
        rintro e z5 ⟨rfl, b5⟩
        go_wp2_with fail
        go_ret
        exact ⟨rfl, Below.andThen u4 b5⟩
#print axioms copiesG
end Go.Proofs.Ytdohjolgcmokhaa
