/-
  Check, of any Maps.
-/
import Derived.Test.YtcdmldnaagiicaaDoorIa
import Derived.Test.YtcdmldnaagiicaaDoorGh
namespace Go.Proofs.YtcdmldnaagiicaaDoor
open Go.RowKit

/-- Is a Map a gap? -/
def gapB (i s b : Int) : Bool := (i == i % 256 && s == 0) && hasB (i % 256) b

set_option linter.unusedSimpArgs false in
set_option maxHeartbeats 4000000 in
set_option maxRecDepth 100000 in
theorem isGap_any (i s b : Int) (w : World) (_h1 : 0 ≤ i) (_h2 : i < 65536) : Calls Tryd.prog 35 #[mpV i s b] w fun e w' => e = .returned (.bool (gapB i s b)) ∧ Below w.heap.size w w' := by
  obtain ⟨q, hq⟩ : ∃ q, Hid (q = (i == i % 256 && s == 0)) := ⟨_, rfl⟩
  obtain ⟨r, hr⟩ : ∃ r, Hid (r = hasB (i % 256) b) := ⟨_, rfl⟩
  have HR : Hid (gapB i s b = (q && r)) := by show _ = _; unfold gapB; rw [hq.out, hr.out]
  have e1 : IntKind.u8.wrap i = i % 256 := by simp [IntKind.wrap, IntKind.bits, IntKind.signed]
  have e2 : ∀ W, (binOp .eql 33 (plV i s) (plV (i % 256) 0)).run Tryd.prog W = .ok (.bool q) W := fun W => by rw [hq.out]; exact eqlP W i s (i % 256) 0
  have HH : Hid (∀ W, Calls Tryd.prog 47 #[.int .u8 (i % 256), .int .i64 b] W fun e w' => e = .returned (.bool r) ∧ w' = W) := fun W => by rw [hr.out]; exact hasBits_any _ _ W
  cases q with
  | false =>
    go_enter Tryd.func35, Tryd.ntmps35
    go_wp2_with fail
    go_ret
    exact ⟨by rw [HR.out]; rfl, (by repeat (first | exact Below.refl _ _ | apply Below.drew | apply Below.al))⟩
  | true =>
    go_enter Tryd.func35, Tryd.ntmps35
    go_wp2_with fail
    refine (HH.out _).mono ?_
    rintro e w1 ⟨rfl, rfl⟩
    go_wp2_with fail
    go_ret
    exact ⟨by rw [HR.out]; rfl, (by repeat (first | exact Below.refl _ _ | apply Below.drew | apply Below.al))⟩

set_option linter.unusedSimpArgs false in
set_option maxHeartbeats 4000000 in
set_option maxRecDepth 100000 in
theorem fits_any (i s b : Int) (j r : Int) (nm : ByteArray) (t rt : Int) (d : Option Addr) (ld cd : Nat) (l : Option Addr) (ll cl : Nat) (h : Option Addr) (lh ch : Nat) (tg gr : Int) (w : World) :
    Calls Tryd.prog 37 #[mpV i s b, .agg (enC j r nm t rt d ld cd l ll cl h lh ch tg gr)] w fun e w' => e = .returned (.bool ((bits .and .u8 rt 4 != 0) && hasB t b)) ∧ Below w.heap.size w w' := by
  obtain ⟨x, hx⟩ : ∃ x, Hid (x = hasB t b) := ⟨_, rfl⟩
  have HH : Hid (∀ W, Calls Tryd.prog 47 #[.int .u8 t, .int .i64 b] W fun e w' => e = .returned (.bool x) ∧ w' = W) := fun W => by rw [hx.out]; exact hasBits_any t b W
  rw [← hx.out]
  cases h4 : (bits .and .u8 rt 4 != 0) with
  | false =>
    have h5 : bits .and .u8 rt 4 = 0 := by simpa using h4
    go_enter Tryd.func37, Tryd.ntmps37
    go_wp2_with fail
    go_ret
    exact ⟨rfl, (by repeat (first | exact Below.refl _ _ | apply Below.drew | apply Below.al))⟩
  | true =>
    go_enter Tryd.func37, Tryd.ntmps37
    go_wp2_with fail
    refine (HH.out _).mono ?_
    rintro e w1 ⟨rfl, rfl⟩
    go_wp2_with fail
    go_ret
    exact ⟨rfl, (by repeat (first | exact Below.refl _ _ | apply Below.drew | apply Below.al))⟩

set_option linter.unusedSimpArgs false in
set_option maxHeartbeats 4000000 in
set_option maxRecDepth 100000 in
theorem mcheck_gap (out : Bool) (pv : Value) (i s b : Int) (w : World) (h1 : 0 ≤ i) (h2 : i < 65536) (hg : gapB i s b = true) :
    Calls Tryd.prog 21 #[mpV i s b, pv, .bool out] w fun e w' => e = .returned (.int .u32 (if out then 100925505 else 0)) ∧ Below w.heap.size w w' := by
  have HG : Hid (∀ W, Calls Tryd.prog 35 #[mpV i s b] W fun e w' => e = .returned (.bool true) ∧ Below W.heap.size W w') := fun W => by have := isGap_any i s b W h1 h2; rw [hg] at this; exact this
  clear hg
  cases out with
  | false =>
    go_enter Tryd.func21, Tryd.ntmps21
    go_wp2_with fail
    refine (HG.out _).mono ?_
    rintro e w1 ⟨rfl, hb1⟩
    have B1 : Hid (Below w.heap.size w w1) := Below.andThen (by repeat (first | exact Below.refl _ _ | apply Below.drew | apply Below.al)) hb1
    clear hb1
    go_wp2_with fail
    go_ret
    exact ⟨rfl, B1.out⟩
  | true =>
    go_enter Tryd.func21, Tryd.ntmps21
    go_wp2_with fail
    refine (HG.out _).mono ?_
    rintro e w1 ⟨rfl, hb1⟩
    have B1 : Hid (Below w.heap.size w w1) := Below.andThen (by repeat (first | exact Below.refl _ _ | apply Below.drew | apply Below.al)) hb1
    clear hb1
    go_wp2_with fail
    go_ret
    exact ⟨rfl, B1.out⟩

set_option linter.unusedSimpArgs false in
set_option maxHeartbeats 4000000 in
set_option maxRecDepth 100000 in
theorem mcheck_miss (out : Bool) (pv : Value) (code : Int) (hc : code ≠ 0) (i s b : Int) (w : World) (h1 : 0 ≤ i) (h2 : i < 65536) (hg : gapB i s b = false)
    (HF : ∀ W, Below w.heap.size w W → Calls Tryd.prog 36 #[pv, plV i s] W fun e w' => e = .returned (.tuple #[.agg (enC 0 0 ⟨#[]⟩ 0 0 none 0 0 none 0 0 none 0 0 0 0), .int .u32 code]) ∧ Below W.heap.size W w') :
    Calls Tryd.prog 21 #[mpV i s b, pv, .bool out] w fun e w' => e = .returned (.int .u32 code) ∧ Below w.heap.size w w' := by
  have HG : Hid (∀ W, Calls Tryd.prog 35 #[mpV i s b] W fun e w' => e = .returned (.bool false) ∧ Below W.heap.size W w') := fun W => by have := isGap_any i s b W h1 h2; rw [hg] at this; exact this
  have HFF : Hid (∀ W, Below w.heap.size w W → Calls Tryd.prog 36 #[pv, plV i s] W fun e w' => e = .returned (.tuple #[.agg (enC 0 0 ⟨#[]⟩ 0 0 none 0 0 none 0 0 none 0 0 0 0), .int .u32 code]) ∧ Below W.heap.size W w') := HF
  clear hg HF
  go_enter Tryd.func21, Tryd.ntmps21
  go_wp2_with fail
  refine (HG.out _).mono ?_
  rintro e w1 ⟨rfl, hb1⟩
  have B1 : Hid (Below w.heap.size w w1) := Below.andThen (by repeat (first | exact Below.refl _ _ | apply Below.drew | apply Below.al)) hb1
  have X1 : Hid (w1.heap[w.heap.size]? = some (.cells #[.int .u16 i, .int .u8 s, .int .i64 b] 48 (0, 0))) := blk11 hb1 (at11 _ _ _ rfl)
  have c0 : w1.cell? ⟨w.heap.size, 0, none⟩ = some (.int .u16 i) := by rw [cell_of_row _ _ 0 _ _ _ X1.out]; rfl
  have c1 : w1.cell? ⟨w.heap.size, 1, none⟩ = some (.int .u8 s) := by rw [cell_of_row _ _ 1 _ _ _ X1.out]; rfl
  clear hb1
  go_wp2_with fail
  refine (HFF.out _ B1.out).mono ?_
  rintro e w2 ⟨rfl, hb2⟩
  have B2 : Hid (Below w.heap.size w w2) := Below.andThen B1.out hb2
  clear hb2 c0 c1
  go_wp2_with fail
  go_ret
  exact ⟨rfl, Below.al B2.out _⟩
/-- A mapping's code: of the Maps one by one, then of how many bits there are. -/
def chkL (cf : Mq → Int) : List Mq → Nat → Int
  | [], _ => 0
  | x :: l, n => if cf x ≠ 0 then cf x else if 64 < n + x.b then 100925506 else chkL cf l (n + x.b)

set_option linter.unusedSimpArgs false in
set_option maxHeartbeats 4000000 in
set_option maxRecDepth 100000 in
theorem check_gen (out : Bool) (pv : Value) (cf : Mq → Int) (gm N cap : Nat) (ms : List Mq) (w : World) (hN : ms.length = N) (h64 : N ≤ 64) (hM : MsAt w gm ms) (hb1 : ∀ x ∈ ms, x.b ≤ 1000)
    (hC : ∀ W, Below w.heap.size w W → ∀ x ∈ ms, Calls Tryd.prog 21 #[mpV x.i x.s (x.b : Int), pv, .bool out] W fun e w' => e = .returned (.int .u32 (cf x)) ∧ Below W.heap.size W w') :
    Calls Tryd.prog 8 #[pv, .slice (some ⟨gm, 0, none⟩) N cap, .bool out] w fun e w' => e = .returned (.int .u32 (chkL cf ms 0)) ∧ Below w.heap.size w w' := by
  have HC : Hid (∀ W, Below w.heap.size w W → ∀ x ∈ ms, Calls Tryd.prog 21 #[mpV x.i x.s (x.b : Int), pv, .bool out] W fun e w' => e = .returned (.int .u32 (cf x)) ∧ Below W.heap.size W w') := hC
  have HM : Hid (MsAt w gm ms) := hM
  have HB1 : Hid (∀ x ∈ ms, x.b ≤ 1000) := hb1
  obtain ⟨res, hres⟩ : ∃ res, Hid (res = chkL cf ms 0) := ⟨_, rfl⟩
  rw [← hres.out]
  clear hC hM hb1
  go_enter Tryd.func8, Tryd.ntmps8
  go_wp2_with fail
  go_loopw [7, 16] (fun cv iv wr => ∃ k n : Nat, k ≤ N ∧ n ≤ 64 ∧ iv = .int .i64 (k : Int) ∧ cv = .int .i64 (n : Int) ∧ Hid (res = chkL cf (ms.drop k) n ∧ Below w.heap.size w wr)) (fun _ iv _ => N - (intOf iv).toNat)
  case atStart => exact ⟨0, 0, Nat.zero_le _, by decide, rfl, rfl, hres.out, Below.refl _ _⟩
  case round =>
    obtain ⟨k, n, hk, hn, rfl, rfl, HB⟩ := hrel
    by_cases hkN : k < N
    · have gk : (k : Int) < (N : Int) := by omega
      have gk0 : (0 : Int) ≤ (k : Int) := by omega
      obtain ⟨x, hx⟩ : ∃ x, ms[k]? = some x := ⟨_, List.getElem?_eq_getElem (by omega)⟩
      obtain ⟨c0, c1, c2⟩ := (HM.out.next HB.out.2) k x hx
      have HX : Hid (x ∈ ms) := List.mem_of_getElem? hx
      have hxb := HB1.out x HX.out
      have DR : Hid (res = if cf x ≠ 0 then cf x else if 64 < n + x.b then 100925506 else chkL cf (ms.drop (k + 1)) (n + x.b)) := by
        show _ = _
        obtain ⟨hk2, he⟩ := List.getElem?_eq_some_iff.1 hx
        have := HB.out.1
        rw [List.drop_eq_getElem_cons hk2, he] at this
        exact this
      have R6 : Hid (Below w.heap.size w wr) := HB.out.2
      obtain ⟨y, hy⟩ : ∃ y, Hid (y = cf x) := ⟨_, rfl⟩
      have wk : IntKind.i64.wrap ((k : Int) + 1) = ((k + 1 : Nat) : Int) := by rw [IntKind.wrap_i64]; omega
      have ws : IntKind.i64.wrap ((n : Int) + (x.b : Int)) = ((n + x.b : Nat) : Int) := by rw [IntKind.wrap_i64]; omega
      have HCx : Hid (∀ W, Below w.heap.size w W → Calls Tryd.prog 21 #[mpV x.i x.s (x.b : Int), pv, .bool out] W fun e w' => e = .returned (.int .u32 y) ∧ Below W.heap.size W w') := fun W hb => by rw [hy.out]; exact HC.out W hb x HX.out
      rw [← hy.out] at DR
      clear hx HB
      go_wp2_with fail
      refine (HCx.out _ (Below.al R6.out _)).mono ?_
      rintro e w2 ⟨rfl, hb⟩
      have B2 : Hid (Below w.heap.size w w2) := Below.andThen (Below.al R6.out _) hb
      have X2 : Hid (w2.heap[wr.heap.size]? = some (.cells #[.int .u16 x.i, .int .u8 x.s, .int .i64 (x.b : Int)] 48 (0, 0))) := blk11 hb (at11 _ _ _ rfl)
      have d2 : w2.cell? ⟨wr.heap.size, 2, none⟩ = some (.int .i64 (x.b : Int)) := by rw [cell_of_row _ _ 2 _ _ _ X2.out]; rfl
      clear hb c0 c1 c2
      by_cases hy0 : y = 0
      · subst hy0
        by_cases hs : 64 < n + x.b
        · have gs : (64 : Int) < ((n + x.b : Nat) : Int) := by omega
          have FR : Hid (res = 100925506) := by show _ = _; rw [DR.out]; simp [hs]
          clear DR
          go_wp2_with fail
          go_ret
          exact ⟨by rw [FR.out]; rfl, B2.out⟩
        · have gs : ¬ ((64 : Int) < ((n + x.b : Nat) : Int)) := by omega
          have FR : Hid (res = chkL cf (ms.drop (k + 1)) (n + x.b)) := by show _ = _; rw [DR.out]; simp [hs]
          clear DR
          go_wp2_with fail
          exact ⟨⟨k + 1, n + x.b, by omega, by omega, by go_num, by go_num, FR.out, B2.out⟩, by simp [intOf]; omega⟩
      · have FR : Hid (res = y) := by show _ = _; rw [DR.out]; simp [hy0]
        clear DR
        go_wp2_with fail
        go_ret
        exact ⟨by rw [FR.out]; rfl, B2.out⟩
    · obtain rfl : k = N := by omega
      have FR : Hid (res = 0) := by
        show _ = _
        rw [HB.out.1, List.drop_of_length_le (by omega)]
        rfl
      have R6 : Hid (Below w.heap.size w wr) := HB.out.2
      clear HB
      go_wp2_with fail
      go_ret
      exact ⟨by rw [FR.out]; rfl, R6.out⟩

set_option linter.unusedSimpArgs false in
set_option maxHeartbeats 4000000 in
set_option maxRecDepth 100000 in
theorem check_many (out : Bool) (pv : Value) (ad : Option Addr) (N cap : Nat) (w : World) (h : 64 < N) : Calls Tryd.prog 8 #[pv, .slice ad N cap, .bool out] w fun e w' => e = .returned (.int .u32 100925506) ∧ w' = w := by
  have gN : (64 : Int) < (N : Int) := by omega
  go_enter Tryd.func8, Tryd.ntmps8
  go_wp2_with fail
  go_ret
  exact ⟨rfl, rfl⟩
#print axioms check_gen
end Go.Proofs.YtcdmldnaagiicaaDoor
