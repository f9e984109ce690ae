/-
  Numbers and Maps, there and back.
-/
import Derived.Test.YthhcilekbmbglaaDoorGl
import Derived.Laws.BitsAllLaws
namespace Go.Proofs.YthhcilekbmbglaaDoor
open Go.RowKit

theorem orH (x y : Int) (p : Nat) (h0 : 0 ≤ x) (h1 : x < 4294967296) (hx : x % 2 ^ p = 0) (h2 : 0 ≤ y) (hy : y < 2 ^ p) (h3 : y < 4294967296) : bits .or .u32 x y = x + y := by
  rw [u32_or x y h0 h1 h2 h3, nat_join p x.toNat y.toNat ?_ ?_]
  · omega
  · have e : ((x.toNat % 2 ^ p : Nat) : Int) = x % 2 ^ p := by rw [Int.natCast_emod, Int.toNat_of_nonneg h0, Int.natCast_pow]; rfl
    rw [hx] at e
    exact_mod_cast e
  · have e : ((2 ^ p : Nat) : Int) = (2 : Int) ^ p := by rw [Int.natCast_pow]; rfl
    omega
theorem and255 (n : Int) (h0 : 0 ≤ n) (h1 : n < 4294967296) : bits .and .u32 n 255 = n % 256 := by
  rw [u32_and n 255 h0 h1 (by decide) (by decide)]
  have : n.toNat &&& (255 : Int).toNat = n.toNat % 256 := Nat.and_two_pow_sub_one_eq_mod n.toNat 8
  rw [this]
  omega
/-- A Map's number. -/
def numN (i s b : Int) : Int := if b < 0 ∨ 255 < b then 0 else i * 65536 + s * 256 + b
theorem sizeMp : (Tryd.prog.info? 34).map (·.size) = some 3 := by kernel_rfl

set_option linter.unusedSimpArgs false in
set_option maxHeartbeats 4000000 in
set_option maxRecDepth 100000 in
theorem of_any (n : Int) (w : World) (h0 : 0 ≤ n) (h1 : n < 4294967296) : Calls Tryd.prog 6 #[.int .u32 n] w fun e w' => e = .returned (mpV (n / 65536) (n / 256 % 256) (n % 256)) ∧ Below w.heap.size w w' := by
  have ea := and255 n h0 h1
  have e2 : IntKind.u8.wrap (n / 256) = n / 256 % 256 := IntKind.wrap_u8' _
  have e3 : IntKind.u16.wrap (n / 65536) = n / 65536 := by rw [IntKind.wrap_u16]; omega
  go_enter Tryd.func6, Tryd.ntmps6
  go_wp2_with fail
  refine bodyPost_ret (results_cell_row (P := Tryd.prog) rfl _ _ w.heap.size 34 #[.int .u16 (n / 65536), .int .u8 (n / 256 % 256), .int .i64 (n % 256)] (0, 0) _ rfl (at11 _ _ _ rfl) Tryd.underlying34 rfl sizeMp) rfl ⟨rfl, (by repeat (first | exact Below.refl _ _ | apply Below.drew | apply Below.al))⟩

theorem num_of (n : Int) : numN (n / 65536) (n / 256 % 256) (n % 256) = n := by
  unfold numN
  rw [if_neg (by omega)]
  omega
#print axioms of_any
end Go.Proofs.YthhcilekbmbglaaDoor
