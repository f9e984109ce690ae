/-
  The walks of the document's Same and of the law's ref.
-/
import Derived.Test.YtlnlejdjekbipaaSg
import Derived.Test.YtlnlejdjekbipaaSe
namespace Go.Proofs.Ytlnlejdjekbipaa
open Go.RowKit

theorem str_inj (xs ys : List Int) (hx : Oct xs) (hy : Oct ys) (h : (strOfNums xs).toList = (strOfNums ys).toList) : xs = ys := by
  have e : ∀ l : List Int, Oct l → (strOfNums l).toList.map (fun b => ((b.toNat : Nat) : Int)) = l := by
    intro l hl
    rw [ByteArray.toList_eq]
    unfold strOfNums
    simp only [List.map_map]
    have : ∀ n ∈ l, ((fun b : UInt8 => ((b.toNat : Nat) : Int)) ∘ fun n : Int => UInt8.ofNat n.toNat) n = n := fun n hn => by
      have := hl n hn
      simp
      omega
    simpa using List.map_congr_left (g := id) this
  rw [← e xs hx, ← e ys hy, h]

set_option linter.unusedSimpArgs false in
set_option maxHeartbeats 4000000 in
set_option maxRecDepth 100000 in
theorem ref_any (k i s : Int) (z : Bool) (n : Int) (q : Bool) (a : Option Addr) (len cap : Nat) (t l c : Bool) (b e u m o : Int) (w : World) :
    Calls Try.prog 11 #[cmV k i s z n q a len cap t l c b e u m o] w fun r w' => r = .returned (cmV k i s z n q a len cap t l c b e u m o) ∧ ∃ o1 o2, w' = (w.alloc o1).alloc o2 := by
  go_enter Try.func11, Try.ntmps11
  go_wp2_with fail
  exact bodyPost_ret (v := cmV k i s z n q a len cap t l c b e u m o) (by simp [results, Try.results11, go_sem]) rfl ⟨rfl, _, _, rfl⟩
#print axioms ref_any

end Go.Proofs.Ytlnlejdjekbipaa
