/-
  A candidate is made.
  The walk of the document's Command, of a client's bytes.
  The walk of the document's Command, of a server's bytes.
-/
import Derived.Test.YtlnlejdjekbipaaQp
import Derived.Test.YtlnlejdjekbipaaQb
import Derived.Test.YtlnlejdjekbipaaQc1
import Derived.Test.YtlnlejdjekbipaaQd
import Derived.Test.YtlnlejdjekbipaaRl1
import Derived.Deep.DeepCutAuto
import Derived.Deep.CutRange
import Derived.Test.YtlnlejdjekbipaaTk9
namespace Go.Proofs.Ytlnlejdjekbipaa
open Go.RowKit

theorem guess_c (k : Nat) (y : B8) (oky : y.Ok) (b n : Nat) (w : World) :
    Calls Try.prog 29 #[.int .u8 (k : Int), y.v, .bool (b.testBit 0), .bool (b.testBit 0), .bool (b.testBit 1), .bool (b.testBit 2), .bool (b.testBit 3), .int .i64 (n : Int)] w fun e w' => e = .returned ((guessP (k : Int) y b n).v none 0 0) ∧ Below w.heap.size w w' :=
  guess_any _ _ _ _ _ _ _ _ _ _ _ _ _ _ _ oky.b1 oky.b2 oky.b4 oky.b5 oky.b6 oky.b7 w
theorem fields_c (k : Nat) (y : B8) (oky : y.Ok) (f b n : Nat) (hf : f < 10) (hn : n ≤ 7) (h1 : f = 1 → n ≤ 4) (w : World) :
    Calls Try.prog 28 #[(guessP (k : Int) y b n).v none 0 0, y.v, .int .i64 (f : Int)] w (FPost w (cand k y f b n)) := by
  obtain ⟨y0, y1, y2, y3, y4, y5, y6, y7⟩ := y
  obtain ⟨h0, e1, e2, e3, e4, e5, e6, e7⟩ := oky
  match f, hf with
  | 0, _ => exact fields_0 _ _ _ _ _ _ _ _ _ _ _ _ _ _ _ _ _ _ _ w
  | 1, _ =>
    match n, h1 rfl with
    | 0, _ => exact fields_1_0 _ _ _ _ _ _ _ _ _ 0 _ _ _ _ _ _ _ _ _ e4 e5 e6 e7 w
    | 1, _ => exact fields_1_1 _ _ _ _ _ _ _ _ _ 0 _ _ _ _ _ _ _ _ _ e4 e5 e6 e7 w
    | 2, _ => exact fields_1_2 _ _ _ _ _ _ _ _ _ 0 _ _ _ _ _ _ _ _ _ e4 e5 e6 e7 w
    | 3, _ => exact fields_1_3 _ _ _ _ _ _ _ _ _ 0 _ _ _ _ _ _ _ _ _ e4 e5 e6 e7 w
    | 4, _ => exact fields_1_4 _ _ _ _ _ _ _ _ _ 0 _ _ _ _ _ _ _ _ _ e4 e5 e6 e7 w
  | 2, _ => exact fields_2 _ _ _ _ _ _ _ _ _ _ _ _ _ _ _ _ _ _ _ w
  | 3, _ =>
    match n, hn with
    | 0, _ => exact fields_3_0 _ _ _ _ _ _ _ _ _ 0 _ _ _ _ _ _ _ _ _ e1 e2 e3 e4 e5 e6 e7 w
    | 1, _ => exact fields_3_1 _ _ _ _ _ _ _ _ _ 0 _ _ _ _ _ _ _ _ _ e1 e2 e3 e4 e5 e6 e7 w
    | 2, _ => exact fields_3_2 _ _ _ _ _ _ _ _ _ 0 _ _ _ _ _ _ _ _ _ e1 e2 e3 e4 e5 e6 e7 w
    | 3, _ => exact fields_3_3 _ _ _ _ _ _ _ _ _ 0 _ _ _ _ _ _ _ _ _ e1 e2 e3 e4 e5 e6 e7 w
    | 4, _ => exact fields_3_4 _ _ _ _ _ _ _ _ _ 0 _ _ _ _ _ _ _ _ _ e1 e2 e3 e4 e5 e6 e7 w
    | 5, _ => exact fields_3_5 _ _ _ _ _ _ _ _ _ 0 _ _ _ _ _ _ _ _ _ e1 e2 e3 e4 e5 e6 e7 w
    | 6, _ => exact fields_3_6 _ _ _ _ _ _ _ _ _ 0 _ _ _ _ _ _ _ _ _ e1 e2 e3 e4 e5 e6 e7 w
    | 7, _ => exact fields_3_7 _ _ _ _ _ _ _ _ _ 0 _ _ _ _ _ _ _ _ _ e1 e2 e3 e4 e5 e6 e7 w
  | 4, _ => exact fields_4 _ _ _ _ _ _ _ _ _ _ _ _ _ _ _ _ _ _ _ w
  | 5, _ => exact fields_5 _ _ _ _ _ _ _ _ _ _ _ _ _ _ _ _ _ _ _ w
  | 6, _ => exact fields_6 _ _ _ _ _ _ _ _ _ _ _ _ _ _ _ _ _ _ _ e4 w
  | 7, _ => exact fields_7 _ _ _ _ _ _ _ _ _ _ _ _ _ _ _ _ _ _ _ e1 e2 w
  | 8, _ => exact fields_8 _ _ _ _ _ _ _ _ _ _ _ _ _ _ _ _ _ _ _ h0 e1 e2 w
  | 9, _ => exact fields_9 _ _ _ _ _ _ _ _ _ _ _ _ _ _ _ _ _ _ _ w
#print axioms fields_c
end Go.Proofs.Ytlnlejdjekbipaa
namespace Go.Proofs.Ytlnlejdjekbipaa
open Go.RowKit

/-- A command's box, and its data. -/
def FB (x : World) (B q : Nat) (c : Cm) (a : Option Addr) (cap : Nat) : Prop := x.heap[q]? = some (.cells (cmC c.k c.i c.s c.z c.n c.q a c.d.length cap c.t c.l c.c c.b c.e c.u c.m c.o) 36 (0, 0)) ∧ Row x a c.d.length c.d ∧ (0 < c.d.length → ∀ b off, a = some ⟨b, off, none⟩ → B < b)
theorem same_it' (a0 a1 a2 a3 a4 a5 a6 a7 : Int) : same8 a0 a1 a2 a3 a4 a5 a6 a7 a0 a1 a2 a3 a4 a5 a6 a7 = true := by simp [same8]
theorem cand_len (k : Int) (y : B8) (f b n : Nat) (hn : n ≤ 7) : (cand k y f b n).d.length ≤ 1000 := by
  unfold cand guessP
  match f with
  | 0 => simp [fieldsP]
  | 1 => simp [fieldsP] <;> omega
  | 2 => simp [fieldsP]
  | 3 => simp [fieldsP] <;> omega
  | 4 => simp [fieldsP]
  | 5 => simp [fieldsP]
  | 6 => simp [fieldsP]
  | 7 => simp [fieldsP]
  | 8 => simp [fieldsP]
  | (_ + 9) => simp [fieldsP]
theorem row_set3 {w : World} {a : Option Addr} {len B : Nat} {zs : List Int} {cs : Array Value} (h : Row w a len zs) (hB : 0 < len → ∀ b off, a = some ⟨b, off, none⟩ → b ≠ B) : Row (w.setRow B cs) a len zs :=
  ⟨h.size, h.oct, fun hp => by
    obtain ⟨b, off, e, hc⟩ := h.at_ hp
    exact ⟨b, off, e, fun i hi => by rw [World.cell?_of_block (w := w) (setRow_other _ _ _ _ (hB hp b off e))]; exact hc i hi⟩⟩

set_option linter.unusedSimpArgs false in
set_option maxHeartbeats 20000000 in
set_option maxRecDepth 100000 in
theorem command_ask (y : B8) (oky : y.Ok) (ix : Ix) (hix : IxOk ix) (hN : ix = none → askedP y = none) (hS : ∀ i, ix = some i → askedP y = some (cand (i.1 : Int) y i.2.1 i.2.2.1 i.2.2.2)) (w : World) :
    Calls Try.prog 16 #[y.v, .bool false] w (RCPost w (askedP y)) := by
  have KG : Hid (∀ W (k b n : Nat), Calls Try.prog 29 #[.int .u8 (k : Int), arr8 y.b0 y.b1 y.b2 y.b3 y.b4 y.b5 y.b6 y.b7, .bool (b.testBit 0), .bool (b.testBit 0), .bool (b.testBit 1), .bool (b.testBit 2), .bool (b.testBit 3), .int .i64 (n : Int)] W fun e w' => e = .returned ((guessP (k : Int) y b n).v none 0 0) ∧ Below W.heap.size W w') := fun W k b n => guess_c k y oky b n W
  have KF : Hid (∀ W (k f b n : Nat), f < 10 → n ≤ 7 → (f = 1 → n ≤ 4) → Calls Try.prog 28 #[(guessP (k : Int) y b n).v none 0 0, arr8 y.b0 y.b1 y.b2 y.b3 y.b4 y.b5 y.b6 y.b7, .int .i64 (f : Int)] W (FPost W (cand (k : Int) y f b n))) := fun W k f b n h1 h2 h3 => fields_c k y oky f b n h1 h2 h3 W
  have KB : Hid (∀ W (c : Cm) a cap, c.Ok → c.d.length ≤ 1000 → Row W a c.d.length c.d → Calls Try.prog 10 #[c.v a c.d.length cap, .bool false] W (BPost W (askP c))) := fun W c a cap h1 h2 h3 => rbytes_askP c h1 a cap h2 W h3
  have HO : Hid (∀ k f b n : Nat, k < 256 → n ≤ 7 → (cand (k : Int) y f b n).Ok) := fun k f b n h1 h2 => cand_ok _ (by omega) y oky f b n h2
  have HT : Hid (∀ c : Cm, c.Ok → askP c = some y → askedP y = some c) := fun c h1 h2 => askedP_back c h1 y h2
  have HU : Hid (∀ c : Cm, askedP y = some c → askP c = some y) := fun c h => (askP_of y c h).1
  have HN : Hid _ := hN
  have HS : Hid _ := hS
  have HI : Hid _ := hix
  have st : Hid (LE1 ix 1) := LE1.start hix
  clear hN hS hix
  generalize askedP y = O at HT HU HN HS ⊢
  clear oky
  have hq8 := eql8
  have M0 : Hid (QM w ((w.alloc (.cells (ar8 y.b0 y.b1 y.b2 y.b3 y.b4 y.b5 y.b6 y.b7) 31)).alloc (.cells (cmC 0 0 0 false 0 false none 0 0 false false false 0 0 0 0 0) 36)) y) := ⟨Below.al (Below.al (Below.refl _ _) _) _, ext_al (heap_new _ _), heap_at _ _ _ (by simp)⟩
  obtain ⟨y0, y1, y2, y3, y4, y5, y6, y7⟩ := y
  dsimp only at KG KF M0 ⊢
  go_enter Try.func16, Try.ntmps16
  go_wp2_with fail
  go_loopw [6] (fun kd wr => ∃ k : Nat, kd = .int .u8 (k : Int) ∧ k ≤ 12 ∧ Hid (LE1 ix k) ∧ Hid (QM w wr ⟨y0, y1, y2, y3, y4, y5, y6, y7⟩)) (fun kd _ => 12 - (intOf kd).toNat)
  case atStart => exact ⟨1, rfl, by decide, st, M0⟩
  case round =>
    obtain ⟨k, rfl, hk, H1, HM1⟩ := hrel
    clear M0
    by_cases hk11 : (k : Int) ≤ 11
    · have hkn : k ≤ 11 := by omega
      go_wp2_with fail
      go_loopw [7] (fun fd wr => ∃ f : Nat, fd = .int .i64 (f : Int) ∧ f ≤ 10 ∧ Hid (LE2 ix k f) ∧ Hid (QM w wr ⟨y0, y1, y2, y3, y4, y5, y6, y7⟩)) (fun fd _ => 10 - (intOf fd).toNat)
      case atStart => exact ⟨0, rfl, by decide, LE1.in_ H1.out, HM1⟩
      case round =>
        obtain ⟨f, rfl, hf10, H2, HM2⟩ := hrel
        by_cases hf : (f : Int) < 10
        · have hfn : f < 10 := by omega
          go_wp2_with fail
          go_loopw [8] (fun bd wr => ∃ b : Nat, bd = .int .i64 (b : Int) ∧ b ≤ 16 ∧ Hid (LE3 ix k f b) ∧ Hid (QM w wr ⟨y0, y1, y2, y3, y4, y5, y6, y7⟩)) (fun bd _ => 16 - (intOf bd).toNat)
          case atStart => exact ⟨0, rfl, by decide, LE2.in_ H2.out, HM2⟩
          case round =>
            obtain ⟨b, rfl, hb16, H3, HM3⟩ := hrel
            by_cases hb : (b : Int) < 16
            · have hbn : b < 16 := by omega
              go_wp2_with fail
              go_loopw [9] (fun nd wr => ∃ n : Nat, nd = .int .i64 (n : Int) ∧ n ≤ 8 ∧ Hid (LE4 ix k f b n) ∧ Hid (QM w wr ⟨y0, y1, y2, y3, y4, y5, y6, y7⟩)) (fun nd _ => 8 - (intOf nd).toNat)
              case atStart => exact ⟨0, rfl, by decide, LE3.in_ H3.out, HM3⟩
              case round =>
                obtain ⟨n, rfl, hn8, H4, HM4⟩ := hrel
                by_cases hn : (n : Int) ≤ 7
                · have hnn : n ≤ 7 := by omega
                  have eN : IntKind.i64.wrap ((n : Int) + 1) = ((n + 1 : Nat) : Int) := by rw [wrapI64 _ (by omega) (by omega)]; omega
                  by_cases hs : (f = 1 ∧ 4 < n) ∨ (f ≠ 1 ∧ f ≠ 3 ∧ 0 < n)
                  · have HL := LE4.skip HI.out H4.out hs
                    rcases hs with ⟨s1, s2⟩ | ⟨s1, s2, s3⟩
                    · subst s1
                      have t2 : 4 < (n : Int) := by omega
                      go_wp2_with fail
                      exact ⟨⟨n + 1, rfl, by omega, HL, HM4⟩, by simp only [intOf]; omega⟩
                    · have t1 : ((f : Int) == 1) = false := by simp; omega
                      have t1' : ((f : Int) != 1) = true := by simp; omega
                      have t2 : ((f : Int) != 3) = true := by simp; omega
                      have t3 : 0 < (n : Int) := by omega
                      go_wp2_with fail
                      exact ⟨⟨n + 1, rfl, by omega, HL, HM4⟩, by simp only [intOf]; omega⟩
                  have hok1 : f = 1 → n ≤ 4 := by omega
                  have hc4 : Hid (f = 1 ∨ f = 3 ∨ n = 0) := by show _ ∨ _ ∨ _; omega
                  go_upto_region 13 with fail
                  go_cut [46] from 25 to 82 (fun sv wx => sv = .bool false ∧ wr = wx)
                  case first =>
                    by_cases t0 : f = 1
                    · subst t0
                      have t2 : ¬ 4 < (n : Int) := by have := hok1 rfl; omega
                      go_wp2_with fail
                      go_meet
                      exact ⟨rfl, rfl⟩
                    have t1 : ((f : Int) == 1) = false := by simp; omega
                    have t1' : ((f : Int) != 1) = true := by simp; omega
                    by_cases t3 : f = 3
                    · subst t3
                      go_wp2_with fail
                      go_meet
                      exact ⟨rfl, rfl⟩
                    have t2 : ((f : Int) != 3) = true := by simp; omega
                    have t4 : n = 0 := by have := hc4.out; omega
                    subst t4
                    go_wp2_with fail
                    go_meet
                    exact ⟨rfl, rfl⟩
                  case rest =>
                    obtain ⟨rfl, rfl⟩ := hcut
                    go_upto_region 14 with fail
                    go_cut [10] from 25 to 82 (fun sv wx => ∃ (q : Nat) (a5 : Option Addr) (cap5 : Nat), sv = .pointer (some ⟨q, 0, none⟩) ∧ Hid (w.heap.size + 1 < q) ∧ Hid (QM w wx ⟨y0, y1, y2, y3, y4, y5, y6, y7⟩) ∧ Hid (FB wx (w.heap.size + 1) q (cand (k : Int) ⟨y0, y1, y2, y3, y4, y5, y6, y7⟩ f b n) a5 cap5))
                    case first =>
                      as_aux_lemma =>
                        obtain ⟨A1, hA1⟩ : ∃ A, bits .and .i64 (b : Int) 1 = A := ⟨_, rfl⟩
                        obtain ⟨A2, hA2⟩ : ∃ A, bits .and .i64 (b : Int) 2 = A := ⟨_, rfl⟩
                        obtain ⟨A4, hA4⟩ : ∃ A, bits .and .i64 (b : Int) 4 = A := ⟨_, rfl⟩
                        obtain ⟨A8, hA8⟩ : ∃ A, bits .and .i64 (b : Int) 8 = A := ⟨_, rfl⟩
                        obtain ⟨u1, u2, u4, u8⟩ := and_b b hbn
                        rw [hA1] at u1
                        rw [hA2] at u2
                        rw [hA4] at u4
                        rw [hA8] at u8
                        have HA1 : Hid _ := hA1
                        have HU1 : Hid _ := u1
                        have HA2 : Hid _ := hA2
                        have HU2 : Hid _ := u2
                        have HA4 : Hid _ := hA4
                        have HU4 : Hid _ := u4
                        have HA8 : Hid _ := hA8
                        have HU8 : Hid _ := u8
                        have KGb : Hid (∀ W, Calls Try.prog 29 #[.int .u8 (k : Int), arr8 y0 y1 y2 y3 y4 y5 y6 y7, .bool (b.testBit 0), .bool (b.testBit 0), .bool (b.testBit 1), .bool (b.testBit 2), .bool (b.testBit 3), .int .i64 (n : Int)] W fun e w' => e = .returned ((guessP (k : Int) ⟨y0, y1, y2, y3, y4, y5, y6, y7⟩ b n).v none 0 0) ∧ Below W.heap.size W w') := fun W => KG.out W k b n
                        have KFb : Hid (∀ W, Calls Try.prog 28 #[(guessP (k : Int) ⟨y0, y1, y2, y3, y4, y5, y6, y7⟩ b n).v none 0 0, arr8 y0 y1 y2 y3 y4 y5 y6 y7, .int .i64 (f : Int)] W (FPost W (cand (k : Int) ⟨y0, y1, y2, y3, y4, y5, y6, y7⟩ f b n))) := fun W => KF.out W k f b n hfn hnn hok1
                        generalize (guessP (k : Int) ⟨y0, y1, y2, y3, y4, y5, y6, y7⟩ b n).v none 0 0 = G at KGb KFb
                        generalize b.testBit 0 = T0 at KGb HU1
                        generalize b.testBit 1 = T1 at KGb HU2
                        generalize b.testBit 2 = T2 at KGb HU4
                        generalize b.testBit 3 = T3 at KGb HU8
                        clear hA1 hA2 hA4 hA8 u1 u2 u4 u8 KB KG KF HO HT HU HN HS HI hq8 H1 H2 H3 H4 HM1 HM2 HM3 hc4
                        go_wp2_with fail
                        refine wp_region_held_drew (S := fun x => QM w x ⟨y0, y1, y2, y3, y4, y5, y6, y7⟩) (by kernel_rfl) (HM4.out.drew) (fun hHeld => ?_)
                        refine tk 0 (.int .u8 (k : Int)) rfl (.inl ⟨by rfl, ?_⟩) ?_
                        · intro w9 hSw
                          try dsimp only at hSw
                          go_simp
                          all_goals try decide
                          all_goals try assumption
                          all_goals try omega
                        try simp only [Act.put, gA, gS, gZ, sA, sZ, sS]
                        refine tk 1 (arr8 y0 y1 y2 y3 y4 y5 y6 y7) rfl (.inl ⟨by rfl, ?_⟩) ?_
                        · intro w9 hSw
                          try dsimp only at hSw
                          exact ex_load 31 (.tmp 2) rfl _ _ rfl (load8 _ _ _ _ _ _ _ _ _ _ _ hSw.2.1)
                        try simp only [Act.put, gA, gS, gZ, sA, sZ, sS]
                        refine tk 2 (.int .i64 (b : Int)) rfl (.inl ⟨by rfl, ?_⟩) ?_
                        · intro w9 hSw
                          try dsimp only at hSw
                          go_simp
                          all_goals try decide
                          all_goals try assumption
                          all_goals try omega
                        try simp only [Act.put, gA, gS, gZ, sA, sZ, sS]
                        refine tk 3 (.int .i64 A1) rfl (.inl ⟨by rfl, ?_⟩) ?_
                        · intro w9 hSw
                          try dsimp only at hSw
                          go_simp
                          all_goals first | exact HA1.out | (rw [HA1.out]; done) | (simp only [HA1.out]; done) | skip
                        try simp only [Act.put, gA, gS, gZ, sA, sZ, sS]
                        refine tk 4 (.bool T0) rfl (.inl ⟨by rfl, ?_⟩) ?_
                        · intro w9 hSw
                          try dsimp only at hSw
                          go_simp
                          all_goals first | exact HU1.out | (rw [HU1.out]; done) | (simp only [HU1.out]; done) | skip
                        try simp only [Act.put, gA, gS, gZ, sA, sZ, sS]
                        refine tk 5 (.int .i64 (b : Int)) rfl (.inl ⟨by rfl, ?_⟩) ?_
                        · intro w9 hSw
                          try dsimp only at hSw
                          go_simp
                          all_goals try decide
                          all_goals try assumption
                          all_goals try omega
                        try simp only [Act.put, gA, gS, gZ, sA, sZ, sS]
                        refine tk 6 (.int .i64 A1) rfl (.inl ⟨by rfl, ?_⟩) ?_
                        · intro w9 hSw
                          try dsimp only at hSw
                          go_simp
                          all_goals first | exact HA1.out | (rw [HA1.out]; done) | (simp only [HA1.out]; done) | skip
                        try simp only [Act.put, gA, gS, gZ, sA, sZ, sS]
                        refine tk 7 (.bool T0) rfl (.inl ⟨by rfl, ?_⟩) ?_
                        · intro w9 hSw
                          try dsimp only at hSw
                          go_simp
                          all_goals first | exact HU1.out | (rw [HU1.out]; done) | (simp only [HU1.out]; done) | skip
                        try simp only [Act.put, gA, gS, gZ, sA, sZ, sS]
                        refine tk 8 (.int .i64 (b : Int)) rfl (.inl ⟨by rfl, ?_⟩) ?_
                        · intro w9 hSw
                          try dsimp only at hSw
                          go_simp
                          all_goals try decide
                          all_goals try assumption
                          all_goals try omega
                        try simp only [Act.put, gA, gS, gZ, sA, sZ, sS]
                        refine tk 9 (.int .i64 A2) rfl (.inl ⟨by rfl, ?_⟩) ?_
                        · intro w9 hSw
                          try dsimp only at hSw
                          go_simp
                          all_goals first | exact HA2.out | (rw [HA2.out]; done) | (simp only [HA2.out]; done) | skip
                        try simp only [Act.put, gA, gS, gZ, sA, sZ, sS]
                        refine tk 10 (.bool T1) rfl (.inl ⟨by rfl, ?_⟩) ?_
                        · intro w9 hSw
                          try dsimp only at hSw
                          go_simp
                          all_goals first | exact HU2.out | (rw [HU2.out]; done) | (simp only [HU2.out]; done) | skip
                        try simp only [Act.put, gA, gS, gZ, sA, sZ, sS]
                        refine tk 11 (.int .i64 (b : Int)) rfl (.inl ⟨by rfl, ?_⟩) ?_
                        · intro w9 hSw
                          try dsimp only at hSw
                          go_simp
                          all_goals try decide
                          all_goals try assumption
                          all_goals try omega
                        try simp only [Act.put, gA, gS, gZ, sA, sZ, sS]
                        refine tk 12 (.int .i64 A4) rfl (.inl ⟨by rfl, ?_⟩) ?_
                        · intro w9 hSw
                          try dsimp only at hSw
                          go_simp
                          all_goals first | exact HA4.out | (rw [HA4.out]; done) | (simp only [HA4.out]; done) | skip
                        try simp only [Act.put, gA, gS, gZ, sA, sZ, sS]
                        refine tk 13 (.bool T2) rfl (.inl ⟨by rfl, ?_⟩) ?_
                        · intro w9 hSw
                          try dsimp only at hSw
                          go_simp
                          all_goals first | exact HU4.out | (rw [HU4.out]; done) | (simp only [HU4.out]; done) | skip
                        try simp only [Act.put, gA, gS, gZ, sA, sZ, sS]
                        refine tk 14 (.int .i64 (b : Int)) rfl (.inl ⟨by rfl, ?_⟩) ?_
                        · intro w9 hSw
                          try dsimp only at hSw
                          go_simp
                          all_goals try decide
                          all_goals try assumption
                          all_goals try omega
                        try simp only [Act.put, gA, gS, gZ, sA, sZ, sS]
                        refine tk 15 (.int .i64 A8) rfl (.inl ⟨by rfl, ?_⟩) ?_
                        · intro w9 hSw
                          try dsimp only at hSw
                          go_simp
                          all_goals first | exact HA8.out | (rw [HA8.out]; done) | (simp only [HA8.out]; done) | skip
                        try simp only [Act.put, gA, gS, gZ, sA, sZ, sS]
                        refine tk 16 (.bool T3) rfl (.inl ⟨by rfl, ?_⟩) ?_
                        · intro w9 hSw
                          try dsimp only at hSw
                          go_simp
                          all_goals first | exact HU8.out | (rw [HU8.out]; done) | (simp only [HU8.out]; done) | skip
                        try simp only [Act.put, gA, gS, gZ, sA, sZ, sS]
                        refine tk 17 (.int .i64 (n : Int)) rfl (.inl ⟨by rfl, ?_⟩) ?_
                        · intro w9 hSw
                          try dsimp only at hSw
                          go_simp
                          all_goals try decide
                          all_goals try assumption
                          all_goals try omega
                        try simp only [Act.put, gA, gS, gZ, sA, sZ, sS]
                        refine tk 19 (arr8 y0 y1 y2 y3 y4 y5 y6 y7) rfl (.inl ⟨by rfl, ?_⟩) ?_
                        · intro w9 hSw
                          try dsimp only at hSw
                          exact ex_load 31 (.tmp 2) rfl _ _ rfl (load8 _ _ _ _ _ _ _ _ _ _ _ hSw.2.1)
                        try simp only [Act.put, gA, gS, gZ, sA, sZ, sS]
                        refine tk 20 (.int .i64 (f : Int)) rfl (.inl ⟨by rfl, ?_⟩) ?_
                        · intro w9 hSw
                          try dsimp only at hSw
                          go_simp
                          all_goals try decide
                          all_goals try assumption
                          all_goals try omega
                        try simp only [Act.put, gA, gS, gZ, sA, sZ, sS]
                        refine wpAnyH_ready (rs := [18, 22]) (by kernel_rfl) (by simp) ?_
                        refine AllReadyH.cons rfl (fun K' hK => ?_) (AllReadyH.cons rfl (fun K' hK => ?_) AllReadyH.nil)
                        · rw [if_pos (by rfl)]
                          simp only [gA, gS, gZ]
                          go_wp2_with fail
                          refine (KGb.out _).mono ?_
                          rintro r wg ⟨rfl, hbg⟩
                          try go_wp2_with fail
                          have hQ := QM.next hHeld hbg
                          refine hK.out _ _ hQ (fun hHeld => ?_)
                          clear hK K' hQ
                          try simp only [Act.put, gA, gS, gZ, sA, sZ, sS]
                          refine wpAnyH_ready (rs := [21, 22]) (by kernel_rfl) (by simp) ?_
                          refine AllReadyH.cons rfl (fun K' hK => ?_) (AllReadyH.cons rfl (fun K' hK => ?_) AllReadyH.nil)
                          · rw [if_pos (by rfl)]
                            simp only [gA, gS, gZ]
                            have hsz := (Array.getElem?_eq_some_iff.1 hHeld.2.2).1
                            go_wp2_with fail
                            refine (KFb.out _).mono ?_
                            rintro r wf ⟨a5, cap5, rfl, hrow, hfr, hbf⟩
                            try go_wp2_with fail
                            have hQ := QM.next hHeld hbf
                            refine hK.out _ _ hQ (fun hHeld => ?_)
                            clear hK K' hQ
                            try simp only [Act.put, gA, gS, gZ, sA, sZ, sS]
                            refine wpAnyH_ready (rs := [22]) (by kernel_rfl) (by simp) ?_
                            refine AllReadyH.cons rfl (fun K' hK => ?_) AllReadyH.nil
                            rw [if_pos (by rfl)]
                            simp only [gA, gS, gZ]
                            have hlt : w.heap.size + 1 < (wf).heap.size := (Array.getElem?_eq_some_iff.1 hHeld.2.2).1
                            have hP := heap_new (wf) (.cells (cmC 0 0 0 false 0 false none 0 0 false false false 0 0 0 0 0) 36)
                            have hQ := QM.al hHeld (.cells (cmC 0 0 0 false 0 false none 0 0 false false false 0 0 0 0 0) 36)
                            go_wp2_with fail
                            refine hK.out _ _ hQ (fun hHeld => ?_)
                            clear hK K' hQ
                            try simp only [Act.put, gA, gS, gZ, sA, sZ, sS]
                            refine wpAnyH_ready (rs := [23]) (by kernel_rfl) (by simp) ?_
                            refine AllReadyH.cons rfl (fun K' hK => ?_) AllReadyH.nil
                            rw [if_pos (by rfl)]
                            simp only [gA, gS, gZ]
                            refine wp_store_by 36 (.tmp 10) (.tmp 68) rfl _ _ rfl rfl (storeRC _ _ _ _ _ _ _ _ _ _ _ _ _ _ _ _ _ _ _ _ _ hP rfl) ?_
                            refine hK.out _ _ (QM.set hHeld _ hlt _) (fun hHeld => ?_)
                            clear hK K'
                            try simp only [Act.put, gA, gS, gZ, sA, sZ, sS]
                            refine wpAnyH_done (by kernel_rfl) ?_ _
                            go_wp2_with fail
                            go_meet
                            exact ⟨_, a5, cap5, rfl, hlt, hHeld, setRow_heap _ _ _ _ _ _ hP, row_set3 (hrow.next (Below.al (Below.refl _ _) _)) (fun hp b off e => Nat.ne_of_lt (hrow.old hp b off e)), fun _ b off e => Nat.lt_of_lt_of_le hsz (hfr b off e)⟩
                          · rw [if_pos (by rfl)]
                            simp only [gA, gS, gZ]
                            have hlt : w.heap.size + 1 < (wg).heap.size := (Array.getElem?_eq_some_iff.1 hHeld.2.2).1
                            have hP := heap_new (wg) (.cells (cmC 0 0 0 false 0 false none 0 0 false false false 0 0 0 0 0) 36)
                            have hQ := QM.al hHeld (.cells (cmC 0 0 0 false 0 false none 0 0 false false false 0 0 0 0 0) 36)
                            go_wp2_with fail
                            refine hK.out _ _ hQ (fun hHeld => ?_)
                            clear hK K' hQ
                            try simp only [Act.put, gA, gS, gZ, sA, sZ, sS]
                            refine wpAnyH_ready (rs := [21]) (by kernel_rfl) (by simp) ?_
                            refine AllReadyH.cons rfl (fun K' hK => ?_) AllReadyH.nil
                            rw [if_pos (by rfl)]
                            simp only [gA, gS, gZ]
                            have hsz := (Array.getElem?_eq_some_iff.1 hHeld.2.2).1
                            go_wp2_with fail
                            refine (KFb.out _).mono ?_
                            rintro r wf ⟨a5, cap5, rfl, hrow, hfr, hbf⟩
                            try go_wp2_with fail
                            have hQ := QM.next hHeld hbf
                            have hPl := (Array.getElem?_eq_some_iff.1 hP).1
                            replace hP := blk' hbf hP
                            refine hK.out _ _ hQ (fun hHeld => ?_)
                            clear hK K' hQ
                            try simp only [Act.put, gA, gS, gZ, sA, sZ, sS]
                            refine wpAnyH_ready (rs := [23]) (by kernel_rfl) (by simp) ?_
                            refine AllReadyH.cons rfl (fun K' hK => ?_) AllReadyH.nil
                            rw [if_pos (by rfl)]
                            simp only [gA, gS, gZ]
                            refine wp_store_by 36 (.tmp 10) (.tmp 68) rfl _ _ rfl rfl (storeRC _ _ _ _ _ _ _ _ _ _ _ _ _ _ _ _ _ _ _ _ _ hP rfl) ?_
                            refine hK.out _ _ (QM.set hHeld _ hlt _) (fun hHeld => ?_)
                            clear hK K'
                            try simp only [Act.put, gA, gS, gZ, sA, sZ, sS]
                            refine wpAnyH_done (by kernel_rfl) ?_ _
                            go_wp2_with fail
                            go_meet
                            exact ⟨_, a5, cap5, rfl, hlt, hHeld, setRow_heap _ _ _ _ _ _ hP, row_set3 hrow (fun _ b off e => Nat.ne_of_gt (Nat.lt_of_lt_of_le hPl (hfr b off e))), fun _ b off e => Nat.lt_of_lt_of_le hsz (hfr b off e)⟩
                        · rw [if_pos (by rfl)]
                          simp only [gA, gS, gZ]
                          have hlt : w.heap.size + 1 < (wr.drew).heap.size := (Array.getElem?_eq_some_iff.1 hHeld.2.2).1
                          have hP := heap_new (wr.drew) (.cells (cmC 0 0 0 false 0 false none 0 0 false false false 0 0 0 0 0) 36)
                          have hQ := QM.al hHeld (.cells (cmC 0 0 0 false 0 false none 0 0 false false false 0 0 0 0 0) 36)
                          go_wp2_with fail
                          refine hK.out _ _ hQ (fun hHeld => ?_)
                          clear hK K' hQ
                          try simp only [Act.put, gA, gS, gZ, sA, sZ, sS]
                          refine wpAnyH_ready (rs := [18]) (by kernel_rfl) (by simp) ?_
                          refine AllReadyH.cons rfl (fun K' hK => ?_) AllReadyH.nil
                          rw [if_pos (by rfl)]
                          simp only [gA, gS, gZ]
                          go_wp2_with fail
                          refine (KGb.out _).mono ?_
                          rintro r wg ⟨rfl, hbg⟩
                          try go_wp2_with fail
                          have hQ := QM.next hHeld hbg
                          replace hP := blk' hbg hP
                          refine hK.out _ _ hQ (fun hHeld => ?_)
                          clear hK K' hQ
                          try simp only [Act.put, gA, gS, gZ, sA, sZ, sS]
                          refine wpAnyH_ready (rs := [21]) (by kernel_rfl) (by simp) ?_
                          refine AllReadyH.cons rfl (fun K' hK => ?_) AllReadyH.nil
                          rw [if_pos (by rfl)]
                          simp only [gA, gS, gZ]
                          have hsz := (Array.getElem?_eq_some_iff.1 hHeld.2.2).1
                          go_wp2_with fail
                          refine (KFb.out _).mono ?_
                          rintro r wf ⟨a5, cap5, rfl, hrow, hfr, hbf⟩
                          try go_wp2_with fail
                          have hQ := QM.next hHeld hbf
                          have hPl := (Array.getElem?_eq_some_iff.1 hP).1
                          replace hP := blk' hbf hP
                          refine hK.out _ _ hQ (fun hHeld => ?_)
                          clear hK K' hQ
                          try simp only [Act.put, gA, gS, gZ, sA, sZ, sS]
                          refine wpAnyH_ready (rs := [23]) (by kernel_rfl) (by simp) ?_
                          refine AllReadyH.cons rfl (fun K' hK => ?_) AllReadyH.nil
                          rw [if_pos (by rfl)]
                          simp only [gA, gS, gZ]
                          refine wp_store_by 36 (.tmp 10) (.tmp 68) rfl _ _ rfl rfl (storeRC _ _ _ _ _ _ _ _ _ _ _ _ _ _ _ _ _ _ _ _ _ hP rfl) ?_
                          refine hK.out _ _ (QM.set hHeld _ hlt _) (fun hHeld => ?_)
                          clear hK K'
                          try simp only [Act.put, gA, gS, gZ, sA, sZ, sS]
                          refine wpAnyH_done (by kernel_rfl) ?_ _
                          go_wp2_with fail
                          go_meet
                          exact ⟨_, a5, cap5, rfl, hlt, hHeld, setRow_heap _ _ _ _ _ _ hP, row_set3 hrow (fun _ b off e => Nat.ne_of_gt (Nat.lt_of_lt_of_le hPl (hfr b off e))), fun _ b off e => Nat.lt_of_lt_of_le hsz (hfr b off e)⟩
                    case rest =>
                      obtain ⟨q, a5, cap5, rfl, hq, HM5, HF5⟩ := hcut
                      have okc := HO.out k f b n (by omega) hnn
                      have hHU := HU.out (cand (k : Int) ⟨y0, y1, y2, y3, y4, y5, y6, y7⟩ f b n)
                      have hHT := HT.out (cand (k : Int) ⟨y0, y1, y2, y3, y4, y5, y6, y7⟩ f b n) okc
                      have hne : Hid (¬ O = some (cand (k : Int) ⟨y0, y1, y2, y3, y4, y5, y6, y7⟩ f b n) → LE4 ix k f b (n + 1)) := fun h => H4.out.step (fun e => h (by have := HS.out _ e; simpa using this))
                      obtain ⟨x0, x1, x2, x3, x4, x5, x6, x7, ec, PA, hec⟩ := bytes_gen' (askP (cand (k : Int) ⟨y0, y1, y2, y3, y4, y5, y6, y7⟩ f b n))
                      have KB1 : Hid (∀ W a cap, Row W a (cand (k : Int) ⟨y0, y1, y2, y3, y4, y5, y6, y7⟩ f b n).d.length (cand (k : Int) ⟨y0, y1, y2, y3, y4, y5, y6, y7⟩ f b n).d → Calls Try.prog 10 #[(cand (k : Int) ⟨y0, y1, y2, y3, y4, y5, y6, y7⟩ f b n).v a (cand (k : Int) ⟨y0, y1, y2, y3, y4, y5, y6, y7⟩ f b n).d.length cap, .bool false] W fun r w' => r = .returned (.tuple #[arr8 x0 x1 x2 x3 x4 x5 x6 x7, .int .i64 ec]) ∧ Below W.heap.size W w') := fun W a cap h => (KB.out W _ a cap okc (cand_len _ _ f b n hnn) h).mono (fun r w' hp => PA _ _ _ hp)
                      have HE : Hid _ := hec
                      clear PA hec okc
                      have HHU : Hid _ := hHU
                      have HHT : Hid _ := hHT
                      clear hHU hHT
                      generalize cand (k : Int) ⟨y0, y1, y2, y3, y4, y5, y6, y7⟩ f b n = c at *
                      obtain ⟨ck, ci, cs, cz, cn, cq, cd, ct, cl, cc, cb, ce, cu, cm, co⟩ := c
                      dsimp only at *
                      obtain ⟨hfb, hfr, hfn5⟩ := HF5.out
                      dsimp only at hfb hfr hfn5
                      obtain ⟨len5, hl5⟩ : ∃ len5, cd.length = len5 := ⟨_, rfl⟩
                      rw [hl5] at hfb hfr hfn5 KB1
                      have HN5 : Hid _ := hfn5
                      clear hfn5 HF5
                      go_wp2_with (refine wpList_load_by rfl 36 _ rfl _ _ rfl (loadRC _ q _ _ _ _ _ _ _ _ _ _ _ _ _ _ _ _ _ _ hfb) ?_)
                      refine (KB1.out _ a5 cap5 hfr).mono ?_
                      rintro r w6 ⟨rfl, hb6⟩
                      have HM6 : Hid (QM w (w6.alloc (.cells (ar8 x0 x1 x2 x3 x4 x5 x6 x7) 31)) ⟨y0, y1, y2, y3, y4, y5, y6, y7⟩) := (HM5.out.next hb6).al _
                      have hfb6 := ext_al (o := .cells (ar8 x0 x1 x2 x3 x4 x5 x6 x7) 31) (blk' hb6 hfb)
                      have hfr6 : Hid (Row (w6.alloc (.cells (ar8 x0 x1 x2 x3 x4 x5 x6 x7) 31)) a5 len5 cd) := (hfr.next hb6).next (Below.al (Below.refl _ _) _)
                      clear hb6 hfb hfr
                      rcases HE.out with ⟨hP, rfl⟩ | ⟨hP, rfl⟩
                      · by_cases hxy : (⟨x0, x1, x2, x3, x4, x5, x6, x7⟩ : B8) = ⟨y0, y1, y2, y3, y4, y5, y6, y7⟩
                        · as_aux_lemma =>
                            have hO : O = some ⟨ck, ci, cs, cz, cn, cq, cd, ct, cl, cc, cb, ce, cu, cm, co⟩ := HHT.out (by rw [hP, hxy])
                            subst hO
                            cases hxy
                            have hss := same_it' y0 y1 y2 y3 y4 y5 y6 y7
                            have hR := HM6.out.2.2
                            have hW := HM6.out.1
                            have fx0 : (w6.alloc (.cells (ar8 y0 y1 y2 y3 y4 y5 y6 y7) 31)).cell? ⟨w6.heap.size, 0, none⟩ = some (.int .u8 y0) := by rw [cell_of_row _ _ 0 _ _ _ (heap_new _ _)]; rfl
                            have fx1 : (w6.alloc (.cells (ar8 y0 y1 y2 y3 y4 y5 y6 y7) 31)).cell? ⟨w6.heap.size, 1, none⟩ = some (.int .u8 y1) := by rw [cell_of_row _ _ 1 _ _ _ (heap_new _ _)]; rfl
                            have fx2 : (w6.alloc (.cells (ar8 y0 y1 y2 y3 y4 y5 y6 y7) 31)).cell? ⟨w6.heap.size, 2, none⟩ = some (.int .u8 y2) := by rw [cell_of_row _ _ 2 _ _ _ (heap_new _ _)]; rfl
                            have fx3 : (w6.alloc (.cells (ar8 y0 y1 y2 y3 y4 y5 y6 y7) 31)).cell? ⟨w6.heap.size, 3, none⟩ = some (.int .u8 y3) := by rw [cell_of_row _ _ 3 _ _ _ (heap_new _ _)]; rfl
                            have fx4 : (w6.alloc (.cells (ar8 y0 y1 y2 y3 y4 y5 y6 y7) 31)).cell? ⟨w6.heap.size, 4, none⟩ = some (.int .u8 y4) := by rw [cell_of_row _ _ 4 _ _ _ (heap_new _ _)]; rfl
                            have fx5 : (w6.alloc (.cells (ar8 y0 y1 y2 y3 y4 y5 y6 y7) 31)).cell? ⟨w6.heap.size, 5, none⟩ = some (.int .u8 y5) := by rw [cell_of_row _ _ 5 _ _ _ (heap_new _ _)]; rfl
                            have fx6 : (w6.alloc (.cells (ar8 y0 y1 y2 y3 y4 y5 y6 y7) 31)).cell? ⟨w6.heap.size, 6, none⟩ = some (.int .u8 y6) := by rw [cell_of_row _ _ 6 _ _ _ (heap_new _ _)]; rfl
                            have fx7 : (w6.alloc (.cells (ar8 y0 y1 y2 y3 y4 y5 y6 y7) 31)).cell? ⟨w6.heap.size, 7, none⟩ = some (.int .u8 y7) := by rw [cell_of_row _ _ 7 _ _ _ (heap_new _ _)]; rfl
                            have fy0 : (w6.alloc (.cells (ar8 y0 y1 y2 y3 y4 y5 y6 y7) 31)).cell? ⟨w.heap.size, 0, none⟩ = some (.int .u8 y0) := by rw [cell_of_row _ _ 0 _ _ _ HM6.out.2.1]; rfl
                            have fy1 : (w6.alloc (.cells (ar8 y0 y1 y2 y3 y4 y5 y6 y7) 31)).cell? ⟨w.heap.size, 1, none⟩ = some (.int .u8 y1) := by rw [cell_of_row _ _ 1 _ _ _ HM6.out.2.1]; rfl
                            have fy2 : (w6.alloc (.cells (ar8 y0 y1 y2 y3 y4 y5 y6 y7) 31)).cell? ⟨w.heap.size, 2, none⟩ = some (.int .u8 y2) := by rw [cell_of_row _ _ 2 _ _ _ HM6.out.2.1]; rfl
                            have fy3 : (w6.alloc (.cells (ar8 y0 y1 y2 y3 y4 y5 y6 y7) 31)).cell? ⟨w.heap.size, 3, none⟩ = some (.int .u8 y3) := by rw [cell_of_row _ _ 3 _ _ _ HM6.out.2.1]; rfl
                            have fy4 : (w6.alloc (.cells (ar8 y0 y1 y2 y3 y4 y5 y6 y7) 31)).cell? ⟨w.heap.size, 4, none⟩ = some (.int .u8 y4) := by rw [cell_of_row _ _ 4 _ _ _ HM6.out.2.1]; rfl
                            have fy5 : (w6.alloc (.cells (ar8 y0 y1 y2 y3 y4 y5 y6 y7) 31)).cell? ⟨w.heap.size, 5, none⟩ = some (.int .u8 y5) := by rw [cell_of_row _ _ 5 _ _ _ HM6.out.2.1]; rfl
                            have fy6 : (w6.alloc (.cells (ar8 y0 y1 y2 y3 y4 y5 y6 y7) 31)).cell? ⟨w.heap.size, 6, none⟩ = some (.int .u8 y6) := by rw [cell_of_row _ _ 6 _ _ _ HM6.out.2.1]; rfl
                            have fy7 : (w6.alloc (.cells (ar8 y0 y1 y2 y3 y4 y5 y6 y7) 31)).cell? ⟨w.heap.size, 7, none⟩ = some (.int .u8 y7) := by rw [cell_of_row _ _ 7 _ _ _ HM6.out.2.1]; rfl
                            go_wp2_with (first | (refine wpList_load_by rfl 36 _ rfl _ _ rfl (loadRC _ q _ _ _ _ _ _ _ _ _ _ _ _ _ _ _ _ _ _ hfb6) ?_) | (refine wpList_store_by rfl 36 _ _ rfl _ _ rfl rfl (storeRC _ (w.heap.size + 1) (cmC 0 0 0 false 0 false none 0 0 false false false 0 0 0 0 0) ck ci cs cz cn cq a5 len5 cap5 ct cl cc cb ce cu cm co _ hR rfl) ?_))
                            have hc := fun j => cell_of_row _ (w.heap.size + 1) j _ _ _ (setRow_heap _ _ _ (cmC ck ci cs cz cn cq a5 len5 cap5 ct cl cc cb ce cu cm co) _ _ hR)
                            refine bodyPost_ret (v := .tuple #[cmV ck ci cs cz cn cq a5 len5 cap5 ct cl cc cb ce cu cm co, .int .i64 0]) ?_ rfl ⟨a5, cap5, by rw [hl5], by rw [hl5]; exact row_set3 hfr6.out (fun hp b off e => Nat.ne_of_gt (HN5.out hp b off e)), fun hp b off e => Nat.le_of_lt (Nat.lt_of_succ_lt (HN5.out (by rw [← hl5]; exact hp) b off e)), below_setRow hW (Nat.le_succ _) _⟩
                            simp [results, Try.results16, go_sem, hc]
                        · as_aux_lemma =>
                            have hO : ¬ O = some ⟨ck, ci, cs, cz, cn, cq, cd, ct, cl, cc, cb, ce, cu, cm, co⟩ := fun e => hxy (Option.some.inj (hP.symm.trans (HHU.out e)))
                            have HL := hne.out hO
                            have hss : same8 x0 x1 x2 x3 x4 x5 x6 x7 y0 y1 y2 y3 y4 y5 y6 y7 = false := by rw [same8_iff ⟨x0, x1, x2, x3, x4, x5, x6, x7⟩ ⟨y0, y1, y2, y3, y4, y5, y6, y7⟩]; exact decide_eq_false hxy
                            have fx0 : (w6.alloc (.cells (ar8 x0 x1 x2 x3 x4 x5 x6 x7) 31)).cell? ⟨w6.heap.size, 0, none⟩ = some (.int .u8 x0) := by rw [cell_of_row _ _ 0 _ _ _ (heap_new _ _)]; rfl
                            have fx1 : (w6.alloc (.cells (ar8 x0 x1 x2 x3 x4 x5 x6 x7) 31)).cell? ⟨w6.heap.size, 1, none⟩ = some (.int .u8 x1) := by rw [cell_of_row _ _ 1 _ _ _ (heap_new _ _)]; rfl
                            have fx2 : (w6.alloc (.cells (ar8 x0 x1 x2 x3 x4 x5 x6 x7) 31)).cell? ⟨w6.heap.size, 2, none⟩ = some (.int .u8 x2) := by rw [cell_of_row _ _ 2 _ _ _ (heap_new _ _)]; rfl
                            have fx3 : (w6.alloc (.cells (ar8 x0 x1 x2 x3 x4 x5 x6 x7) 31)).cell? ⟨w6.heap.size, 3, none⟩ = some (.int .u8 x3) := by rw [cell_of_row _ _ 3 _ _ _ (heap_new _ _)]; rfl
                            have fx4 : (w6.alloc (.cells (ar8 x0 x1 x2 x3 x4 x5 x6 x7) 31)).cell? ⟨w6.heap.size, 4, none⟩ = some (.int .u8 x4) := by rw [cell_of_row _ _ 4 _ _ _ (heap_new _ _)]; rfl
                            have fx5 : (w6.alloc (.cells (ar8 x0 x1 x2 x3 x4 x5 x6 x7) 31)).cell? ⟨w6.heap.size, 5, none⟩ = some (.int .u8 x5) := by rw [cell_of_row _ _ 5 _ _ _ (heap_new _ _)]; rfl
                            have fx6 : (w6.alloc (.cells (ar8 x0 x1 x2 x3 x4 x5 x6 x7) 31)).cell? ⟨w6.heap.size, 6, none⟩ = some (.int .u8 x6) := by rw [cell_of_row _ _ 6 _ _ _ (heap_new _ _)]; rfl
                            have fx7 : (w6.alloc (.cells (ar8 x0 x1 x2 x3 x4 x5 x6 x7) 31)).cell? ⟨w6.heap.size, 7, none⟩ = some (.int .u8 x7) := by rw [cell_of_row _ _ 7 _ _ _ (heap_new _ _)]; rfl
                            have fy0 : (w6.alloc (.cells (ar8 x0 x1 x2 x3 x4 x5 x6 x7) 31)).cell? ⟨w.heap.size, 0, none⟩ = some (.int .u8 y0) := by rw [cell_of_row _ _ 0 _ _ _ HM6.out.2.1]; rfl
                            have fy1 : (w6.alloc (.cells (ar8 x0 x1 x2 x3 x4 x5 x6 x7) 31)).cell? ⟨w.heap.size, 1, none⟩ = some (.int .u8 y1) := by rw [cell_of_row _ _ 1 _ _ _ HM6.out.2.1]; rfl
                            have fy2 : (w6.alloc (.cells (ar8 x0 x1 x2 x3 x4 x5 x6 x7) 31)).cell? ⟨w.heap.size, 2, none⟩ = some (.int .u8 y2) := by rw [cell_of_row _ _ 2 _ _ _ HM6.out.2.1]; rfl
                            have fy3 : (w6.alloc (.cells (ar8 x0 x1 x2 x3 x4 x5 x6 x7) 31)).cell? ⟨w.heap.size, 3, none⟩ = some (.int .u8 y3) := by rw [cell_of_row _ _ 3 _ _ _ HM6.out.2.1]; rfl
                            have fy4 : (w6.alloc (.cells (ar8 x0 x1 x2 x3 x4 x5 x6 x7) 31)).cell? ⟨w.heap.size, 4, none⟩ = some (.int .u8 y4) := by rw [cell_of_row _ _ 4 _ _ _ HM6.out.2.1]; rfl
                            have fy5 : (w6.alloc (.cells (ar8 x0 x1 x2 x3 x4 x5 x6 x7) 31)).cell? ⟨w.heap.size, 5, none⟩ = some (.int .u8 y5) := by rw [cell_of_row _ _ 5 _ _ _ HM6.out.2.1]; rfl
                            have fy6 : (w6.alloc (.cells (ar8 x0 x1 x2 x3 x4 x5 x6 x7) 31)).cell? ⟨w.heap.size, 6, none⟩ = some (.int .u8 y6) := by rw [cell_of_row _ _ 6 _ _ _ HM6.out.2.1]; rfl
                            have fy7 : (w6.alloc (.cells (ar8 x0 x1 x2 x3 x4 x5 x6 x7) 31)).cell? ⟨w.heap.size, 7, none⟩ = some (.int .u8 y7) := by rw [cell_of_row _ _ 7 _ _ _ HM6.out.2.1]; rfl
                            go_wp2_with fail
                            exact ⟨⟨n + 1, rfl, by omega, HL, HM6⟩, by simp only [intOf]; omega⟩
                      · as_aux_lemma =>
                          have hO : ¬ O = some ⟨ck, ci, cs, cz, cn, cq, cd, ct, cl, cc, cb, ce, cu, cm, co⟩ := fun e => by have := hP.symm.trans (HHU.out e); cases this
                          have HL := hne.out hO
                          go_wp2_with fail
                          exact ⟨⟨n + 1, rfl, by omega, HL, HM6⟩, by simp only [intOf]; omega⟩
                · have hn' : n = 8 := by omega
                  have eB : IntKind.i64.wrap ((b : Int) + 1) = ((b + 1 : Nat) : Int) := by rw [wrapI64 _ (by omega) (by omega)]; omega
                  go_wp2_with fail
                  exact ⟨⟨b + 1, rfl, by omega, LE4.out HI.out (by omega) H4.out, HM4⟩, by simp only [intOf]; omega⟩
            · have hb' : b = 16 := by omega
              have eF : IntKind.i64.wrap ((f : Int) + 1) = ((f + 1 : Nat) : Int) := by rw [wrapI64 _ (by omega) (by omega)]; omega
              go_wp2_with fail
              exact ⟨⟨f + 1, rfl, by omega, LE3.out HI.out (by omega) H3.out, HM3⟩, by simp only [intOf]; omega⟩
        · have eK : IntKind.u8.wrap ((k : Int) + 1) = ((k + 1 : Nat) : Int) := by rw [wrap8]; omega
          go_wp2_with fail
          exact ⟨⟨k + 1, rfl, by omega, LE2.out HI.out (by omega) H2.out, HM2⟩, by simp only [intOf]; omega⟩
    · have hk12 : k = 12 := by omega
      subst hk12
      have hO : O = none := HN.out (LE1.out HI.out (by decide) H1.out)
      subst hO
      have hR := HM1.out.2.2
      have hW := HM1.out.1
      go_wp2_with (refine wpList_store_by rfl 36 _ _ rfl _ _ rfl rfl (storeRC _ (w.heap.size + 1) (cmC 0 0 0 false 0 false none 0 0 false false false 0 0 0 0 0) 0 0 0 false 0 false none 0 0 false false false 0 0 0 0 0 _ hR rfl) ?_)
      have hc := fun j => cell_of_row _ (w.heap.size + 1) j _ _ _ (setRow_heap _ _ _ (cmC 0 0 0 false 0 false none 0 0 false false false 0 0 0 0 0) _ _ hR)
      refine bodyPost_ret (v := .tuple #[cmV 0 0 0 false 0 false none 0 0 false false false 0 0 0 0 0, .int .i64 11]) ?_ rfl ⟨rfl, below_setRow hW (Nat.le_succ _) _⟩
      simp [results, Try.results16, go_sem, hc]
#print axioms command_ask
end Go.Proofs.Ytlnlejdjekbipaa
namespace Go.Proofs.Ytlnlejdjekbipaa
open Go.RowKit

set_option linter.unusedSimpArgs false in
set_option maxHeartbeats 20000000 in
set_option maxRecDepth 100000 in
theorem command_ans (y : B8) (oky : y.Ok) (ix : Ix) (hix : IxOk ix) (hN : ix = none → answeredP y = none) (hS : ∀ i, ix = some i → answeredP y = some (cand (i.1 : Int) y i.2.1 i.2.2.1 i.2.2.2)) (w : World) :
    Calls Try.prog 16 #[y.v, .bool true] w (RCPost w (answeredP y)) := by
  have KG : Hid (∀ W (k b n : Nat), Calls Try.prog 29 #[.int .u8 (k : Int), arr8 y.b0 y.b1 y.b2 y.b3 y.b4 y.b5 y.b6 y.b7, .bool (b.testBit 0), .bool (b.testBit 0), .bool (b.testBit 1), .bool (b.testBit 2), .bool (b.testBit 3), .int .i64 (n : Int)] W fun e w' => e = .returned ((guessP (k : Int) y b n).v none 0 0) ∧ Below W.heap.size W w') := fun W k b n => guess_c k y oky b n W
  have KF : Hid (∀ W (k f b n : Nat), f < 10 → n ≤ 7 → (f = 1 → n ≤ 4) → Calls Try.prog 28 #[(guessP (k : Int) y b n).v none 0 0, arr8 y.b0 y.b1 y.b2 y.b3 y.b4 y.b5 y.b6 y.b7, .int .i64 (f : Int)] W (FPost W (cand (k : Int) y f b n))) := fun W k f b n h1 h2 h3 => fields_c k y oky f b n h1 h2 h3 W
  have KB : Hid (∀ W (c : Cm) a cap, c.Ok → c.d.length ≤ 1000 → Row W a c.d.length c.d → Calls Try.prog 10 #[c.v a c.d.length cap, .bool true] W (BPost W (ansP c))) := fun W c a cap h1 h2 h3 => rbytes_ansP c h1 a cap h2 W h3
  have HO : Hid (∀ k f b n : Nat, k < 256 → n ≤ 7 → (cand (k : Int) y f b n).Ok) := fun k f b n h1 h2 => cand_ok _ (by omega) y oky f b n h2
  have HT : Hid (∀ c : Cm, c.Ok → ansP c = some y → answeredP y = some c) := fun c h1 h2 => answeredP_back c h1 y h2
  have HU : Hid (∀ c : Cm, answeredP y = some c → ansP c = some y) := fun c h => (ansP_of y c h).1
  have HN : Hid _ := hN
  have HS : Hid _ := hS
  have HI : Hid _ := hix
  have st : Hid (LE1 ix 1) := LE1.start hix
  clear hN hS hix
  generalize answeredP y = O at HT HU HN HS ⊢
  clear oky
  have hq8 := eql8
  have M0 : Hid (QM w ((w.alloc (.cells (ar8 y.b0 y.b1 y.b2 y.b3 y.b4 y.b5 y.b6 y.b7) 31)).alloc (.cells (cmC 0 0 0 false 0 false none 0 0 false false false 0 0 0 0 0) 36)) y) := ⟨Below.al (Below.al (Below.refl _ _) _) _, ext_al (heap_new _ _), heap_at _ _ _ (by simp)⟩
  obtain ⟨y0, y1, y2, y3, y4, y5, y6, y7⟩ := y
  dsimp only at KG KF M0 ⊢
  go_enter Try.func16, Try.ntmps16
  go_wp2_with fail
  go_loopw [6] (fun kd wr => ∃ k : Nat, kd = .int .u8 (k : Int) ∧ k ≤ 12 ∧ Hid (LE1 ix k) ∧ Hid (QM w wr ⟨y0, y1, y2, y3, y4, y5, y6, y7⟩)) (fun kd _ => 12 - (intOf kd).toNat)
  case atStart => exact ⟨1, rfl, by decide, st, M0⟩
  case round =>
    obtain ⟨k, rfl, hk, H1, HM1⟩ := hrel
    clear M0
    by_cases hk11 : (k : Int) ≤ 11
    · have hkn : k ≤ 11 := by omega
      go_wp2_with fail
      go_loopw [7] (fun fd wr => ∃ f : Nat, fd = .int .i64 (f : Int) ∧ f ≤ 10 ∧ Hid (LE2 ix k f) ∧ Hid (QM w wr ⟨y0, y1, y2, y3, y4, y5, y6, y7⟩)) (fun fd _ => 10 - (intOf fd).toNat)
      case atStart => exact ⟨0, rfl, by decide, LE1.in_ H1.out, HM1⟩
      case round =>
        obtain ⟨f, rfl, hf10, H2, HM2⟩ := hrel
        by_cases hf : (f : Int) < 10
        · have hfn : f < 10 := by omega
          go_wp2_with fail
          go_loopw [8] (fun bd wr => ∃ b : Nat, bd = .int .i64 (b : Int) ∧ b ≤ 16 ∧ Hid (LE3 ix k f b) ∧ Hid (QM w wr ⟨y0, y1, y2, y3, y4, y5, y6, y7⟩)) (fun bd _ => 16 - (intOf bd).toNat)
          case atStart => exact ⟨0, rfl, by decide, LE2.in_ H2.out, HM2⟩
          case round =>
            obtain ⟨b, rfl, hb16, H3, HM3⟩ := hrel
            by_cases hb : (b : Int) < 16
            · have hbn : b < 16 := by omega
              go_wp2_with fail
              go_loopw [9] (fun nd wr => ∃ n : Nat, nd = .int .i64 (n : Int) ∧ n ≤ 8 ∧ Hid (LE4 ix k f b n) ∧ Hid (QM w wr ⟨y0, y1, y2, y3, y4, y5, y6, y7⟩)) (fun nd _ => 8 - (intOf nd).toNat)
              case atStart => exact ⟨0, rfl, by decide, LE3.in_ H3.out, HM3⟩
              case round =>
                obtain ⟨n, rfl, hn8, H4, HM4⟩ := hrel
                by_cases hn : (n : Int) ≤ 7
                · have hnn : n ≤ 7 := by omega
                  have eN : IntKind.i64.wrap ((n : Int) + 1) = ((n + 1 : Nat) : Int) := by rw [wrapI64 _ (by omega) (by omega)]; omega
                  by_cases hs : (f = 1 ∧ 4 < n) ∨ (f ≠ 1 ∧ f ≠ 3 ∧ 0 < n)
                  · have HL := LE4.skip HI.out H4.out hs
                    rcases hs with ⟨s1, s2⟩ | ⟨s1, s2, s3⟩
                    · subst s1
                      have t2 : 4 < (n : Int) := by omega
                      go_wp2_with fail
                      exact ⟨⟨n + 1, rfl, by omega, HL, HM4⟩, by simp only [intOf]; omega⟩
                    · have t1 : ((f : Int) == 1) = false := by simp; omega
                      have t1' : ((f : Int) != 1) = true := by simp; omega
                      have t2 : ((f : Int) != 3) = true := by simp; omega
                      have t3 : 0 < (n : Int) := by omega
                      go_wp2_with fail
                      exact ⟨⟨n + 1, rfl, by omega, HL, HM4⟩, by simp only [intOf]; omega⟩
                  have hok1 : f = 1 → n ≤ 4 := by omega
                  have hc4 : Hid (f = 1 ∨ f = 3 ∨ n = 0) := by show _ ∨ _ ∨ _; omega
                  go_upto_region 13 with fail
                  go_cut [46] from 25 to 82 (fun sv wx => sv = .bool false ∧ wr = wx)
                  case first =>
                    by_cases t0 : f = 1
                    · subst t0
                      have t2 : ¬ 4 < (n : Int) := by have := hok1 rfl; omega
                      go_wp2_with fail
                      go_meet
                      exact ⟨rfl, rfl⟩
                    have t1 : ((f : Int) == 1) = false := by simp; omega
                    have t1' : ((f : Int) != 1) = true := by simp; omega
                    by_cases t3 : f = 3
                    · subst t3
                      go_wp2_with fail
                      go_meet
                      exact ⟨rfl, rfl⟩
                    have t2 : ((f : Int) != 3) = true := by simp; omega
                    have t4 : n = 0 := by have := hc4.out; omega
                    subst t4
                    go_wp2_with fail
                    go_meet
                    exact ⟨rfl, rfl⟩
                  case rest =>
                    obtain ⟨rfl, rfl⟩ := hcut
                    go_upto_region 14 with fail
                    go_cut [10] from 25 to 82 (fun sv wx => ∃ (q : Nat) (a5 : Option Addr) (cap5 : Nat), sv = .pointer (some ⟨q, 0, none⟩) ∧ Hid (w.heap.size + 1 < q) ∧ Hid (QM w wx ⟨y0, y1, y2, y3, y4, y5, y6, y7⟩) ∧ Hid (FB wx (w.heap.size + 1) q (cand (k : Int) ⟨y0, y1, y2, y3, y4, y5, y6, y7⟩ f b n) a5 cap5))
                    case first =>
                      as_aux_lemma =>
                        obtain ⟨A1, hA1⟩ : ∃ A, bits .and .i64 (b : Int) 1 = A := ⟨_, rfl⟩
                        obtain ⟨A2, hA2⟩ : ∃ A, bits .and .i64 (b : Int) 2 = A := ⟨_, rfl⟩
                        obtain ⟨A4, hA4⟩ : ∃ A, bits .and .i64 (b : Int) 4 = A := ⟨_, rfl⟩
                        obtain ⟨A8, hA8⟩ : ∃ A, bits .and .i64 (b : Int) 8 = A := ⟨_, rfl⟩
                        obtain ⟨u1, u2, u4, u8⟩ := and_b b hbn
                        rw [hA1] at u1
                        rw [hA2] at u2
                        rw [hA4] at u4
                        rw [hA8] at u8
                        have HA1 : Hid _ := hA1
                        have HU1 : Hid _ := u1
                        have HA2 : Hid _ := hA2
                        have HU2 : Hid _ := u2
                        have HA4 : Hid _ := hA4
                        have HU4 : Hid _ := u4
                        have HA8 : Hid _ := hA8
                        have HU8 : Hid _ := u8
                        have KGb : Hid (∀ W, Calls Try.prog 29 #[.int .u8 (k : Int), arr8 y0 y1 y2 y3 y4 y5 y6 y7, .bool (b.testBit 0), .bool (b.testBit 0), .bool (b.testBit 1), .bool (b.testBit 2), .bool (b.testBit 3), .int .i64 (n : Int)] W fun e w' => e = .returned ((guessP (k : Int) ⟨y0, y1, y2, y3, y4, y5, y6, y7⟩ b n).v none 0 0) ∧ Below W.heap.size W w') := fun W => KG.out W k b n
                        have KFb : Hid (∀ W, Calls Try.prog 28 #[(guessP (k : Int) ⟨y0, y1, y2, y3, y4, y5, y6, y7⟩ b n).v none 0 0, arr8 y0 y1 y2 y3 y4 y5 y6 y7, .int .i64 (f : Int)] W (FPost W (cand (k : Int) ⟨y0, y1, y2, y3, y4, y5, y6, y7⟩ f b n))) := fun W => KF.out W k f b n hfn hnn hok1
                        generalize (guessP (k : Int) ⟨y0, y1, y2, y3, y4, y5, y6, y7⟩ b n).v none 0 0 = G at KGb KFb
                        generalize b.testBit 0 = T0 at KGb HU1
                        generalize b.testBit 1 = T1 at KGb HU2
                        generalize b.testBit 2 = T2 at KGb HU4
                        generalize b.testBit 3 = T3 at KGb HU8
                        clear hA1 hA2 hA4 hA8 u1 u2 u4 u8 KB KG KF HO HT HU HN HS HI hq8 H1 H2 H3 H4 HM1 HM2 HM3 hc4
                        go_wp2_with fail
                        refine wp_region_held_drew (S := fun x => QM w x ⟨y0, y1, y2, y3, y4, y5, y6, y7⟩) (by kernel_rfl) (HM4.out.drew) (fun hHeld => ?_)
                        refine tk 0 (.int .u8 (k : Int)) rfl (.inl ⟨by rfl, ?_⟩) ?_
                        · intro w9 hSw
                          try dsimp only at hSw
                          go_simp
                          all_goals try decide
                          all_goals try assumption
                          all_goals try omega
                        try simp only [Act.put, gA, gS, gZ, sA, sZ, sS]
                        refine tk 1 (arr8 y0 y1 y2 y3 y4 y5 y6 y7) rfl (.inl ⟨by rfl, ?_⟩) ?_
                        · intro w9 hSw
                          try dsimp only at hSw
                          exact ex_load 31 (.tmp 2) rfl _ _ rfl (load8 _ _ _ _ _ _ _ _ _ _ _ hSw.2.1)
                        try simp only [Act.put, gA, gS, gZ, sA, sZ, sS]
                        refine tk 2 (.int .i64 (b : Int)) rfl (.inl ⟨by rfl, ?_⟩) ?_
                        · intro w9 hSw
                          try dsimp only at hSw
                          go_simp
                          all_goals try decide
                          all_goals try assumption
                          all_goals try omega
                        try simp only [Act.put, gA, gS, gZ, sA, sZ, sS]
                        refine tk 3 (.int .i64 A1) rfl (.inl ⟨by rfl, ?_⟩) ?_
                        · intro w9 hSw
                          try dsimp only at hSw
                          go_simp
                          all_goals first | exact HA1.out | (rw [HA1.out]; done) | (simp only [HA1.out]; done) | skip
                        try simp only [Act.put, gA, gS, gZ, sA, sZ, sS]
                        refine tk 4 (.bool T0) rfl (.inl ⟨by rfl, ?_⟩) ?_
                        · intro w9 hSw
                          try dsimp only at hSw
                          go_simp
                          all_goals first | exact HU1.out | (rw [HU1.out]; done) | (simp only [HU1.out]; done) | skip
                        try simp only [Act.put, gA, gS, gZ, sA, sZ, sS]
                        refine tk 5 (.int .i64 (b : Int)) rfl (.inl ⟨by rfl, ?_⟩) ?_
                        · intro w9 hSw
                          try dsimp only at hSw
                          go_simp
                          all_goals try decide
                          all_goals try assumption
                          all_goals try omega
                        try simp only [Act.put, gA, gS, gZ, sA, sZ, sS]
                        refine tk 6 (.int .i64 A1) rfl (.inl ⟨by rfl, ?_⟩) ?_
                        · intro w9 hSw
                          try dsimp only at hSw
                          go_simp
                          all_goals first | exact HA1.out | (rw [HA1.out]; done) | (simp only [HA1.out]; done) | skip
                        try simp only [Act.put, gA, gS, gZ, sA, sZ, sS]
                        refine tk 7 (.bool T0) rfl (.inl ⟨by rfl, ?_⟩) ?_
                        · intro w9 hSw
                          try dsimp only at hSw
                          go_simp
                          all_goals first | exact HU1.out | (rw [HU1.out]; done) | (simp only [HU1.out]; done) | skip
                        try simp only [Act.put, gA, gS, gZ, sA, sZ, sS]
                        refine tk 8 (.int .i64 (b : Int)) rfl (.inl ⟨by rfl, ?_⟩) ?_
                        · intro w9 hSw
                          try dsimp only at hSw
                          go_simp
                          all_goals try decide
                          all_goals try assumption
                          all_goals try omega
                        try simp only [Act.put, gA, gS, gZ, sA, sZ, sS]
                        refine tk 9 (.int .i64 A2) rfl (.inl ⟨by rfl, ?_⟩) ?_
                        · intro w9 hSw
                          try dsimp only at hSw
                          go_simp
                          all_goals first | exact HA2.out | (rw [HA2.out]; done) | (simp only [HA2.out]; done) | skip
                        try simp only [Act.put, gA, gS, gZ, sA, sZ, sS]
                        refine tk 10 (.bool T1) rfl (.inl ⟨by rfl, ?_⟩) ?_
                        · intro w9 hSw
                          try dsimp only at hSw
                          go_simp
                          all_goals first | exact HU2.out | (rw [HU2.out]; done) | (simp only [HU2.out]; done) | skip
                        try simp only [Act.put, gA, gS, gZ, sA, sZ, sS]
                        refine tk 11 (.int .i64 (b : Int)) rfl (.inl ⟨by rfl, ?_⟩) ?_
                        · intro w9 hSw
                          try dsimp only at hSw
                          go_simp
                          all_goals try decide
                          all_goals try assumption
                          all_goals try omega
                        try simp only [Act.put, gA, gS, gZ, sA, sZ, sS]
                        refine tk 12 (.int .i64 A4) rfl (.inl ⟨by rfl, ?_⟩) ?_
                        · intro w9 hSw
                          try dsimp only at hSw
                          go_simp
                          all_goals first | exact HA4.out | (rw [HA4.out]; done) | (simp only [HA4.out]; done) | skip
                        try simp only [Act.put, gA, gS, gZ, sA, sZ, sS]
                        refine tk 13 (.bool T2) rfl (.inl ⟨by rfl, ?_⟩) ?_
                        · intro w9 hSw
                          try dsimp only at hSw
                          go_simp
                          all_goals first | exact HU4.out | (rw [HU4.out]; done) | (simp only [HU4.out]; done) | skip
                        try simp only [Act.put, gA, gS, gZ, sA, sZ, sS]
                        refine tk 14 (.int .i64 (b : Int)) rfl (.inl ⟨by rfl, ?_⟩) ?_
                        · intro w9 hSw
                          try dsimp only at hSw
                          go_simp
                          all_goals try decide
                          all_goals try assumption
                          all_goals try omega
                        try simp only [Act.put, gA, gS, gZ, sA, sZ, sS]
                        refine tk 15 (.int .i64 A8) rfl (.inl ⟨by rfl, ?_⟩) ?_
                        · intro w9 hSw
                          try dsimp only at hSw
                          go_simp
                          all_goals first | exact HA8.out | (rw [HA8.out]; done) | (simp only [HA8.out]; done) | skip
                        try simp only [Act.put, gA, gS, gZ, sA, sZ, sS]
                        refine tk 16 (.bool T3) rfl (.inl ⟨by rfl, ?_⟩) ?_
                        · intro w9 hSw
                          try dsimp only at hSw
                          go_simp
                          all_goals first | exact HU8.out | (rw [HU8.out]; done) | (simp only [HU8.out]; done) | skip
                        try simp only [Act.put, gA, gS, gZ, sA, sZ, sS]
                        refine tk 17 (.int .i64 (n : Int)) rfl (.inl ⟨by rfl, ?_⟩) ?_
                        · intro w9 hSw
                          try dsimp only at hSw
                          go_simp
                          all_goals try decide
                          all_goals try assumption
                          all_goals try omega
                        try simp only [Act.put, gA, gS, gZ, sA, sZ, sS]
                        refine tk 19 (arr8 y0 y1 y2 y3 y4 y5 y6 y7) rfl (.inl ⟨by rfl, ?_⟩) ?_
                        · intro w9 hSw
                          try dsimp only at hSw
                          exact ex_load 31 (.tmp 2) rfl _ _ rfl (load8 _ _ _ _ _ _ _ _ _ _ _ hSw.2.1)
                        try simp only [Act.put, gA, gS, gZ, sA, sZ, sS]
                        refine tk 20 (.int .i64 (f : Int)) rfl (.inl ⟨by rfl, ?_⟩) ?_
                        · intro w9 hSw
                          try dsimp only at hSw
                          go_simp
                          all_goals try decide
                          all_goals try assumption
                          all_goals try omega
                        try simp only [Act.put, gA, gS, gZ, sA, sZ, sS]
                        refine wpAnyH_ready (rs := [18, 22]) (by kernel_rfl) (by simp) ?_
                        refine AllReadyH.cons rfl (fun K' hK => ?_) (AllReadyH.cons rfl (fun K' hK => ?_) AllReadyH.nil)
                        · rw [if_pos (by rfl)]
                          simp only [gA, gS, gZ]
                          go_wp2_with fail
                          refine (KGb.out _).mono ?_
                          rintro r wg ⟨rfl, hbg⟩
                          try go_wp2_with fail
                          have hQ := QM.next hHeld hbg
                          refine hK.out _ _ hQ (fun hHeld => ?_)
                          clear hK K' hQ
                          try simp only [Act.put, gA, gS, gZ, sA, sZ, sS]
                          refine wpAnyH_ready (rs := [21, 22]) (by kernel_rfl) (by simp) ?_
                          refine AllReadyH.cons rfl (fun K' hK => ?_) (AllReadyH.cons rfl (fun K' hK => ?_) AllReadyH.nil)
                          · rw [if_pos (by rfl)]
                            simp only [gA, gS, gZ]
                            have hsz := (Array.getElem?_eq_some_iff.1 hHeld.2.2).1
                            go_wp2_with fail
                            refine (KFb.out _).mono ?_
                            rintro r wf ⟨a5, cap5, rfl, hrow, hfr, hbf⟩
                            try go_wp2_with fail
                            have hQ := QM.next hHeld hbf
                            refine hK.out _ _ hQ (fun hHeld => ?_)
                            clear hK K' hQ
                            try simp only [Act.put, gA, gS, gZ, sA, sZ, sS]
                            refine wpAnyH_ready (rs := [22]) (by kernel_rfl) (by simp) ?_
                            refine AllReadyH.cons rfl (fun K' hK => ?_) AllReadyH.nil
                            rw [if_pos (by rfl)]
                            simp only [gA, gS, gZ]
                            have hlt : w.heap.size + 1 < (wf).heap.size := (Array.getElem?_eq_some_iff.1 hHeld.2.2).1
                            have hP := heap_new (wf) (.cells (cmC 0 0 0 false 0 false none 0 0 false false false 0 0 0 0 0) 36)
                            have hQ := QM.al hHeld (.cells (cmC 0 0 0 false 0 false none 0 0 false false false 0 0 0 0 0) 36)
                            go_wp2_with fail
                            refine hK.out _ _ hQ (fun hHeld => ?_)
                            clear hK K' hQ
                            try simp only [Act.put, gA, gS, gZ, sA, sZ, sS]
                            refine wpAnyH_ready (rs := [23]) (by kernel_rfl) (by simp) ?_
                            refine AllReadyH.cons rfl (fun K' hK => ?_) AllReadyH.nil
                            rw [if_pos (by rfl)]
                            simp only [gA, gS, gZ]
                            refine wp_store_by 36 (.tmp 10) (.tmp 68) rfl _ _ rfl rfl (storeRC _ _ _ _ _ _ _ _ _ _ _ _ _ _ _ _ _ _ _ _ _ hP rfl) ?_
                            refine hK.out _ _ (QM.set hHeld _ hlt _) (fun hHeld => ?_)
                            clear hK K'
                            try simp only [Act.put, gA, gS, gZ, sA, sZ, sS]
                            refine wpAnyH_done (by kernel_rfl) ?_ _
                            go_wp2_with fail
                            go_meet
                            exact ⟨_, a5, cap5, rfl, hlt, hHeld, setRow_heap _ _ _ _ _ _ hP, row_set3 (hrow.next (Below.al (Below.refl _ _) _)) (fun hp b off e => Nat.ne_of_lt (hrow.old hp b off e)), fun _ b off e => Nat.lt_of_lt_of_le hsz (hfr b off e)⟩
                          · rw [if_pos (by rfl)]
                            simp only [gA, gS, gZ]
                            have hlt : w.heap.size + 1 < (wg).heap.size := (Array.getElem?_eq_some_iff.1 hHeld.2.2).1
                            have hP := heap_new (wg) (.cells (cmC 0 0 0 false 0 false none 0 0 false false false 0 0 0 0 0) 36)
                            have hQ := QM.al hHeld (.cells (cmC 0 0 0 false 0 false none 0 0 false false false 0 0 0 0 0) 36)
                            go_wp2_with fail
                            refine hK.out _ _ hQ (fun hHeld => ?_)
                            clear hK K' hQ
                            try simp only [Act.put, gA, gS, gZ, sA, sZ, sS]
                            refine wpAnyH_ready (rs := [21]) (by kernel_rfl) (by simp) ?_
                            refine AllReadyH.cons rfl (fun K' hK => ?_) AllReadyH.nil
                            rw [if_pos (by rfl)]
                            simp only [gA, gS, gZ]
                            have hsz := (Array.getElem?_eq_some_iff.1 hHeld.2.2).1
                            go_wp2_with fail
                            refine (KFb.out _).mono ?_
                            rintro r wf ⟨a5, cap5, rfl, hrow, hfr, hbf⟩
                            try go_wp2_with fail
                            have hQ := QM.next hHeld hbf
                            have hPl := (Array.getElem?_eq_some_iff.1 hP).1
                            replace hP := blk' hbf hP
                            refine hK.out _ _ hQ (fun hHeld => ?_)
                            clear hK K' hQ
                            try simp only [Act.put, gA, gS, gZ, sA, sZ, sS]
                            refine wpAnyH_ready (rs := [23]) (by kernel_rfl) (by simp) ?_
                            refine AllReadyH.cons rfl (fun K' hK => ?_) AllReadyH.nil
                            rw [if_pos (by rfl)]
                            simp only [gA, gS, gZ]
                            refine wp_store_by 36 (.tmp 10) (.tmp 68) rfl _ _ rfl rfl (storeRC _ _ _ _ _ _ _ _ _ _ _ _ _ _ _ _ _ _ _ _ _ hP rfl) ?_
                            refine hK.out _ _ (QM.set hHeld _ hlt _) (fun hHeld => ?_)
                            clear hK K'
                            try simp only [Act.put, gA, gS, gZ, sA, sZ, sS]
                            refine wpAnyH_done (by kernel_rfl) ?_ _
                            go_wp2_with fail
                            go_meet
                            exact ⟨_, a5, cap5, rfl, hlt, hHeld, setRow_heap _ _ _ _ _ _ hP, row_set3 hrow (fun _ b off e => Nat.ne_of_gt (Nat.lt_of_lt_of_le hPl (hfr b off e))), fun _ b off e => Nat.lt_of_lt_of_le hsz (hfr b off e)⟩
                        · rw [if_pos (by rfl)]
                          simp only [gA, gS, gZ]
                          have hlt : w.heap.size + 1 < (wr.drew).heap.size := (Array.getElem?_eq_some_iff.1 hHeld.2.2).1
                          have hP := heap_new (wr.drew) (.cells (cmC 0 0 0 false 0 false none 0 0 false false false 0 0 0 0 0) 36)
                          have hQ := QM.al hHeld (.cells (cmC 0 0 0 false 0 false none 0 0 false false false 0 0 0 0 0) 36)
                          go_wp2_with fail
                          refine hK.out _ _ hQ (fun hHeld => ?_)
                          clear hK K' hQ
                          try simp only [Act.put, gA, gS, gZ, sA, sZ, sS]
                          refine wpAnyH_ready (rs := [18]) (by kernel_rfl) (by simp) ?_
                          refine AllReadyH.cons rfl (fun K' hK => ?_) AllReadyH.nil
                          rw [if_pos (by rfl)]
                          simp only [gA, gS, gZ]
                          go_wp2_with fail
                          refine (KGb.out _).mono ?_
                          rintro r wg ⟨rfl, hbg⟩
                          try go_wp2_with fail
                          have hQ := QM.next hHeld hbg
                          replace hP := blk' hbg hP
                          refine hK.out _ _ hQ (fun hHeld => ?_)
                          clear hK K' hQ
                          try simp only [Act.put, gA, gS, gZ, sA, sZ, sS]
                          refine wpAnyH_ready (rs := [21]) (by kernel_rfl) (by simp) ?_
                          refine AllReadyH.cons rfl (fun K' hK => ?_) AllReadyH.nil
                          rw [if_pos (by rfl)]
                          simp only [gA, gS, gZ]
                          have hsz := (Array.getElem?_eq_some_iff.1 hHeld.2.2).1
                          go_wp2_with fail
                          refine (KFb.out _).mono ?_
                          rintro r wf ⟨a5, cap5, rfl, hrow, hfr, hbf⟩
                          try go_wp2_with fail
                          have hQ := QM.next hHeld hbf
                          have hPl := (Array.getElem?_eq_some_iff.1 hP).1
                          replace hP := blk' hbf hP
                          refine hK.out _ _ hQ (fun hHeld => ?_)
                          clear hK K' hQ
                          try simp only [Act.put, gA, gS, gZ, sA, sZ, sS]
                          refine wpAnyH_ready (rs := [23]) (by kernel_rfl) (by simp) ?_
                          refine AllReadyH.cons rfl (fun K' hK => ?_) AllReadyH.nil
                          rw [if_pos (by rfl)]
                          simp only [gA, gS, gZ]
                          refine wp_store_by 36 (.tmp 10) (.tmp 68) rfl _ _ rfl rfl (storeRC _ _ _ _ _ _ _ _ _ _ _ _ _ _ _ _ _ _ _ _ _ hP rfl) ?_
                          refine hK.out _ _ (QM.set hHeld _ hlt _) (fun hHeld => ?_)
                          clear hK K'
                          try simp only [Act.put, gA, gS, gZ, sA, sZ, sS]
                          refine wpAnyH_done (by kernel_rfl) ?_ _
                          go_wp2_with fail
                          go_meet
                          exact ⟨_, a5, cap5, rfl, hlt, hHeld, setRow_heap _ _ _ _ _ _ hP, row_set3 hrow (fun _ b off e => Nat.ne_of_gt (Nat.lt_of_lt_of_le hPl (hfr b off e))), fun _ b off e => Nat.lt_of_lt_of_le hsz (hfr b off e)⟩
                    case rest =>
                      obtain ⟨q, a5, cap5, rfl, hq, HM5, HF5⟩ := hcut
                      have okc := HO.out k f b n (by omega) hnn
                      have hHU := HU.out (cand (k : Int) ⟨y0, y1, y2, y3, y4, y5, y6, y7⟩ f b n)
                      have hHT := HT.out (cand (k : Int) ⟨y0, y1, y2, y3, y4, y5, y6, y7⟩ f b n) okc
                      have hne : Hid (¬ O = some (cand (k : Int) ⟨y0, y1, y2, y3, y4, y5, y6, y7⟩ f b n) → LE4 ix k f b (n + 1)) := fun h => H4.out.step (fun e => h (by have := HS.out _ e; simpa using this))
                      obtain ⟨x0, x1, x2, x3, x4, x5, x6, x7, ec, PA, hec⟩ := bytes_gen' (ansP (cand (k : Int) ⟨y0, y1, y2, y3, y4, y5, y6, y7⟩ f b n))
                      have KB1 : Hid (∀ W a cap, Row W a (cand (k : Int) ⟨y0, y1, y2, y3, y4, y5, y6, y7⟩ f b n).d.length (cand (k : Int) ⟨y0, y1, y2, y3, y4, y5, y6, y7⟩ f b n).d → Calls Try.prog 10 #[(cand (k : Int) ⟨y0, y1, y2, y3, y4, y5, y6, y7⟩ f b n).v a (cand (k : Int) ⟨y0, y1, y2, y3, y4, y5, y6, y7⟩ f b n).d.length cap, .bool true] W fun r w' => r = .returned (.tuple #[arr8 x0 x1 x2 x3 x4 x5 x6 x7, .int .i64 ec]) ∧ Below W.heap.size W w') := fun W a cap h => (KB.out W _ a cap okc (cand_len _ _ f b n hnn) h).mono (fun r w' hp => PA _ _ _ hp)
                      have HE : Hid _ := hec
                      clear PA hec okc
                      have HHU : Hid _ := hHU
                      have HHT : Hid _ := hHT
                      clear hHU hHT
                      generalize cand (k : Int) ⟨y0, y1, y2, y3, y4, y5, y6, y7⟩ f b n = c at *
                      obtain ⟨ck, ci, cs, cz, cn, cq, cd, ct, cl, cc, cb, ce, cu, cm, co⟩ := c
                      dsimp only at *
                      obtain ⟨hfb, hfr, hfn5⟩ := HF5.out
                      dsimp only at hfb hfr hfn5
                      obtain ⟨len5, hl5⟩ : ∃ len5, cd.length = len5 := ⟨_, rfl⟩
                      rw [hl5] at hfb hfr hfn5 KB1
                      have HN5 : Hid _ := hfn5
                      clear hfn5 HF5
                      go_wp2_with (refine wpList_load_by rfl 36 _ rfl _ _ rfl (loadRC _ q _ _ _ _ _ _ _ _ _ _ _ _ _ _ _ _ _ _ hfb) ?_)
                      refine (KB1.out _ a5 cap5 hfr).mono ?_
                      rintro r w6 ⟨rfl, hb6⟩
                      have HM6 : Hid (QM w (w6.alloc (.cells (ar8 x0 x1 x2 x3 x4 x5 x6 x7) 31)) ⟨y0, y1, y2, y3, y4, y5, y6, y7⟩) := (HM5.out.next hb6).al _
                      have hfb6 := ext_al (o := .cells (ar8 x0 x1 x2 x3 x4 x5 x6 x7) 31) (blk' hb6 hfb)
                      have hfr6 : Hid (Row (w6.alloc (.cells (ar8 x0 x1 x2 x3 x4 x5 x6 x7) 31)) a5 len5 cd) := (hfr.next hb6).next (Below.al (Below.refl _ _) _)
                      clear hb6 hfb hfr
                      rcases HE.out with ⟨hP, rfl⟩ | ⟨hP, rfl⟩
                      · by_cases hxy : (⟨x0, x1, x2, x3, x4, x5, x6, x7⟩ : B8) = ⟨y0, y1, y2, y3, y4, y5, y6, y7⟩
                        · as_aux_lemma =>
                            have hO : O = some ⟨ck, ci, cs, cz, cn, cq, cd, ct, cl, cc, cb, ce, cu, cm, co⟩ := HHT.out (by rw [hP, hxy])
                            subst hO
                            cases hxy
                            have hss := same_it' y0 y1 y2 y3 y4 y5 y6 y7
                            have hR := HM6.out.2.2
                            have hW := HM6.out.1
                            have fx0 : (w6.alloc (.cells (ar8 y0 y1 y2 y3 y4 y5 y6 y7) 31)).cell? ⟨w6.heap.size, 0, none⟩ = some (.int .u8 y0) := by rw [cell_of_row _ _ 0 _ _ _ (heap_new _ _)]; rfl
                            have fx1 : (w6.alloc (.cells (ar8 y0 y1 y2 y3 y4 y5 y6 y7) 31)).cell? ⟨w6.heap.size, 1, none⟩ = some (.int .u8 y1) := by rw [cell_of_row _ _ 1 _ _ _ (heap_new _ _)]; rfl
                            have fx2 : (w6.alloc (.cells (ar8 y0 y1 y2 y3 y4 y5 y6 y7) 31)).cell? ⟨w6.heap.size, 2, none⟩ = some (.int .u8 y2) := by rw [cell_of_row _ _ 2 _ _ _ (heap_new _ _)]; rfl
                            have fx3 : (w6.alloc (.cells (ar8 y0 y1 y2 y3 y4 y5 y6 y7) 31)).cell? ⟨w6.heap.size, 3, none⟩ = some (.int .u8 y3) := by rw [cell_of_row _ _ 3 _ _ _ (heap_new _ _)]; rfl
                            have fx4 : (w6.alloc (.cells (ar8 y0 y1 y2 y3 y4 y5 y6 y7) 31)).cell? ⟨w6.heap.size, 4, none⟩ = some (.int .u8 y4) := by rw [cell_of_row _ _ 4 _ _ _ (heap_new _ _)]; rfl
                            have fx5 : (w6.alloc (.cells (ar8 y0 y1 y2 y3 y4 y5 y6 y7) 31)).cell? ⟨w6.heap.size, 5, none⟩ = some (.int .u8 y5) := by rw [cell_of_row _ _ 5 _ _ _ (heap_new _ _)]; rfl
                            have fx6 : (w6.alloc (.cells (ar8 y0 y1 y2 y3 y4 y5 y6 y7) 31)).cell? ⟨w6.heap.size, 6, none⟩ = some (.int .u8 y6) := by rw [cell_of_row _ _ 6 _ _ _ (heap_new _ _)]; rfl
                            have fx7 : (w6.alloc (.cells (ar8 y0 y1 y2 y3 y4 y5 y6 y7) 31)).cell? ⟨w6.heap.size, 7, none⟩ = some (.int .u8 y7) := by rw [cell_of_row _ _ 7 _ _ _ (heap_new _ _)]; rfl
                            have fy0 : (w6.alloc (.cells (ar8 y0 y1 y2 y3 y4 y5 y6 y7) 31)).cell? ⟨w.heap.size, 0, none⟩ = some (.int .u8 y0) := by rw [cell_of_row _ _ 0 _ _ _ HM6.out.2.1]; rfl
                            have fy1 : (w6.alloc (.cells (ar8 y0 y1 y2 y3 y4 y5 y6 y7) 31)).cell? ⟨w.heap.size, 1, none⟩ = some (.int .u8 y1) := by rw [cell_of_row _ _ 1 _ _ _ HM6.out.2.1]; rfl
                            have fy2 : (w6.alloc (.cells (ar8 y0 y1 y2 y3 y4 y5 y6 y7) 31)).cell? ⟨w.heap.size, 2, none⟩ = some (.int .u8 y2) := by rw [cell_of_row _ _ 2 _ _ _ HM6.out.2.1]; rfl
                            have fy3 : (w6.alloc (.cells (ar8 y0 y1 y2 y3 y4 y5 y6 y7) 31)).cell? ⟨w.heap.size, 3, none⟩ = some (.int .u8 y3) := by rw [cell_of_row _ _ 3 _ _ _ HM6.out.2.1]; rfl
                            have fy4 : (w6.alloc (.cells (ar8 y0 y1 y2 y3 y4 y5 y6 y7) 31)).cell? ⟨w.heap.size, 4, none⟩ = some (.int .u8 y4) := by rw [cell_of_row _ _ 4 _ _ _ HM6.out.2.1]; rfl
                            have fy5 : (w6.alloc (.cells (ar8 y0 y1 y2 y3 y4 y5 y6 y7) 31)).cell? ⟨w.heap.size, 5, none⟩ = some (.int .u8 y5) := by rw [cell_of_row _ _ 5 _ _ _ HM6.out.2.1]; rfl
                            have fy6 : (w6.alloc (.cells (ar8 y0 y1 y2 y3 y4 y5 y6 y7) 31)).cell? ⟨w.heap.size, 6, none⟩ = some (.int .u8 y6) := by rw [cell_of_row _ _ 6 _ _ _ HM6.out.2.1]; rfl
                            have fy7 : (w6.alloc (.cells (ar8 y0 y1 y2 y3 y4 y5 y6 y7) 31)).cell? ⟨w.heap.size, 7, none⟩ = some (.int .u8 y7) := by rw [cell_of_row _ _ 7 _ _ _ HM6.out.2.1]; rfl
                            go_wp2_with (first | (refine wpList_load_by rfl 36 _ rfl _ _ rfl (loadRC _ q _ _ _ _ _ _ _ _ _ _ _ _ _ _ _ _ _ _ hfb6) ?_) | (refine wpList_store_by rfl 36 _ _ rfl _ _ rfl rfl (storeRC _ (w.heap.size + 1) (cmC 0 0 0 false 0 false none 0 0 false false false 0 0 0 0 0) ck ci cs cz cn cq a5 len5 cap5 ct cl cc cb ce cu cm co _ hR rfl) ?_))
                            have hc := fun j => cell_of_row _ (w.heap.size + 1) j _ _ _ (setRow_heap _ _ _ (cmC ck ci cs cz cn cq a5 len5 cap5 ct cl cc cb ce cu cm co) _ _ hR)
                            refine bodyPost_ret (v := .tuple #[cmV ck ci cs cz cn cq a5 len5 cap5 ct cl cc cb ce cu cm co, .int .i64 0]) ?_ rfl ⟨a5, cap5, by rw [hl5], by rw [hl5]; exact row_set3 hfr6.out (fun hp b off e => Nat.ne_of_gt (HN5.out hp b off e)), fun hp b off e => Nat.le_of_lt (Nat.lt_of_succ_lt (HN5.out (by rw [← hl5]; exact hp) b off e)), below_setRow hW (Nat.le_succ _) _⟩
                            simp [results, Try.results16, go_sem, hc]
                        · as_aux_lemma =>
                            have hO : ¬ O = some ⟨ck, ci, cs, cz, cn, cq, cd, ct, cl, cc, cb, ce, cu, cm, co⟩ := fun e => hxy (Option.some.inj (hP.symm.trans (HHU.out e)))
                            have HL := hne.out hO
                            have hss : same8 x0 x1 x2 x3 x4 x5 x6 x7 y0 y1 y2 y3 y4 y5 y6 y7 = false := by rw [same8_iff ⟨x0, x1, x2, x3, x4, x5, x6, x7⟩ ⟨y0, y1, y2, y3, y4, y5, y6, y7⟩]; exact decide_eq_false hxy
                            have fx0 : (w6.alloc (.cells (ar8 x0 x1 x2 x3 x4 x5 x6 x7) 31)).cell? ⟨w6.heap.size, 0, none⟩ = some (.int .u8 x0) := by rw [cell_of_row _ _ 0 _ _ _ (heap_new _ _)]; rfl
                            have fx1 : (w6.alloc (.cells (ar8 x0 x1 x2 x3 x4 x5 x6 x7) 31)).cell? ⟨w6.heap.size, 1, none⟩ = some (.int .u8 x1) := by rw [cell_of_row _ _ 1 _ _ _ (heap_new _ _)]; rfl
                            have fx2 : (w6.alloc (.cells (ar8 x0 x1 x2 x3 x4 x5 x6 x7) 31)).cell? ⟨w6.heap.size, 2, none⟩ = some (.int .u8 x2) := by rw [cell_of_row _ _ 2 _ _ _ (heap_new _ _)]; rfl
                            have fx3 : (w6.alloc (.cells (ar8 x0 x1 x2 x3 x4 x5 x6 x7) 31)).cell? ⟨w6.heap.size, 3, none⟩ = some (.int .u8 x3) := by rw [cell_of_row _ _ 3 _ _ _ (heap_new _ _)]; rfl
                            have fx4 : (w6.alloc (.cells (ar8 x0 x1 x2 x3 x4 x5 x6 x7) 31)).cell? ⟨w6.heap.size, 4, none⟩ = some (.int .u8 x4) := by rw [cell_of_row _ _ 4 _ _ _ (heap_new _ _)]; rfl
                            have fx5 : (w6.alloc (.cells (ar8 x0 x1 x2 x3 x4 x5 x6 x7) 31)).cell? ⟨w6.heap.size, 5, none⟩ = some (.int .u8 x5) := by rw [cell_of_row _ _ 5 _ _ _ (heap_new _ _)]; rfl
                            have fx6 : (w6.alloc (.cells (ar8 x0 x1 x2 x3 x4 x5 x6 x7) 31)).cell? ⟨w6.heap.size, 6, none⟩ = some (.int .u8 x6) := by rw [cell_of_row _ _ 6 _ _ _ (heap_new _ _)]; rfl
                            have fx7 : (w6.alloc (.cells (ar8 x0 x1 x2 x3 x4 x5 x6 x7) 31)).cell? ⟨w6.heap.size, 7, none⟩ = some (.int .u8 x7) := by rw [cell_of_row _ _ 7 _ _ _ (heap_new _ _)]; rfl
                            have fy0 : (w6.alloc (.cells (ar8 x0 x1 x2 x3 x4 x5 x6 x7) 31)).cell? ⟨w.heap.size, 0, none⟩ = some (.int .u8 y0) := by rw [cell_of_row _ _ 0 _ _ _ HM6.out.2.1]; rfl
                            have fy1 : (w6.alloc (.cells (ar8 x0 x1 x2 x3 x4 x5 x6 x7) 31)).cell? ⟨w.heap.size, 1, none⟩ = some (.int .u8 y1) := by rw [cell_of_row _ _ 1 _ _ _ HM6.out.2.1]; rfl
                            have fy2 : (w6.alloc (.cells (ar8 x0 x1 x2 x3 x4 x5 x6 x7) 31)).cell? ⟨w.heap.size, 2, none⟩ = some (.int .u8 y2) := by rw [cell_of_row _ _ 2 _ _ _ HM6.out.2.1]; rfl
                            have fy3 : (w6.alloc (.cells (ar8 x0 x1 x2 x3 x4 x5 x6 x7) 31)).cell? ⟨w.heap.size, 3, none⟩ = some (.int .u8 y3) := by rw [cell_of_row _ _ 3 _ _ _ HM6.out.2.1]; rfl
                            have fy4 : (w6.alloc (.cells (ar8 x0 x1 x2 x3 x4 x5 x6 x7) 31)).cell? ⟨w.heap.size, 4, none⟩ = some (.int .u8 y4) := by rw [cell_of_row _ _ 4 _ _ _ HM6.out.2.1]; rfl
                            have fy5 : (w6.alloc (.cells (ar8 x0 x1 x2 x3 x4 x5 x6 x7) 31)).cell? ⟨w.heap.size, 5, none⟩ = some (.int .u8 y5) := by rw [cell_of_row _ _ 5 _ _ _ HM6.out.2.1]; rfl
                            have fy6 : (w6.alloc (.cells (ar8 x0 x1 x2 x3 x4 x5 x6 x7) 31)).cell? ⟨w.heap.size, 6, none⟩ = some (.int .u8 y6) := by rw [cell_of_row _ _ 6 _ _ _ HM6.out.2.1]; rfl
                            have fy7 : (w6.alloc (.cells (ar8 x0 x1 x2 x3 x4 x5 x6 x7) 31)).cell? ⟨w.heap.size, 7, none⟩ = some (.int .u8 y7) := by rw [cell_of_row _ _ 7 _ _ _ HM6.out.2.1]; rfl
                            go_wp2_with fail
                            exact ⟨⟨n + 1, rfl, by omega, HL, HM6⟩, by simp only [intOf]; omega⟩
                      · as_aux_lemma =>
                          have hO : ¬ O = some ⟨ck, ci, cs, cz, cn, cq, cd, ct, cl, cc, cb, ce, cu, cm, co⟩ := fun e => by have := hP.symm.trans (HHU.out e); cases this
                          have HL := hne.out hO
                          go_wp2_with fail
                          exact ⟨⟨n + 1, rfl, by omega, HL, HM6⟩, by simp only [intOf]; omega⟩
                · have hn' : n = 8 := by omega
                  have eB : IntKind.i64.wrap ((b : Int) + 1) = ((b + 1 : Nat) : Int) := by rw [wrapI64 _ (by omega) (by omega)]; omega
                  go_wp2_with fail
                  exact ⟨⟨b + 1, rfl, by omega, LE4.out HI.out (by omega) H4.out, HM4⟩, by simp only [intOf]; omega⟩
            · have hb' : b = 16 := by omega
              have eF : IntKind.i64.wrap ((f : Int) + 1) = ((f + 1 : Nat) : Int) := by rw [wrapI64 _ (by omega) (by omega)]; omega
              go_wp2_with fail
              exact ⟨⟨f + 1, rfl, by omega, LE3.out HI.out (by omega) H3.out, HM3⟩, by simp only [intOf]; omega⟩
        · have eK : IntKind.u8.wrap ((k : Int) + 1) = ((k + 1 : Nat) : Int) := by rw [wrap8]; omega
          go_wp2_with fail
          exact ⟨⟨k + 1, rfl, by omega, LE2.out HI.out (by omega) H2.out, HM2⟩, by simp only [intOf]; omega⟩
    · have hk12 : k = 12 := by omega
      subst hk12
      have hO : O = none := HN.out (LE1.out HI.out (by decide) H1.out)
      subst hO
      have hR := HM1.out.2.2
      have hW := HM1.out.1
      go_wp2_with (refine wpList_store_by rfl 36 _ _ rfl _ _ rfl rfl (storeRC _ (w.heap.size + 1) (cmC 0 0 0 false 0 false none 0 0 false false false 0 0 0 0 0) 0 0 0 false 0 false none 0 0 false false false 0 0 0 0 0 _ hR rfl) ?_)
      have hc := fun j => cell_of_row _ (w.heap.size + 1) j _ _ _ (setRow_heap _ _ _ (cmC 0 0 0 false 0 false none 0 0 false false false 0 0 0 0 0) _ _ hR)
      refine bodyPost_ret (v := .tuple #[cmV 0 0 0 false 0 false none 0 0 false false false 0 0 0 0 0, .int .i64 11]) ?_ rfl ⟨rfl, below_setRow hW (Nat.le_succ _) _⟩
      simp [results, Try.results16, go_sem, hc]
#print axioms command_ans
end Go.Proofs.Ytlnlejdjekbipaa
