/-
  What the program writes, as a function of a command.
-/
import Derived.Test.YtimnpdegoehblaaGreatDoorSu
import Derived.Test.YtimnpdegoehblaaGreatDoorSd1
import Derived.Test.YtimnpdegoehblaaGreatDoorSd5
import Derived.Test.YtimnpdegoehblaaGreatDoorSd7
namespace Go.Proofs.YtimnpdegoehblaaGreatDoor
open Go.RowKit

/-- Is all zero but these fields? -/
def Cm.only (c : Cm) (has : Nat) : Bool := onlyN c.i c.s c.z c.n c.q c.d.length c.t c.l c.c c.b c.e c.u c.m c.o has
def wBare (f : Int) (c : Cm) : Option B8 := if c.only 0 then some ⟨f, 0, 0, 0, 0, 0, 0, 0⟩ else none
def wPlace (f : Int) (c : Cm) : Option B8 := if c.only 1 then some ⟨f, c.i % 256, c.i / 256, c.s, 0, 0, 0, 0⟩ else none
def wToggle (f : Int) (c : Cm) : Option B8 := if c.only 32 then some ⟨bits .or .u8 f (bitv c.t 16), 0, 0, 0, 0, 0, 0, 0⟩ else none
def wStop (f : Int) (c : Cm) : Option B8 := if c.only 4097 then some ⟨f, c.i % 256, c.i / 256, c.s, c.o % 256, c.o / 256 % 256, c.o / 65536 % 256, c.o / 16777216⟩ else none
def wEnd (f : Int) (c : Cm) : Option B8 := if c.only 3072 && (decide (0 ≤ c.m) && decide (c.m ≤ 7)) then some ⟨bits .or .u8 f (c.m * 4), c.u % 256, c.u / 256, 0, 0, 0, 0, 0⟩ else none
def wBlock (f : Int) (c : Cm) : Option B8 := if c.only 385 && (decide (1 ≤ c.b) && decide (c.b ≤ 127)) then some ⟨bits .or .u8 f (bitv c.c 4), c.i % 256, c.i / 256, c.s, c.b, 0, 0, 0⟩ else none
def wAck (f : Int) (c : Cm) : Option B8 := if c.only 768 && ((decide (0 ≤ c.e) && decide (c.e ≤ 127)) && (decide (1 ≤ c.b) && decide (c.b ≤ 127))) then some ⟨f, c.e, c.b, 0, 0, 0, 0, 0⟩ else none
def wSize (f : Int) (c : Cm) : Option B8 := if c.only 135 && (c.z || c.n == 0) then some ⟨bits .or .u8 f (bits .or .u8 (bitv c.c 4) (bitv c.z 2)), c.i % 256, c.i / 256, c.s, c.n % 256, c.n / 256 % 256, c.n / 65536 % 256, c.n / 16777216⟩ else none
def wBegin (f : Int) (c : Cm) : Option B8 := if c.q then (if c.only 27 && quickOk c.z c.d.length then some ⟨q0 f c.z c.d.length, c.i % 256, c.i / 256, c.s, zb c.d 0, zb c.d 1, zb c.d 2, zb c.d 3⟩ else none) else (if c.only 7 && (c.z || c.n == 0) then some ⟨bits .or .u8 f (bitv c.z 1), c.i % 256, c.i / 256, c.s, c.n % 256, c.n / 256 % 256, c.n / 65536 % 256, c.n / 16777216⟩ else none)
def wPart (f : Int) (c : Cm) : Option B8 := if c.only 112 && fits (c.d.length : Int) c.l then some ⟨p0 f c.t c.l c.d.length, zb c.d 0, zb c.d 1, zb c.d 2, zb c.d 3, zb c.d 4, zb c.d 5, zb c.d 6⟩ else none
/-- What a client asks. -/
def askP (c : Cm) : Option B8 :=
  if c.k = 1 then wBegin 32 c else if c.k = 2 then wPart 0 c else if c.k = 3 then wPlace 64 c else if c.k = 4 then wToggle 96 c else if c.k = 5 then wStop 128 c else if c.k = 6 then wSize 192 c else if c.k = 7 then wEnd 193 c else if c.k = 8 then wBlock 160 c else if c.k = 9 then wBare 163 c else if c.k = 10 then wAck 162 c else if c.k = 11 then wBare 161 c else none
/-- What a server answers. -/
def ansP (c : Cm) : Option B8 :=
  if c.k = 1 then wPlace 96 c else if c.k = 2 then wToggle 32 c else if c.k = 3 then wBegin 64 c else if c.k = 4 then wPart 0 c else if c.k = 5 then wStop 128 c else if c.k = 6 then wBlock 160 c else if c.k = 10 then wAck 162 c else if c.k = 7 then wBare 161 c else if c.k = 8 then wSize 192 c else if c.k = 11 then wEnd 193 c else none

theorem cf_writeAck (args : Array Value) (W : World) : (callFunc 78 args).run Tryz.prog W = .ok (.enter 78 args) W := by kernel_rfl
theorem cf_writeBare (args : Array Value) (W : World) : (callFunc 76 args).run Tryz.prog W = .ok (.enter 76 args) W := by kernel_rfl
theorem cf_writeBegin (args : Array Value) (W : World) : (callFunc 60 args).run Tryz.prog W = .ok (.enter 60 args) W := by kernel_rfl
theorem cf_writeBlock (args : Array Value) (W : World) : (callFunc 74 args).run Tryz.prog W = .ok (.enter 74 args) W := by kernel_rfl
theorem cf_writeEnd (args : Array Value) (W : World) : (callFunc 72 args).run Tryz.prog W = .ok (.enter 72 args) W := by kernel_rfl
theorem cf_writePart (args : Array Value) (W : World) : (callFunc 62 args).run Tryz.prog W = .ok (.enter 62 args) W := by kernel_rfl
theorem cf_writePlace (args : Array Value) (W : World) : (callFunc 64 args).run Tryz.prog W = .ok (.enter 64 args) W := by kernel_rfl
theorem cf_writeSize (args : Array Value) (W : World) : (callFunc 70 args).run Tryz.prog W = .ok (.enter 70 args) W := by kernel_rfl
theorem cf_writeStop (args : Array Value) (W : World) : (callFunc 68 args).run Tryz.prog W = .ok (.enter 68 args) W := by kernel_rfl
theorem cf_writeToggle (args : Array Value) (W : World) : (callFunc 66 args).run Tryz.prog W = .ok (.enter 66 args) W := by kernel_rfl
theorem cf_readAck (args : Array Value) (W : World) : (callFunc 79 args).run Tryz.prog W = .ok (.enter 79 args) W := by kernel_rfl
theorem cf_readBare (args : Array Value) (W : World) : (callFunc 77 args).run Tryz.prog W = .ok (.enter 77 args) W := by kernel_rfl
theorem cf_readBegin (args : Array Value) (W : World) : (callFunc 61 args).run Tryz.prog W = .ok (.enter 61 args) W := by kernel_rfl
theorem cf_readBlock (args : Array Value) (W : World) : (callFunc 75 args).run Tryz.prog W = .ok (.enter 75 args) W := by kernel_rfl
theorem cf_readEnd (args : Array Value) (W : World) : (callFunc 73 args).run Tryz.prog W = .ok (.enter 73 args) W := by kernel_rfl
theorem cf_readPart (args : Array Value) (W : World) : (callFunc 63 args).run Tryz.prog W = .ok (.enter 63 args) W := by kernel_rfl
theorem cf_readPlace (args : Array Value) (W : World) : (callFunc 65 args).run Tryz.prog W = .ok (.enter 65 args) W := by kernel_rfl
theorem cf_readSize (args : Array Value) (W : World) : (callFunc 71 args).run Tryz.prog W = .ok (.enter 71 args) W := by kernel_rfl
theorem cf_readStop (args : Array Value) (W : World) : (callFunc 69 args).run Tryz.prog W = .ok (.enter 69 args) W := by kernel_rfl
theorem cf_readToggle (args : Array Value) (W : World) : (callFunc 67 args).run Tryz.prog W = .ok (.enter 67 args) W := by kernel_rfl
theorem ask_F : ∀ j (hj : j < askT.length), ∀ args W, (callFunc askT[j].wf args).run Tryz.prog W = .ok (.enter askT[j].wf args) W := by
  intro j hj args W
  match j, hj with
  | 0, _ => exact cf_writeBegin args W
  | 1, _ => exact cf_writePart args W
  | 2, _ => exact cf_writePlace args W
  | 3, _ => exact cf_writeToggle args W
  | 4, _ => exact cf_writeStop args W
  | 5, _ => exact cf_writeSize args W
  | 6, _ => exact cf_writeEnd args W
  | 7, _ => exact cf_writeBlock args W
  | 8, _ => exact cf_writeBare args W
  | 9, _ => exact cf_writeAck args W
  | 10, _ => exact cf_writeBare args W
  | n + 11, h => exact absurd h (by simp [askT])
theorem ans_F : ∀ j (hj : j < ansT.length), ∀ args W, (callFunc ansT[j].wf args).run Tryz.prog W = .ok (.enter ansT[j].wf args) W := by
  intro j hj args W
  match j, hj with
  | 0, _ => exact cf_writePlace args W
  | 1, _ => exact cf_writeToggle args W
  | 2, _ => exact cf_writeBegin args W
  | 3, _ => exact cf_writePart args W
  | 4, _ => exact cf_writeStop args W
  | 5, _ => exact cf_writeBlock args W
  | 6, _ => exact cf_writeAck args W
  | 7, _ => exact cf_writeBare args W
  | 8, _ => exact cf_writeSize args W
  | 9, _ => exact cf_writeEnd args W
  | n + 10, h => exact absurd h (by simp [ansT])
theorem ask_R : ∀ j (hj : j < askT.length), ∀ args W, (callFunc askT[j].rf args).run Tryz.prog W = .ok (.enter askT[j].rf args) W := by
  intro j hj args W
  match j, hj with
  | 0, _ => exact cf_readBegin args W
  | 1, _ => exact cf_readPart args W
  | 2, _ => exact cf_readPlace args W
  | 3, _ => exact cf_readToggle args W
  | 4, _ => exact cf_readStop args W
  | 5, _ => exact cf_readSize args W
  | 6, _ => exact cf_readEnd args W
  | 7, _ => exact cf_readBlock args W
  | 8, _ => exact cf_readBare args W
  | 9, _ => exact cf_readAck args W
  | 10, _ => exact cf_readBare args W
  | n + 11, h => exact absurd h (by simp [askT])
theorem ans_R : ∀ j (hj : j < ansT.length), ∀ args W, (callFunc ansT[j].rf args).run Tryz.prog W = .ok (.enter ansT[j].rf args) W := by
  intro j hj args W
  match j, hj with
  | 0, _ => exact cf_readPlace args W
  | 1, _ => exact cf_readToggle args W
  | 2, _ => exact cf_readBegin args W
  | 3, _ => exact cf_readPart args W
  | 4, _ => exact cf_readStop args W
  | 5, _ => exact cf_readBlock args W
  | 6, _ => exact cf_readAck args W
  | 7, _ => exact cf_readBare args W
  | 8, _ => exact cf_readSize args W
  | 9, _ => exact cf_readEnd args W
  | n + 10, h => exact absurd h (by simp [ansT])
#print axioms ask_F

set_option maxHeartbeats 1000000 in
theorem askB_any (g : Nat) (x : Cm) (ok : x.Ok) (a : Option Addr) (cap : Nat) (w : World) (hT : IsT w g askT) (hr : Row w a x.d.length x.d) :
    Calls Tryz.prog 56 #[.slice (some ⟨g, 0, none⟩) 11 11, x.v a x.d.length cap] w (BPost w (askP x)) := by
  refine bytesOf_any askT g x.k x.i x.s x.z x.n x.q a x.d.length cap x.t x.l x.c x.b x.e x.u x.m x.o w hT (by decide) (askP x) ask_F ?_ ?_
  · intro j hj hk _ W hb
    have hr' := hr.next hb
    match j, hj with
    | 0, _ =>
      have e : x.k = 1 := hk.symm
      have e2 : askP x = wBegin 32 x := by simp [askP, e]
      rw [e2]
      exact writeBegin_any 32 x.k x.i x.s x.z x.n x.q a x.d.length cap x.t x.l x.c x.b x.e x.u x.m x.o ok.i ok.n x.d W hr'
    | 1, _ =>
      have e : x.k = 2 := hk.symm
      have e2 : askP x = wPart 0 x := by simp [askP, e]
      rw [e2]
      exact writePart_any 0 x.k x.i x.s x.z x.n x.q a x.d.length cap x.t x.l x.c x.b x.e x.u x.m x.o x.d W hr'
    | 2, _ =>
      have e : x.k = 3 := hk.symm
      have e2 : askP x = wPlace 64 x := by simp [askP, e]
      rw [e2]
      exact writePlace_any 64 x.k x.i x.s x.z x.n x.q a x.d.length cap x.t x.l x.c x.b x.e x.u x.m x.o ok.i W
    | 3, _ =>
      have e : x.k = 4 := hk.symm
      have e2 : askP x = wToggle 96 x := by simp [askP, e]
      rw [e2]
      exact writeToggle_any 96 x.k x.i x.s x.z x.n x.q a x.d.length cap x.t x.l x.c x.b x.e x.u x.m x.o W
    | 4, _ =>
      have e : x.k = 5 := hk.symm
      have e2 : askP x = wStop 128 x := by simp [askP, e]
      rw [e2]
      exact writeStop_any 128 x.k x.i x.s x.z x.n x.q a x.d.length cap x.t x.l x.c x.b x.e x.u x.m x.o ok.i ok.o W
    | 5, _ =>
      have e : x.k = 6 := hk.symm
      have e2 : askP x = wSize 192 x := by simp [askP, e]
      rw [e2]
      exact writeSize_any 192 x.k x.i x.s x.z x.n x.q a x.d.length cap x.t x.l x.c x.b x.e x.u x.m x.o ok.i ok.n W
    | 6, _ =>
      have e : x.k = 7 := hk.symm
      have e2 : askP x = wEnd 193 x := by simp [askP, e]
      rw [e2]
      exact writeEnd_any 193 x.k x.i x.s x.z x.n x.q a x.d.length cap x.t x.l x.c x.b x.e x.u x.m x.o ok.u W
    | 7, _ =>
      have e : x.k = 8 := hk.symm
      have e2 : askP x = wBlock 160 x := by simp [askP, e]
      rw [e2]
      exact writeBlock_any 160 x.k x.i x.s x.z x.n x.q a x.d.length cap x.t x.l x.c x.b x.e x.u x.m x.o ok.i W
    | 8, _ =>
      have e : x.k = 9 := hk.symm
      have e2 : askP x = wBare 163 x := by simp [askP, e]
      rw [e2]
      exact writeBare_any 163 x.k x.i x.s x.z x.n x.q a x.d.length cap x.t x.l x.c x.b x.e x.u x.m x.o W
    | 9, _ =>
      have e : x.k = 10 := hk.symm
      have e2 : askP x = wAck 162 x := by simp [askP, e]
      rw [e2]
      exact writeAck_any 162 x.k x.i x.s x.z x.n x.q a x.d.length cap x.t x.l x.c x.b x.e x.u x.m x.o W
    | 10, _ =>
      have e : x.k = 11 := hk.symm
      have e2 : askP x = wBare 161 x := by simp [askP, e]
      rw [e2]
      exact writeBare_any 161 x.k x.i x.s x.z x.n x.q a x.d.length cap x.t x.l x.c x.b x.e x.u x.m x.o W
    | n + 11, h => exact absurd h (by simp [askT])
  · intro h
    have hh := fun j hj => h j hj
    have h1 : ¬ x.k = 1 := fun e => hh 0 (by decide) e.symm
    have h2 : ¬ x.k = 2 := fun e => hh 1 (by decide) e.symm
    have h3 : ¬ x.k = 3 := fun e => hh 2 (by decide) e.symm
    have h4 : ¬ x.k = 4 := fun e => hh 3 (by decide) e.symm
    have h5 : ¬ x.k = 5 := fun e => hh 4 (by decide) e.symm
    have h6 : ¬ x.k = 6 := fun e => hh 5 (by decide) e.symm
    have h7 : ¬ x.k = 7 := fun e => hh 6 (by decide) e.symm
    have h8 : ¬ x.k = 8 := fun e => hh 7 (by decide) e.symm
    have h9 : ¬ x.k = 9 := fun e => hh 8 (by decide) e.symm
    have h10 : ¬ x.k = 10 := fun e => hh 9 (by decide) e.symm
    have h11 : ¬ x.k = 11 := fun e => hh 10 (by decide) e.symm
    simp [askP, h1, h2, h3, h4, h5, h6, h7, h8, h9, h10, h11]
set_option maxHeartbeats 1000000 in
theorem ansB_any (g : Nat) (x : Cm) (ok : x.Ok) (a : Option Addr) (cap : Nat) (w : World) (hT : IsT w g ansT) (hr : Row w a x.d.length x.d) :
    Calls Tryz.prog 56 #[.slice (some ⟨g, 0, none⟩) 10 10, x.v a x.d.length cap] w (BPost w (ansP x)) := by
  refine bytesOf_any ansT g x.k x.i x.s x.z x.n x.q a x.d.length cap x.t x.l x.c x.b x.e x.u x.m x.o w hT (by decide) (ansP x) ans_F ?_ ?_
  · intro j hj hk _ W hb
    have hr' := hr.next hb
    match j, hj with
    | 0, _ =>
      have e : x.k = 1 := hk.symm
      have e2 : ansP x = wPlace 96 x := by simp [ansP, e]
      rw [e2]
      exact writePlace_any 96 x.k x.i x.s x.z x.n x.q a x.d.length cap x.t x.l x.c x.b x.e x.u x.m x.o ok.i W
    | 1, _ =>
      have e : x.k = 2 := hk.symm
      have e2 : ansP x = wToggle 32 x := by simp [ansP, e]
      rw [e2]
      exact writeToggle_any 32 x.k x.i x.s x.z x.n x.q a x.d.length cap x.t x.l x.c x.b x.e x.u x.m x.o W
    | 2, _ =>
      have e : x.k = 3 := hk.symm
      have e2 : ansP x = wBegin 64 x := by simp [ansP, e]
      rw [e2]
      exact writeBegin_any 64 x.k x.i x.s x.z x.n x.q a x.d.length cap x.t x.l x.c x.b x.e x.u x.m x.o ok.i ok.n x.d W hr'
    | 3, _ =>
      have e : x.k = 4 := hk.symm
      have e2 : ansP x = wPart 0 x := by simp [ansP, e]
      rw [e2]
      exact writePart_any 0 x.k x.i x.s x.z x.n x.q a x.d.length cap x.t x.l x.c x.b x.e x.u x.m x.o x.d W hr'
    | 4, _ =>
      have e : x.k = 5 := hk.symm
      have e2 : ansP x = wStop 128 x := by simp [ansP, e]
      rw [e2]
      exact writeStop_any 128 x.k x.i x.s x.z x.n x.q a x.d.length cap x.t x.l x.c x.b x.e x.u x.m x.o ok.i ok.o W
    | 5, _ =>
      have e : x.k = 6 := hk.symm
      have e2 : ansP x = wBlock 160 x := by simp [ansP, e]
      rw [e2]
      exact writeBlock_any 160 x.k x.i x.s x.z x.n x.q a x.d.length cap x.t x.l x.c x.b x.e x.u x.m x.o ok.i W
    | 6, _ =>
      have e : x.k = 10 := hk.symm
      have e2 : ansP x = wAck 162 x := by simp [ansP, e]
      rw [e2]
      exact writeAck_any 162 x.k x.i x.s x.z x.n x.q a x.d.length cap x.t x.l x.c x.b x.e x.u x.m x.o W
    | 7, _ =>
      have e : x.k = 7 := hk.symm
      have e2 : ansP x = wBare 161 x := by simp [ansP, e]
      rw [e2]
      exact writeBare_any 161 x.k x.i x.s x.z x.n x.q a x.d.length cap x.t x.l x.c x.b x.e x.u x.m x.o W
    | 8, _ =>
      have e : x.k = 8 := hk.symm
      have e2 : ansP x = wSize 192 x := by simp [ansP, e]
      rw [e2]
      exact writeSize_any 192 x.k x.i x.s x.z x.n x.q a x.d.length cap x.t x.l x.c x.b x.e x.u x.m x.o ok.i ok.n W
    | 9, _ =>
      have e : x.k = 11 := hk.symm
      have e2 : ansP x = wEnd 193 x := by simp [ansP, e]
      rw [e2]
      exact writeEnd_any 193 x.k x.i x.s x.z x.n x.q a x.d.length cap x.t x.l x.c x.b x.e x.u x.m x.o ok.u W
    | n + 10, h => exact absurd h (by simp [ansT])
  · intro h
    have hh := fun j hj => h j hj
    have h1 : ¬ x.k = 1 := fun e => hh 0 (by decide) e.symm
    have h2 : ¬ x.k = 2 := fun e => hh 1 (by decide) e.symm
    have h3 : ¬ x.k = 3 := fun e => hh 2 (by decide) e.symm
    have h4 : ¬ x.k = 4 := fun e => hh 3 (by decide) e.symm
    have h5 : ¬ x.k = 5 := fun e => hh 4 (by decide) e.symm
    have h6 : ¬ x.k = 6 := fun e => hh 5 (by decide) e.symm
    have h10 : ¬ x.k = 10 := fun e => hh 6 (by decide) e.symm
    have h7 : ¬ x.k = 7 := fun e => hh 7 (by decide) e.symm
    have h8 : ¬ x.k = 8 := fun e => hh 8 (by decide) e.symm
    have h11 : ¬ x.k = 11 := fun e => hh 9 (by decide) e.symm
    simp [ansP, h1, h2, h3, h4, h5, h6, h10, h7, h8, h11]
#print axioms askB_any
#print axioms ansB_any
end Go.Proofs.YtimnpdegoehblaaGreatDoor
