/- RefN -/
import Derived.Test.YtfglcifnjaknnaaGreatDoorMath02
import Derived.Test.YtfglcifnjaknnaaGreatDoorInv
import Derived.Test.YtfglcifnjaknnaaGreatDoorMat
import Derived.Test.YtfglcifnjaknnaaGreatDoorRel
import Derived.Test.YtfglcifnjaknnaaGreatDoorOrder
import Derived.Test.YtfglcifnjaknnaaGreatDoorDh
set_option linter.unusedVariables false
set_option linter.unusedSimpArgs false
namespace Go.Proofs.YtfglcifnjaknnaaGreatDoor
open Go.RowKit
def lenOf : Value -> Nat | .slice _ n _ => n | _ => 0
@[go_sem] theorem zrmb (w : World) : (Instr.makeSlice 175 (.int .i64 32) (.int .i64 32)).run Tryz.prog w = .ok (.slice (some ⟨w.heap.size, 0, none⟩) 32 32) (w.alloc (.cells (ints .i64 32 zqd) 3)) := by kernel_rfl
def BD (x : Int) : Prop := 0 <= x /\ x < 57896044618658097711785492504343953926634992332820282019728792003956564819949
def aN (x y : Int) : Int := (x + y) % 57896044618658097711785492504343953926634992332820282019728792003956564819949
def sN (x y : Int) : Int := (x - y) % 57896044618658097711785492504343953926634992332820282019728792003956564819949
def mN (x y : Int) : Int := x * y % 57896044618658097711785492504343953926634992332820282019728792003956564819949
theorem zq5e (x y : Int) : BD (mN x y) := by unfold BD mN; omega
def twXN (x z : Int) : Int := mN (mN (aN x z) (aN x z)) (mN (sN x z) (sN x z))
def twEN (x z : Int) : Int := sN (mN (aN x z) (aN x z)) (mN (sN x z) (sN x z))
def twZN (x z : Int) : Int := mN (twEN x z) (aN (mN (aN x z) (aN x z)) (mN 121665 (twEN x z)))
def daN (x z x' z' : Int) : Int := mN (sN x' z') (aN x z)
def cbN (x z x' z' : Int) : Int := mN (aN x' z') (sN x z)
def boXN (x z x' z' : Int) : Int := mN (aN (daN x z x' z') (cbN x z x' z')) (aN (daN x z x' z') (cbN x z x' z'))
def boZN (u x z x' z' : Int) : Int := mN u (mN (sN (daN x z x' z') (cbN x z x' z')) (sN (daN x z x' z') (cbN x z x' z')))
end Go.Proofs.YtfglcifnjaknnaaGreatDoor
namespace Go.Proofs.YtfglcifnjaknnaaGreatDoor
open Go.RowKit
open Edw (red tv)
structure Nu where
 a : Int
 b : Int
 c : Int
 e : Int
def swN (bit : Int) (s : Nu) : Nu := if bit = 0 then s else ⟨s.c, s.e, s.a, s.b⟩
def stN (u : Int) (s : Nu) : Nu := ⟨twXN s.a s.b, twZN s.a s.b, boXN s.a s.b s.c s.e, boZN u s.a s.b s.c s.e⟩
structure BDP (s : Nu) : Prop where
 a : BD s.a
 b : BD s.b
 c : BD s.c
 e : BD s.e
theorem BDP.sw {s : Nu} (h : BDP s) (b : Int) : BDP (swN b s) := by
 unfold swN
 split
 ·exact h
 ·exact ⟨h.c, h.e, h.a, h.b⟩
theorem BDP.st (s : Nu) (u : Int) : BDP (stN u s) := ⟨zq5e _ _, zq5e _ _, zq5e _ _, zq5e _ _⟩
end Go.Proofs.YtfglcifnjaknnaaGreatDoor
