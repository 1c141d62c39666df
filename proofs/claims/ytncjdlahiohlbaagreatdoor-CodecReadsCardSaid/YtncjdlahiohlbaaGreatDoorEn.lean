/- En -/
import Derived.Test.YtncjdlahiohlbaaGreatDoorE15
set_option maxRecDepth 100000
set_option maxHeartbeats 4000000
namespace Go.Proofs.YtncjdlahiohlbaaGreatDoor
open Go.RowKit Go.Extern
set_option linter.unusedVariables false
set_option linter.unusedSimpArgs false
def namesA : Array Value := #[.string ⟨#[]⟩, .string ⟨#[116, 114, 117, 110, 99, 97, 116, 101, 100]⟩, .string ⟨#[116, 114, 97, 105, 108, 105, 110, 103]⟩, .string ⟨#[118, 101, 114, 115, 105, 111, 110]⟩, .string ⟨#[115, 105, 122, 101]⟩, .string ⟨#[108, 101, 97, 102]⟩, .string ⟨#[112, 97, 116, 104]⟩, .string ⟨#[115, 116, 97, 103, 101]⟩, .string ⟨#[109, 97, 99]⟩, .string ⟨#[122, 101, 114, 111]⟩, .string ⟨#[117, 110, 107, 110, 111, 119, 110]⟩, .string ⟨#[117, 115, 101, 100]⟩, .string ⟨#[101, 99, 104, 111]⟩, .string ⟨#[115, 116, 97, 116, 101]⟩, .string ⟨#[107, 105, 110, 100]⟩, .string ⟨#[110, 97, 109, 101]⟩, .string ⟨#[114, 97, 110, 103, 101]⟩, .string ⟨#[102, 111, 114, 109]⟩, .string ⟨#[109, 97, 110, 121]⟩, .string ⟨#[110, 111, 110, 101]⟩, .string ⟨#[110, 105, 108]⟩, .string ⟨#[100, 114, 97, 119]⟩, .string ⟨#[108, 111, 110, 103]⟩]
def nameB (k : Nat) : ByteArray := match namesA[k]? with | some (.string s) => s | _ => ⟨#[]⟩
def otherB : ByteArray := ⟨#[111, 116, 104, 101, 114]⟩
def nameE (e : Int) : ByteArray := if 1 ≤ e ∧ e < 23 then nameB e.toNat else otherB
theorem nameE_in (k : Nat) (h1 : 1 ≤ k) (h : k < 23) : nameE (k : Int) = nameB k := by unfold nameE; rw [if_pos ⟨by omega, by omega⟩]; rfl
theorem nameE_out (e : Int) (h : e < 1 ∨ 23 ≤ e) : nameE e = otherB := if_neg (by omega)
theorem nameE_size (e : Int) : (nameE e).size ≤ 9 := by
 by_cases h : 1 ≤ e ∧ e < 23
 ·obtain ⟨k, rfl⟩ := Int.eq_ofNat_of_zero_le (show 0 ≤ e by omega)
  rw [nameE_in k (by omega) (by omega)]
  have hk : k < 23 := by omega
  obtain rfl | rfl | rfl | rfl | rfl | rfl | rfl | rfl | rfl | rfl | rfl | rfl | rfl | rfl | rfl | rfl | rfl | rfl | rfl | rfl | rfl | rfl | rfl := (by omega : k = 0 ∨ k = 1 ∨ k = 2 ∨ k = 3 ∨ k = 4 ∨ k = 5 ∨ k = 6 ∨ k = 7 ∨ k = 8 ∨ k = 9 ∨ k = 10 ∨ k = 11 ∨ k = 12 ∨ k = 13 ∨ k = 14 ∨ k = 15 ∨ k = 16 ∨ k = 17 ∨ k = 18 ∨ k = 19 ∨ k = 20 ∨ k = 21 ∨ k = 22) <;> decide
 ·rw [nameE_out e (by omega)]; decide
def sepB : ByteArray := ⟨#[58, 32]⟩
def catN (acc : ByteArray) : List ByteArray → ByteArray
 | [] => acc
 | s :: l => catN (acc ++ s ++ sepB) l
theorem errno_text (e : Int) (w : World) : Calls Tryz.prog 252 #[.int .i64 e] w fun e' w' => e' = .returned (.string (nameE e)) ∧ Below w.heap.size w w' := by
 have hb : Below w.heap.size w (w.alloc (.cells namesA 9)) := Grew.alloc (Grew.refl w) _
 by_cases h : 1 ≤ e ∧ e < 23
 ·obtain rfl | rfl | rfl | rfl | rfl | rfl | rfl | rfl | rfl | rfl | rfl | rfl | rfl | rfl | rfl | rfl | rfl | rfl | rfl | rfl | rfl | rfl := (by omega : e = 1 ∨ e = 2 ∨ e = 3 ∨ e = 4 ∨ e = 5 ∨ e = 6 ∨ e = 7 ∨ e = 8 ∨ e = 9 ∨ e = 10 ∨ e = 11 ∨ e = 12 ∨ e = 13 ∨ e = 14 ∨ e = 15 ∨ e = 16 ∨ e = 17 ∨ e = 18 ∨ e = 19 ∨ e = 20 ∨ e = 21 ∨ e = 22)
  all_goals
   go_enter Tryz.func252, Tryz.ntmps252
   go_wp2
   go_ret
   exact ⟨rfl, hb⟩
 ·rw [nameE_out e (by omega)]
  rcases (by omega : e < 1 ∨ (¬ (e < 1) ∧ 23 ≤ e)) with h1 | ⟨h1, h2⟩
  all_goals
   go_enter Tryz.func252, Tryz.ntmps252
   go_wp2
   go_ret
   exact ⟨rfl, hb⟩
end Go.Proofs.YtncjdlahiohlbaaGreatDoor
