/-
For every input the law PathMakes of layer 14 returns true, and each argument reads afterwards as it read before; the listed tables of package sha are tied to the program's text.
-/
import Derived.Test.YtconieddcjpbjaaGreatDoorR13
import Derived.Test.YtconieddcjpbjaaGreatDoorSm
import Derived.Test.YtconieddcjpbjaaGreatDoorR12
import Derived.Test.YtconieddcjpbjaaGreatDoorTrk
import Derived.Test.YtconieddcjpbjaaGreatDoorQ12
import Derived.Test.YtconieddcjpbjaaGreatDoorQ14
import Derived.Test.YtconieddcjpbjaaGreatDoorRefN
import Derived.Test.YtconieddcjpbjaaGreatDoorL13
import Derived.Test.YtconieddcjpbjaaGreatDoorTb
import Derived.Test.YtconieddcjpbjaaGreatDoorAw
set_option linter.unusedVariables false
set_option linter.unusedSimpArgs false
set_option maxRecDepth 100000
set_option maxHeartbeats 4000000
namespace Go.Proofs.YtconieddcjpbjaaGreatDoor
open Go.RowKit
def refC (n l : Int) (k : Nat -> Int) (o : Option Addr) (d c : Nat) : Array Value := (#[Value.int .i64 n, Value.int .i64 l] ++ ints .u8 32 k).push (Value.slice o d c)
@[go_sem] theorem zqbq (n l : Int) (k : Nat -> Int) (o : Option Addr) (d c : Nat) : (refC n l k o d c).size = 35 := by simp [refC, zqh]
@[go_sem] theorem zqf3 (n l : Int) (k : Nat -> Int) (o : Option Addr) (d c : Nat) : zqa5 (refC n l k o d c) = true := by
 have h2 := zqed .u8 32 k;unfold zqa5 at *;unfold refC;rw [Array.all_push, Array.all_append, h2]
 simp [Value.oneCell']
@[go_sem] theorem zrim (n l : Int) (k : Nat -> Int) (o : Option Addr) (d c : Nat) : (refC n l k o d c)[0]? = some (.int .i64 n) := by
 unfold refC;rw [Array.getElem?_push, if_neg (by simp [zqh]), Array.getElem?_append_left (by simp)]
 simp
@[go_sem] theorem zrlj (n l : Int) (k : Nat -> Int) (o : Option Addr) (d c : Nat) (h : 0 < (refC n l k o d c).size) : (refC n l k o d c)[0] = .int .i64 n := by
 have := zrim n l k o d c;rw [Array.getElem?_eq_getElem h] at this;exact Option.some.inj this
@[go_sem] theorem zrgt (n l : Int) (k : Nat -> Int) (o : Option Addr) (d c : Nat) : (refC n l k o d c)[1]? = some (.int .i64 l) := by
 unfold refC;rw [Array.getElem?_push, if_neg (by simp [zqh]), Array.getElem?_append_left (by simp)]
 simp
@[go_sem] theorem zrko (n l : Int) (k : Nat -> Int) (o : Option Addr) (d c : Nat) (h : 1 < (refC n l k o d c).size) : (refC n l k o d c)[1] = .int .i64 l := by
 have := zrgt n l k o d c;rw [Array.getElem?_eq_getElem h] at this;exact Option.some.inj this
@[go_sem] theorem zq18 (n l : Int) (k : Nat -> Int) (o : Option Addr) (d c : Nat) : (refC n l k o d c)[34]? = some (.slice o d c) := by
 unfold refC;rw [Array.getElem?_push, if_pos (by simp [zqh])]
@[go_sem] theorem zrjz (n l : Int) (k : Nat -> Int) (o : Option Addr) (d c : Nat) (h : 34 < (refC n l k o d c).size) : (refC n l k o d c)[34] = .slice o d c := by
 have := zq18 n l k o d c;rw [Array.getElem?_eq_getElem h] at this;exact Option.some.inj this
theorem zrh1 (n l : Int) (k : Nat -> Int) (o : Option Addr) (d c : Nat) (i : Nat) (h : i < 32) : (refC n l k o d c)[2 + i]? = some (.int .u8 (k i)) := by
 unfold refC;rw [Array.getElem?_push, if_neg (by simp [zqh]; omega), Array.getElem?_append_right (by simp), show 2 + i - (#[Value.int .i64 n, .int .i64 l] : Array Value).size = i by simp, zqa9 _ _ _ _ h]
theorem zq05 (n l : Int) (k : Nat -> Int) (o : Option Addr) (d c : Nat) : (refC n l k o d c).extract 2 (2 + 32) = ints .u8 32 k := by
 apply Array.ext_getElem?
 intro i
 by_cases h : i < 32
 ·rw [zqa9 _ _ _ _ h, Array.getElem?_extract, if_pos (by rw [zqbq]; omega), zrh1 _ _ _ _ _ _ _ h]
 ·rw [Array.getElem?_eq_none (by simp [zqbq]; omega), Array.getElem?_eq_none (by rw [zqh]; omega)]
@[go_sem high] theorem zrgg (w : World) : (zeroValue 63).run Tryz.prog w = .ok (.agg (refC 0 0 zqg none 0 0)) w := by kernel_rfl
@[go_sem ↓ high] theorem zrkd (w : World) : (zeroValue 63).run Tryz.prog w = .ok (.agg (refC 0 0 zqg none 0 0)) w := by kernel_rfl
@[go_sem] theorem zrj3 (w : World) : (zqd0 63).run Tryz.prog w = .ok (.value (.agg (refC 0 0 zqg none 0 0))) w := by kernel_rfl
@[go_sem ↓ high] theorem zrju (ρ : Operand -> Value) (d : Option Tmp) (x : Operand) (t : TypeId) (pos : String) (af : Array Edge) (g : Option (Nat × Bool)) :
  execOp ρ ⟨d, .load 63 x, t, pos, af, g⟩ = zq6 63 (ρ x) := zqb0 _ ρ d x t pos af g
@[go_sem high] theorem zrid (ρ : Operand -> Value) (d : Option Tmp) (x : Operand) (t : TypeId) (pos : String) (af : Array Edge) (g : Option (Nat × Bool)) :
  execOp ρ ⟨d, .load 63 x, t, pos, af, g⟩ = zq6 63 (ρ x) := zqb0 _ ρ d x t pos af g
@[go_sem] theorem zrbh (g : Nat) (w : World) : (zq6 63 (.pointer (some ⟨g, 0, none⟩))).run Tryz.prog w = (zqbv Tryz.prog 63 g 35 w (zqd w g)).andThen fun v w' => .ok (.value v) w' := by
 rw [zqa2, zqb9 Tryz.underlying63 rfl zqc g w]
@[go_sem] theorem zrdo (g : Nat) (w : World) (cs : Array Value) (t' : TypeId) (fr : Nat × Nat) (h : cs.size = 35) : zqbv Tryz.prog 63 g 35 w (some (.cells cs t' fr)) = .ok (.agg cs) w := zqbo cs t' fr h
@[go_sem ↓ high] theorem zriy (ρ : Operand -> Value) (d : Option Tmp) (x y : Operand) (t : TypeId) (pos : String) (af : Array Edge) (g : Option (Nat × Bool)) :
  execOp ρ ⟨d, .store 63 x y, t, pos, af, g⟩ = zq7 63 (ρ x) (ρ y) := zqbj _ ρ d x y t pos af g
@[go_sem high] theorem zrfo (ρ : Operand -> Value) (d : Option Tmp) (x y : Operand) (t : TypeId) (pos : String) (af : Array Edge) (g : Option (Nat × Bool)) :
  execOp ρ ⟨d, .store 63 x y, t, pos, af, g⟩ = zq7 63 (ρ x) (ρ y) := zqbj _ ρ d x y t pos af g
@[go_sem] theorem zq9y (g : Nat) (cs : Array Value) (w : World) : (zq7 63 (.pointer (some ⟨g, 0, none⟩)) (.agg cs)).run Tryz.prog w = (zqbb Tryz.prog 63 g 35 (.agg cs) w (zqd w g)).andThen fun _ w' => .ok .skip w' := by
 rw [zqax, zqb3 zqc g cs w]
@[go_sem] theorem zrab (g : Nat) (w : World) (old cs : Array Value) (t' : TypeId) (h1 : old.size = 35) (h2 : cs.size = 35) (h3 : zqa5 cs = true) :
  zqbb Tryz.prog 63 g 35 (.agg cs) w (some (.cells old t' (0, 0))) = .ok () (w.setRow g cs) := zqbg old cs t' h1 h2 h3
@[go_sem] theorem zq94 (g : Nat) (w : World) : (zq6 23 (.pointer (some ⟨g, 2, none⟩))).run Tryz.prog w = (zqd2 Tryz.prog 23 g 2 32 w (zqd w g)).andThen fun v w' => .ok (.value v) w' := by
 rw [zqa2, zqh3 Tryz.underlying23 rfl zqc g 2 w]
@[go_sem] theorem zrfw (g : Nat) (w : World) (n l : Int) (k : Nat -> Int) (o : Option Addr) (d c : Nat) (t' : TypeId) (fr : Nat × Nat) : zqd2 Tryz.prog 23 g 2 32 w (some (.cells (refC n l k o d c) t' fr)) = .ok (.agg (ints .u8 32 k)) w := by
 unfold zqd2
 simp only [zqbq]
 rw [if_pos (by decide), zq05]
theorem zrcm (n l : Int) (k : Nat -> Int) (o : Option Addr) (d c : Nat) (w : World) : (Instr.build 63 #[(0, .int .i64 n), (1, .int .i64 l), (2, .agg (ints .u8 32 k)), (3, .slice o d c)]).run Tryz.prog w = .ok (.agg (refC n l k o d c)) w := by kernel_rfl
def zqi3 (a b c d : Value) : Sem Next := do pure (.value (<- Instr.build 63 #[(0, a), (1, b), (2, c), (3, d)]))
@[go_sem ↓ high] theorem zrlx (ρ : Operand -> Value) (dd : Option Tmp) (a b c d : Operand) (t : TypeId) (pos : String) (af : Array Edge) (gg : Option (Nat × Bool)) :
  execOp ρ ⟨dd, .build 63 #[(0, a), (1, b), (2, c), (3, d)], t, pos, af, gg⟩ = zqi3 (ρ a) (ρ b) (ρ c) (ρ d) := by simp [execOp, zqi3]
@[go_sem high] theorem zrlo (ρ : Operand -> Value) (dd : Option Tmp) (a b c d : Operand) (t : TypeId) (pos : String) (af : Array Edge) (gg : Option (Nat × Bool)) :
  execOp ρ ⟨dd, .build 63 #[(0, a), (1, b), (2, c), (3, d)], t, pos, af, gg⟩ = zqi3 (ρ a) (ρ b) (ρ c) (ρ d) := by simp [execOp, zqi3]
@[go_sem] theorem zra2 (n l : Int) (k : Nat -> Int) (o : Option Addr) (d c : Nat) (w : World) : (zqi3 (.int .i64 n) (.int .i64 l) (.agg (ints .u8 32 k)) (.slice o d c)).run Tryz.prog w = .ok (.value (.agg (refC n l k o d c))) w := by
 unfold zqi3;rw [Sem.run_bind, zrcm]
 rfl
attribute [irreducible] zqi3 refC
end Go.Proofs.YtconieddcjpbjaaGreatDoor
namespace Go.Proofs.YtconieddcjpbjaaGreatDoor
open Go.RowKit
attribute [local irreducible] zqc4 zqb1 oneF macF shaF strOf keyV shV pubV upF upOK pubF
theorem zqim (hS : zqdv) (k : Nat -> Int) (Z : Nat -> Nat -> Int) (n l : Int) (oC : Option Addr) (d cC : Nat) (w : World) (hk : Bytes 32 k) (hd : d <= 1000) (hZ : ∀ i, i < d -> Bytes 32 (Z i)) (hK : K32At w oC d Z) (hok : zqao k Z d = true) :
  Calls Tryz.prog 59 #[.agg (refC n l (k) oC d cC)] w fun e w' => ∃ oS cS, e = .returned (.tuple #[.slice oS (d + 1) cS, .bool true]) /\ K32At w' oS (d + 1) (zqa1 k Z) /\ Below w.heap.size w w' := by
 have HK : Hid (K32At w oC d Z) := hK;have cX : ∀ W : World, K32At W oC d Z -> Calls Tryz.prog 86 #[.agg (ints .u8 32 k), .slice oC d cC] W fun e w' => ∃ oa c, e = .returned (.tuple #[.slice oa (d + 1) c, .bool true]) /\ d + 1 <= c /\ K32At w' oa (d + 1) (zqa1 k Z) /\ Below W.heap.size W w' := fun W h => zqqv (zqp4 hS k Z oC d cC W hk (by omega) hZ h) hok;clear hK hok hZ hk hS;generalize zqa1 k Z = S at *;have hG := Grew.refl w;have fp : True := trivial
 go_enter Tryz.func59, Tryz.ntmps59
 go_wp2_with fail;generalize hW : w.alloc (.cells (refC n l (k) oC d cC) 63) = w1;replace fp : zqd w1 (w.heap.size) = some (.cells (refC n l (k) oC d cC) 63) := zqk hW;replace hG : Below w.heap.size w w1 := zq2 hW;clear hW;have lfp := zqa fp;go_wp2_with fail;refine (cX _ (HK.out.later hG)).mono ?_
 rintro e w2 ⟨oS, cS, rfl, -, hS, hb⟩;replace fp := zqb hb fp;replace lfp := zqa fp;replace hG := Grew.trans hG hb;have HS : Hid (K32At w2 oS (d + 1) S) := hS;clear hb hS cX;go_wp2
 (try go_ret2)
 exact ⟨oS, cS, rfl, HS.out, hG⟩
theorem zq2b (hS : zqdv) (k : Nat -> Int) (Z : Nat -> Nat -> Int) (n l : Int) (oC : Option Addr) (d cC : Nat) (w : World) (hk : Bytes 32 k) (hd : d <= 1000) (hZ : ∀ i, i < d -> Bytes 32 (Z i)) (hK : K32At w oC d Z) (hok : zqao k Z d = false) :
  Calls Tryz.prog 59 #[.agg (refC n l (k) oC d cC)] w (Rt w (.tuple #[.slice none 0 0, .bool false])) := by
 have HK : Hid (K32At w oC d Z) := hK;have cX : ∀ W : World, K32At W oC d Z -> Calls Tryz.prog 86 #[.agg (ints .u8 32 k), .slice oC d cC] W (Rt W (.tuple #[.slice none 0 0, .bool false])) := fun W h => zqx3 (zqp4 hS k Z oC d cC W hk (by omega) hZ h) hok;clear hK hok hZ hk hS;have hG := Grew.refl w;have fp : True := trivial
 go_enter Tryz.func59, Tryz.ntmps59
 go_wp2_with fail;generalize hW : w.alloc (.cells (refC n l (k) oC d cC) 63) = w1;replace fp : zqd w1 (w.heap.size) = some (.cells (refC n l (k) oC d cC) 63) := zqk hW;replace hG : Below w.heap.size w w1 := zq2 hW;clear hW;have lfp := zqa fp;go_wp2_with fail;refine (cX _ (HK.out.later hG)).mono ?_
 rintro e w2 ⟨rfl, hb⟩;replace fp := zqb hb fp;replace lfp := zqa fp;replace hG := Grew.trans hG hb;clear hb;go_wp2
 (try go_ret2)
 exact ⟨rfl, hG⟩
theorem zqvo (hS : zqdv) (k : Nat -> Int) (Z : Nat -> Nat -> Int) (n l : Int) (oC : Option Addr) (d cC : Nat) (w : World) (hk : Bytes 32 k) (hd : d <= 1000) (hZ : ∀ i, i < d -> Bytes 32 (Z i)) (hK : K32At w oC d Z) (hok : zqao k Z d = true) :
  Calls Tryz.prog 63 #[.agg (refC n l (k) oC d cC)] w (Rt w (.agg (ints .u8 32 (zqa1 k Z d)))) := by
 have HK : Hid (K32At w oC d Z) := hK;obtain ⟨S, hSe⟩ : ∃ S, zqa1 k Z = S := ⟨_, rfl⟩
 have cX : ∀ W : World, K32At W oC d Z -> Calls Tryz.prog 59 #[.agg (refC n l (k) oC d cC)] W fun e w' => ∃ oS cS, e = .returned (.tuple #[.slice oS (d + 1) cS, .bool true]) /\ K32At w' oS (d + 1) S /\ Below W.heap.size W w' := fun W h => by rw [<- hSe]; exact zqim hS k Z n l oC d cC W hk hd hZ h hok
 rw [hSe];clear hK hok hZ hk hS hSe;have hd1 : (d : Int) < (d : Int) + 1 := by omega
 have hd2 : (0 : Int) <= (d : Int) := by omega
 have hd3 : (d : Int) <= 1000 := by omega
 have hG := Grew.refl w;have fp : True := trivial;have fr : True := trivial
 go_enter Tryz.func63, Tryz.ntmps63
 go_wp2_with fail;generalize hW : (w.alloc (.cells (refC n l (k) oC d cC) 63)).alloc (.cells (ints .u8 32 (zqg)) 23) = w1;replace fp : zqd w1 (w.heap.size) = some (.cells (refC n l (k) oC d cC) 63) := zqk hW;replace fr : zqd w1 (w.heap.size + 1) = some (.cells (ints .u8 32 (zqg)) 23) := zqk hW;replace hG : Below w.heap.size w w1 := zq2 hW;clear hW;have lfp := zqa fp;have lfr := zqa fr;go_wp2_with fail;refine (cX _ (HK.out.later hG)).mono ?_
 rintro e w2 ⟨oS, cS, rfl, hS, hb⟩;replace fp := zqb hb fp;replace fr := zqb hb fr;replace lfp := zqa fp;replace lfr := zqa fr;replace hG := Grew.trans hG hb;have HS : Hid (K32At w2 oS (d + 1) S) := hS;clear hb hS cX;obtain ⟨ad, rfl⟩ := HS.out.addr (by omega);have l1 := HS.out.loadB (show d < d + 1 by omega) (Grew.refl _);go_wp2_with fail
 (try rw [l1])
 (try go_wp2)
 refine zqaf rfl _ 23 (ints .u8 32 (S d)) (0, 0) _ rfl (by exact zqe) Tryz.underlying23 rfl (by rw [zqh]; kernel_rfl) rfl ⟨rfl, by exact zqf⟩
theorem zqor (hS : zqdv) (hB : zqt8) (k : Nat -> Int) (Z : Nat -> Nat -> Int) (n l : Int) (oC : Option Addr) (d cC : Nat) (w : World) (hk : Bytes 32 k) (hd : d <= 1000) (hZ : ∀ i, i < d -> Bytes 32 (Z i)) (hK : K32At w oC d Z) (hok : zqao k Z d = true) :
  Calls Tryz.prog 64 #[.agg (refC n l (k) oC d cC)] w (zqhz w d (fun i => pubF (zqa1 k Z i))) := by
 have HK : Hid (K32At w oC d Z) := hK;obtain ⟨S, hSe⟩ : ∃ S, zqa1 k Z = S := ⟨_, rfl⟩
 have cX : ∀ W : World, K32At W oC d Z -> Calls Tryz.prog 59 #[.agg (refC n l (k) oC d cC)] W fun e w' => ∃ oS cS, e = .returned (.tuple #[.slice oS (d + 1) cS, .bool true]) /\ K32At w' oS (d + 1) S /\ Below W.heap.size W w' := fun W h => by rw [<- hSe]; exact zqim hS k Z n l oC d cC W hk hd hZ h hok
 have cB : Hid (∀ (i : Nat) (W : World), Calls Tryz.prog 50 #[.agg (ints .u8 32 (S i))] W (Rt W (.agg (ints .u8 32 (pubF (S i)))))) := fun i W => by
  have : Bytes 32 (S i) := by rw [<- hSe]; exact zqff k Z hk i
  exact zq26 hB (S i) W this
 rw [hSe];clear hK hok hZ hk hS hSe hB;have hG := Grew.refl w;have fp : True := trivial
 go_enter Tryz.func64, Tryz.ntmps64
 go_wp2_with fail;generalize hW : w.alloc (.cells (refC n l (k) oC d cC) 63) = w1;replace fp : zqd w1 (w.heap.size) = some (.cells (refC n l (k) oC d cC) 63) := zqk hW;replace hG : Below w.heap.size w w1 := zq2 hW;clear hW;have lfp := zqa fp;go_wp2_with fail;refine (cX _ (HK.out.later hG)).mono ?_
 rintro e w2 ⟨oS, cS, rfl, hS, hb⟩;replace fp := zqb hb fp;replace lfp := zqa fp;replace hG := Grew.trans hG hb;have HS : Hid (K32At w2 oS (d + 1) S) := hS;clear hb hS cX;clear fp lfp HK;obtain ⟨ad, rfl⟩ := HS.out.addr (by omega);go_wp2_with fail
 go_loopw [6, 3] (fun i v wr => ∃ (j : Nat) (v0 : Value), v0 = v /\ j <= d /\ i = .int .i64 j /\ Below w2.heap.size w2 wr /\ Hid (wr.ownsRow w2.heap.size 23 32 v0 j (k32L (fun i => pubF (S i)) j))) (fun i _ _ => d - (intOf i).toNat)
 case atStart => exact ⟨0, _, rfl, by omega, rfl, Grew.refl _, World.ownsRow_nil _ _ _ _⟩
 case round =>
  obtain ⟨j, v0, rfl, hj, rfl, hM, OWN⟩ := hrel
  by_cases hlt : j < d
  ·have l1 := HS.out.loadB (show j < d + 1 by omega) hM
   have hi1 : (j : Int) + 1 < (d : Int) + 1 := by omega
   have hi3 : (j : Int) < (d : Int) := by omega
   have hi2 : (j : Int) < (d : Int) + 1 := by omega
   have hi0 : (0 : Int) <= (j : Int) := by omega
   have hj9 : (j : Int) <= 1000 := by omega
   have cBj := fun W : World => cB.out j W;clear cB;go_wp2_with fail;refine (cBj _).mono ?_
   rintro e w5 ⟨rfl, hb5⟩;have hM5 := Grew.trans hM hb5;have OWN5 := zqbp OWN.out hb5;clear OWN hM hb5 cBj l1;obtain ⟨g3, c3, w3, hr3, own3, hb3, -⟩ := zqgs w2 (w5.alloc (.cells (ints .u8 32 (pubF (S j))) 23)) w2.heap.size v0 j (fun i => pubF (S i)) w5.heap.size _ _ (OWN5.alloc _) (by omega) (zqj _ _ _ rfl) (Grew.alloc hM5 _) (Nat.le_refl _) (by simp; have := hM5.size; omega);have OWN3 : Hid (w3.ownsRow w2.heap.size 23 32 (.slice (some ⟨g3, 0, none⟩) (j + 1) c3) (j + 1) (k32L (fun i => pubF (S i)) (j + 1))) := own3;clear own3 OWN5;go_wp2
   go_roundw
   case rel => exact ⟨j + 1, _, rfl, by omega, by go_num, hb3, OWN3⟩
   case measure => (simp [intOf] <;> omega)
  ·obtain rfl : j = d := by omega
   obtain ⟨oa2, c2, rfl, -, hK2⟩ := zqej OWN.out;have HK2 : Hid (K32At wr oa2 j (fun i => pubF (S i))) := hK2;have hj9 : (j : Int) <= 1000 := by omega
   clear OWN hK2;go_wp2;go_ret;exact ⟨oa2, c2, rfl, HK2.out, Grew.trans hG hM⟩
end Go.Proofs.YtconieddcjpbjaaGreatDoor
namespace Go.Proofs.YtconieddcjpbjaaGreatDoor
open Go.RowKit
attribute [local irreducible] zqc4 zqb1 oneF macF shaF strOf keyV shV pubV upF upOK pubF
theorem zqi5 (hS : zqdv) (k : Nat -> Int) (Z : Nat -> Nat -> Int) (oC : Option Addr) (n J d cC : Nat) (w : World) (h2 : 2 <= n) (hn : n <= 1024) (hJ : J < n) (hd : (zq1 n J).length = d) (hk : Bytes 32 k) (hZ : ∀ i, i < d -> Bytes 32 (Z i)) (hok : zqao k Z d = true) (hK : K32At w oC d Z) :
  Calls Tryz.prog 29 #[.int .i64 (n : Int), .int .i64 (J : Int), .agg (ints .u8 32 k), .slice oC d cC] w (Rt w (.tuple #[.agg (refC n J (k) oC d cC), .bool true])) := by
 have h1 : 1 <= n := by omega
 have hd10 : d <= 10 := by rw [<- hd]; exact zqbm n J hn
 have cD : ∀ W : World, Calls Tryz.prog 58 #[.int .i64 (n : Int), .int .i64 (J : Int)] W (Rt W (.int .i64 (d : Int))) := fun W => by
  have := zqfc (n : Int) (J : Int) W;rw [if_pos (by omega), zqck h1 hn hJ, zqa0, hd] at this;rw [show (((d + 1 : Nat) : Int) - 1) = (d : Int) by omega] at this;exact this
 have cX : ∀ W : World, K32At W oC d Z -> Calls Tryz.prog 59 #[.agg (refC n J (k) oC d cC)] W fun e w' => ∃ oS cS, e = .returned (.tuple #[.slice oS (d + 1) cS, .bool true]) /\ K32At w' oS (d + 1) (zqa1 k Z) /\ Below W.heap.size W w' := fun W h => zqim hS k Z n J oC d cC W hk (by omega) hZ h hok;have HK : Hid (K32At w oC d Z) := hK;clear hK hok hZ hk hd h1 hS;have hn2 : ¬ ((n : Int) < 2) := by omega
 have hn3 : ¬ ((1024 : Int) < (n : Int)) := by omega
 have hj2 : ¬ ((J : Int) < 0) := by omega
 have hj3 : ¬ ((n : Int) <= (J : Int)) := by omega
 generalize zqa1 k Z = S at *;have hG := Grew.refl w;have fk : True := trivial;have fr : True := trivial;have fp : True := trivial
 go_enter Tryz.func29, Tryz.ntmps29
 go_wp2_with fail;generalize hW : ((w.alloc (.cells (ints .u8 32 (k)) 23)).alloc (.cells (refC 0 0 (zqg) none 0 0) 63)).alloc (.cells (refC n J (k) oC d cC) 63) = w1;replace fk : zqd w1 (w.heap.size) = some (.cells (ints .u8 32 (k)) 23) := zqk hW;replace fr : zqd w1 (w.heap.size + 1) = some (.cells (refC 0 0 (zqg) none 0 0) 63) := zqk hW;replace fp : zqd w1 (w.heap.size + 1 + 1) = some (.cells (refC n J (k) oC d cC) 63) := zqk hW;replace hG : Below w.heap.size w w1 := zq2 hW;clear hW;have lfk := zqa fk;have lfr := zqa fr;have lfp := zqa fp;go_wp2_with fail;refine (cD _).mono ?_
 rintro e w2 ⟨rfl, hb⟩;replace fk := zqb hb fk;replace fr := zqb hb fr;replace fp := zqb hb fp;replace lfk := zqa fk;replace lfr := zqa fr;replace lfp := zqa fp;replace hG := Grew.trans hG hb;clear hb;go_wp2_with fail;refine (cX _ (HK.out.later hG)).mono ?_
 rintro e w3 ⟨oS, cS, rfl, -, hb⟩;replace fk := zqb hb fk;replace fr := zqb hb fr;replace fp := zqb hb fp;replace lfk := zqa fk;replace lfr := zqa fr;replace lfp := zqa fp;replace hG := Grew.trans hG hb;clear hb cX;go_wp2;refine zqak rfl _ 63 (refC n J k oC d cC) (0, 0) _ _ rfl rfl (by exact zqe) Tryz.underlying63 rfl (by rw [zqbq]; kernel_rfl) rfl ⟨rfl, by exact zqf⟩
theorem zqhw (hS : zqdv) (k : Nat -> Int) (Z : Nat -> Nat -> Int) (oC : Option Addr) (n J d cC : Nat) (w : World) (h2 : 2 <= n) (hn : n <= 1024) (hJ : J < n) (hd : (zq1 n J).length = d) (hk : Bytes 32 k) (hZ : ∀ i, i < d -> Bytes 32 (Z i)) (hok : zqao k Z d = false) (hK : K32At w oC d Z) :
  Calls Tryz.prog 29 #[.int .i64 (n : Int), .int .i64 (J : Int), .agg (ints .u8 32 k), .slice oC d cC] w (Rt w (.tuple #[.agg (refC 0 0 (zqg) none 0 0), .bool false])) := by
 have h1 : 1 <= n := by omega
 have hd10 : d <= 10 := by rw [<- hd]; exact zqbm n J hn
 have cD : ∀ W : World, Calls Tryz.prog 58 #[.int .i64 (n : Int), .int .i64 (J : Int)] W (Rt W (.int .i64 (d : Int))) := fun W => by
  have := zqfc (n : Int) (J : Int) W;rw [if_pos (by omega), zqck h1 hn hJ, zqa0, hd] at this;rw [show (((d + 1 : Nat) : Int) - 1) = (d : Int) by omega] at this;exact this
 have cX : ∀ W : World, K32At W oC d Z -> Calls Tryz.prog 59 #[.agg (refC n J (k) oC d cC)] W (Rt W (.tuple #[.slice none 0 0, .bool false])) := fun W h => zq2b hS k Z n J oC d cC W hk (by omega) hZ h hok;have HK : Hid (K32At w oC d Z) := hK;clear hK hok hZ hk hd h1 hS;have hn2 : ¬ ((n : Int) < 2) := by omega
 have hn3 : ¬ ((1024 : Int) < (n : Int)) := by omega
 have hj2 : ¬ ((J : Int) < 0) := by omega
 have hj3 : ¬ ((n : Int) <= (J : Int)) := by omega
 have hG := Grew.refl w;have fk : True := trivial;have fr : True := trivial;have fp : True := trivial
 go_enter Tryz.func29, Tryz.ntmps29
 go_wp2_with fail;generalize hW : ((w.alloc (.cells (ints .u8 32 (k)) 23)).alloc (.cells (refC 0 0 (zqg) none 0 0) 63)).alloc (.cells (refC n J (k) oC d cC) 63) = w1;replace fk : zqd w1 (w.heap.size) = some (.cells (ints .u8 32 (k)) 23) := zqk hW;replace fr : zqd w1 (w.heap.size + 1) = some (.cells (refC 0 0 (zqg) none 0 0) 63) := zqk hW;replace fp : zqd w1 (w.heap.size + 1 + 1) = some (.cells (refC n J (k) oC d cC) 63) := zqk hW;replace hG : Below w.heap.size w w1 := zq2 hW;clear hW;have lfk := zqa fk;have lfr := zqa fr;have lfp := zqa fp;go_wp2_with fail;refine (cD _).mono ?_
 rintro e w2 ⟨rfl, hb⟩;replace fk := zqb hb fk;replace fr := zqb hb fr;replace fp := zqb hb fp;replace lfk := zqa fk;replace lfr := zqa fr;replace lfp := zqa fp;replace hG := Grew.trans hG hb;clear hb;go_wp2_with fail;refine (cX _ (HK.out.later hG)).mono ?_
 rintro e w3 ⟨rfl, hb⟩;replace fk := zqb hb fk;replace fr := zqb hb fr;replace fp := zqb hb fp;replace lfk := zqa fk;replace lfr := zqa fr;replace lfp := zqa fp;replace hG := Grew.trans hG hb;clear hb;go_wp2;refine zqak rfl _ 63 (refC 0 0 zqg none 0 0) (0, 0) _ _ rfl rfl (by exact zqe) Tryz.underlying63 rfl (by rw [zqbq]; kernel_rfl) rfl ⟨rfl, by exact zqf⟩
theorem zqv8 (k : Nat -> Int) (oC : Option Addr) (n j : Int) (d cC : Nat) (w : World) (hb : ¬ (2 <= n /\ n <= 1024 /\ 0 <= j /\ j < n /\ (d : Int) = ((zqef n j).length : Int) - 1)) :
  Calls Tryz.prog 29 #[.int .i64 n, .int .i64 j, .agg (ints .u8 32 k), .slice oC d cC] w (Rt w (.tuple #[.agg (refC 0 0 (zqg) none 0 0), .bool false])) := by
 by_cases hc : n < 2 \/ (¬ (n < 2) /\ 1024 < n) \/ (¬ (n < 2) /\ ¬ (1024 < n) /\ j < 0) \/ (¬ (n < 2) /\ ¬ (1024 < n) /\ ¬ (j < 0) /\ n <= j)
 case pos =>
  rcases hc with h1 | ⟨h1, h2⟩ | ⟨h1, h2, h3⟩ | ⟨h1, h2, h3, h4⟩
  all_goals
   have hG := Grew.refl w;have fk : True := trivial;have fr : True := trivial;have fp : True := trivial
   go_enter Tryz.func29, Tryz.ntmps29
   go_wp2_with fail;generalize hW : ((w.alloc (.cells (ints .u8 32 (k)) 23)).alloc (.cells (refC 0 0 (zqg) none 0 0) 63)).alloc (.cells (refC n j (k) oC d cC) 63) = w1;replace fk : zqd w1 (w.heap.size) = some (.cells (ints .u8 32 (k)) 23) := zqk hW;replace fr : zqd w1 (w.heap.size + 1) = some (.cells (refC 0 0 (zqg) none 0 0) 63) := zqk hW;replace fp : zqd w1 (w.heap.size + 1 + 1) = some (.cells (refC n j (k) oC d cC) 63) := zqk hW;replace hG : Below w.heap.size w w1 := zq2 hW;clear hW;have lfk := zqa fk;have lfr := zqa fr;have lfp := zqa fp;go_wp2;refine zqak rfl _ 63 (refC 0 0 zqg none 0 0) (0, 0) _ _ rfl rfl (by exact zqe) Tryz.underlying63 rfl (by rw [zqbq]; kernel_rfl) rfl ⟨rfl, by exact zqf⟩
 have h1 : ¬ (n < 2) := fun h => hc (.inl h);have h2 : ¬ (1024 < n) := fun h => hc (.inr (.inl ⟨h1, h⟩));have h3 : ¬ (j < 0) := fun h => hc (.inr (.inr (.inl ⟨h1, h2, h⟩)));have h4 : ¬ (n <= j) := fun h => hc (.inr (.inr (.inr ⟨h1, h2, h3, h⟩)));clear hc;have cD : ∃ D : Int, ¬ ((d : Int) = D) /\ ∀ W : World, Calls Tryz.prog 58 #[.int .i64 n, .int .i64 j] W (Rt W (.int .i64 D)) := by
  refine ⟨((zqef n j).length : Int) - 1, fun e => hb ⟨by omega, by omega, by omega, by omega, e⟩, fun W => ?_⟩;have := zqfc n j W;rw [if_pos (by omega)] at this;exact this
 obtain ⟨D, hD, cD⟩ := cD;clear hb;have hG := Grew.refl w;have fk : True := trivial;have fr : True := trivial;have fp : True := trivial
 go_enter Tryz.func29, Tryz.ntmps29
 go_wp2_with fail;generalize hW : ((w.alloc (.cells (ints .u8 32 (k)) 23)).alloc (.cells (refC 0 0 (zqg) none 0 0) 63)).alloc (.cells (refC n j (k) oC d cC) 63) = w1;replace fk : zqd w1 (w.heap.size) = some (.cells (ints .u8 32 (k)) 23) := zqk hW;replace fr : zqd w1 (w.heap.size + 1) = some (.cells (refC 0 0 (zqg) none 0 0) 63) := zqk hW;replace fp : zqd w1 (w.heap.size + 1 + 1) = some (.cells (refC n j (k) oC d cC) 63) := zqk hW;replace hG : Below w.heap.size w w1 := zq2 hW;clear hW;have lfk := zqa fk;have lfr := zqa fr;have lfp := zqa fp;go_wp2_with fail;refine (cD _).mono ?_
 rintro e w2 ⟨rfl, hb⟩;replace fk := zqb hb fk;replace fr := zqb hb fr;replace fp := zqb hb fp;replace lfk := zqa fk;replace lfr := zqa fr;replace lfp := zqa fp;replace hG := Grew.trans hG hb;clear hb;go_wp2;refine zqak rfl _ 63 (refC 0 0 zqg none 0 0) (0, 0) _ _ rfl rfl (by exact zqe) Tryz.underlying63 rfl (by rw [zqbq]; kernel_rfl) rfl ⟨rfl, by exact zqf⟩
end Go.Proofs.YtconieddcjpbjaaGreatDoor
namespace Go.Proofs.YtconieddcjpbjaaGreatDoor
open Go.RowKit
theorem zq1t (a b c d : Int) (w : World) : (binOp .eql 43 (.agg #[.int .i64 a, .int .i64 b]) (.agg #[.int .i64 c, .int .i64 d])).run Tryz.prog w = .ok (.bool (ndEq a b c d)) w := by
 unfold ndEq
 simp [go_sem]
 by_cases h1 : a = c <;> by_cases h2 : b = d <;> simp [h1, h2]
attribute [local go_sem ↓ high] zq1t
attribute [local irreducible] ndEq
def zqj4 (Z : Nat -> Int) (P : Nat -> Nat -> Int) (h : Int) (j : Nat) : Nat -> Int := if 0 <= h /\ h < (j : Int) then P h.toNat else Z
theorem zq3t (Z : Nat -> Int) (P : Nat -> Nat -> Int) (h : Int) : zqj4 Z P h 0 = Z := if_neg (by omega)
theorem zq83 (Z : Nat -> Int) (P : Nat -> Nat -> Int) {h : Int} {j : Nat} (e : h = (j : Int)) : zqj4 Z P h (j + 1) = P j := by
 unfold zqj4;rw [if_pos (by omega), e]; rfl
theorem zq5n (Z : Nat -> Int) (P : Nat -> Nat -> Int) {h : Int} {j : Nat} (e : ¬ (h = (j : Int))) : zqj4 Z P h (j + 1) = zqj4 Z P h j := by
 unfold zqj4
 by_cases c : 0 <= h /\ h < (j : Int)
 ·rw [if_pos c, if_pos (by omega)]
 ·rw [if_neg c, if_neg (by omega)]
theorem zqxu (v : Nd) (L : List Nd) (hd : L.Nodup) {j : Nat} {u : Nd} (hu : L[j]? = some u) : (v.f = u.f /\ v.s = u.s) ↔ idxN v.f v.s L 0 = (j : Int) := by
 constructor
 ·intro ⟨a, b⟩
  rw [a, b, zqtg u L 0 j hd hu, Nat.zero_add]
 ·intro e
  by_cases hm : v ∈ L
  ·obtain ⟨k, hk, ek⟩ := List.mem_iff_getElem.1 hm
   have ek' : L[k]? = some v := List.getElem?_eq_some_iff.2 ⟨hk, ek⟩
   rw [zqtg v L 0 k hd ek', Nat.zero_add] at e;obtain rfl : k = j := by omega
   rw [hu] at ek'
   cases ek'
   exact ⟨rfl, rfl⟩
  ·rw [zqgr hm] at e
   omega
theorem zq0m {w : World} {base m n size : Nat} {e : TypeId} {v : Value} {xs : List Value} {cs : Array Value} (h : w.ownsRow base e size v n xs) (hm : ∀ g, v.ownBlock = some g -> g ≠ m) : (w.setRow m cs).ownsRow base e size v n xs := by
 rcases h with ⟨h1, h2 | ⟨g, cap, cur, hv, hg, ho, rest⟩⟩
 ·exact ⟨h1, .inl h2⟩
 ·exact ⟨h1, .inr ⟨g, cap, cur, hv, hg, zqi _ _ (show zqd w g = _ from ho) (hm g (by rw [hv]; rfl)), rest⟩⟩
theorem NdsAt.key {w : World} {oa : Option Addr} {L : List Nd} (h : NdsAt w oa L) {g : Nat} {f : Nat -> Int} {t : TypeId} {fr : Nat × Nat} (hg : zqd w g = some (.cells (ints .u8 32 f) t fr)) (c : Array Value) : NdsAt (w.setRow g c) oa L := by
 cases L with
 | nil => exact .inl rfl
 | cons u L =>
  refine h.by fun g' o ob e hob => ?_
  rw [<- hob];refine zqam _ _ _ _ fun eg => ?_
  rcases h with h0 | ⟨g2, o2, e2, _, hl⟩
  ·cases h0
  ·rw [e] at e2
   cases e2
   obtain ⟨l1, _⟩ := hl 0 u rfl;rw [eg, hg, zqb7] at l1
   by_cases hx : o + 2 * 0 < 32
   ·rw [zqa9 _ _ _ _ hx] at l1
    cases l1
   ·rw [Array.getElem?_eq_none (by rw [zqh]; omega)] at l1
    cases l1
attribute [local irreducible] zqc4 zqb1 oneF macF shaF strOf keyV shV pubV upF upOK pubF
theorem zqnq (b : Bool) (MV : Option Addr -> Nat -> Array Value) (hsz : ∀ o c, (MV o c).size = 35) (hone : ∀ o c, zqa5 (MV o c) = true) (n J m d dm cC kP : Nat) (aC aP : Addr) (C PP : List Nd) (k : Nat -> Int) (Z P Z1 : Nat -> Nat -> Int) (w : World) (hC : K32At w (some aC) d Z) (hP : K32At w (some aP) dm P) (hd0 : 0 < d) (hd : d <= 10) (hdm : dm <= 10) (hl : C.length = d) (hpl : PP.length = dm + 1) (hm : m < n) (hne : m ≠ J)
  (cCo : ∀ W : World, Calls Tryz.prog 52 #[.int .i64 (n : Int), .int .i64 (J : Int)] W fun e w' => ∃ oa c, e = .returned (.slice oa d c) /\ NdsAt w' oa C /\ Below W.heap.size W w')
  (cDe : ∀ W : World, Calls Tryz.prog 58 #[.int .i64 (n : Int), .int .i64 (m : Int)] W (Rt W (.int .i64 (dm : Int))))
  (cPa : ∀ W : World, Calls Tryz.prog 69 #[.int .i64 (n : Int), .int .i64 (m : Int)] W fun e w' => ∃ oa c, e = .returned (.slice oa (dm + 1) c) /\ NdsAt w' oa PP /\ Below W.heap.size W w')
  (cMk : ∀ (o : Option Addr) (cc : Nat) (W : World), K32At W o d Z1 -> Calls Tryz.prog 29 #[.int .i64 (n : Int), .int .i64 (J : Int), .agg (ints .u8 32 k), .slice o d cc] W (Rt W (.tuple #[.agg (MV o cc), .bool b])))
  (hX : ∀ (i : Nat) (v : Nd), C[i]? = some v -> ∃ h : Int, h < (dm : Int) /\ zqj4 (Z i) P h (dm + 1) = Z1 i /\ ∀ (j : Nat) (u : Nd), PP[j]? = some u -> ((v.f = u.f /\ v.s = u.s) ↔ h = (j : Int))) :
  Calls Tryz.prog 34 #[.agg (refC n J (k) (some aC) d cC), .int .i64 (m : Int), .slice (some aP) dm kP] w fun e w' => ∃ gR cR, e = .returned (.tuple #[.agg (MV (some ⟨gR, 0, none⟩) cR), .bool b]) /\ Row32 23 w' gR d Z1 /\ Below w.heap.size w w' := by
 have HC0 : Hid (K32At w (some aC) d Z) := hC;have HP0 : Hid (K32At w (some aP) dm P) := hP;have HX : Hid (∀ (i : Nat) (v : Nd), C[i]? = some v -> ∃ h : Int, h < (dm : Int) /\ zqj4 (Z i) P h (dm + 1) = Z1 i /\ ∀ (j : Nat) (u : Nd), PP[j]? = some u -> ((v.f = u.f /\ v.s = u.s) ↔ h = (j : Int))) := hX;clear hC hP hX;have hm0 : ¬ ((m : Int) < 0) := by omega
 have hm1 : ¬ ((n : Int) <= (m : Int)) := by omega
 have hm2 : ¬ ((m : Int) = (J : Int)) := by omega
 have hG := Grew.refl w;have fp : True := trivial;have fr : True := trivial
 go_enter Tryz.func34, Tryz.ntmps34
 go_wp2_with fail;generalize hW : (w.alloc (.cells (refC n J (k) (some aC) d cC) 63)).alloc (.cells (refC 0 0 (zqg) none 0 0) 63) = w1;replace fp : zqd w1 (w.heap.size) = some (.cells (refC n J (k) (some aC) d cC) 63) := zqk hW;replace fr : zqd w1 (w.heap.size + 1) = some (.cells (refC 0 0 (zqg) none 0 0) 63) := zqk hW;replace hG : Below w.heap.size w w1 := zq2 hW;clear hW;have lfp := zqa fp;have lfr := zqa fr;go_wp2_with fail;refine (cDe _).mono ?_
 rintro e w2 ⟨rfl, hb⟩;replace fp := zqb hb fp;replace fr := zqb hb fr;replace lfp := zqa fp;replace lfr := zqa fr;replace hG := Grew.trans hG hb;clear hb;go_wp2_with fail;refine (cCo _).mono ?_
 rintro e w3 ⟨oN, kN, rfl, hN, hb⟩;replace fp := zqb hb fp;replace fr := zqb hb fr;replace lfp := zqa fp;replace lfr := zqa fr;replace hG := Grew.trans hG hb;have HN : Hid (NdsAt w3 oN C) := hN;clear hb hN cCo cDe;have hsz0 := hG.size;go_wp2_with fail
 go_loopw [44, 8, 9, 10, 11, 57, 58, 59, 12, 13] (fun i v _ _ _ _ _ _ _ _ wr => ∃ (q : Nat) (v0 : Value), v0 = v /\ q <= d /\ i = .int .i64 q /\ Below w3.heap.size w3 wr /\ Hid (wr.ownsRow w3.heap.size 23 32 v0 q (k32L Z1 q))) (fun i _ _ _ _ _ _ _ _ _ _ => d - (intOf i).toNat)
 case atStart => exact ⟨0, _, rfl, by omega, rfl, Grew.refl _, World.ownsRow_nil _ _ _ _⟩
 case round =>
  obtain ⟨q, v0, rfl, hq, rfl, hM, OWN⟩ := hrel
  by_cases hlt : q < d
  ·obtain ⟨v, hv⟩ : ∃ v, C[q]? = some v := ⟨_, List.getElem?_eq_getElem (by omega)⟩
   obtain ⟨h, hh, hZ1, hiff⟩ := HX.out q v hv;have hcell : ∃ gC o, oN = some ⟨gC, o, none⟩ /\ gC < wr.heap.size /\ cellOf (zqd wr gC) (o + q * 2) = some (.int .i64 v.f) /\ cellOf (zqd wr gC) (o + q * 2 + 1) = some (.int .i64 v.s) := by
    rcases HN.out.later hM with h0 | ⟨g', o', e, hg', hl⟩
    ·subst h0; simp at hv
    ·obtain ⟨l1, l2⟩ := hl q v hv
     rw [Nat.mul_comm] at l1 l2;exact ⟨g', o', e, hg', l1, l2⟩
   obtain ⟨gC, oo, rfl, hgC, l1, l2⟩ := hcell;have hi1 : (q : Int) < (d : Int) := by omega
   have hi0 : (0 : Int) <= (q : Int) := by omega
   have fp1 := zqb hM fp;have lfp1 := zqa fp1;have lz := HC0.out.loadB hlt (Grew.alloc (Grew.trans hG hM) (.cells #[.int .i64 (v.f : Int), .int .i64 (v.s : Int)] 43));clear hv fr lfr;go_wp2_with fail;have fv : zqd ((wr.alloc (.cells #[.int .i64 (v.f : Int), .int .i64 (v.s : Int)] 43)).alloc (.cells (ints .u8 32 (Z q)) 23)) wr.heap.size = some (.cells #[.int .i64 (v.f : Int), .int .i64 (v.s : Int)] 43) := by exact zqe
   have fk : zqd ((wr.alloc (.cells #[.int .i64 (v.f : Int), .int .i64 (v.s : Int)] 43)).alloc (.cells (ints .u8 32 (Z q)) 23)) (wr.heap.size + 1) = some (.cells (ints .u8 32 (Z q)) 23) := by exact zqe
   have hnvk : ¬ (wr.heap.size = wr.heap.size + 1) := by omega
   have hM4 : Below w3.heap.size w3 ((wr.alloc (.cells #[.int .i64 (v.f : Int), .int .i64 (v.s : Int)] 43)).alloc (.cells (ints .u8 32 (Z q)) 23)) := Grew.alloc (Grew.alloc hM _) _;have OWN4 : Hid (((wr.alloc (.cells #[.int .i64 (v.f : Int), .int .i64 (v.s : Int)] 43)).alloc (.cells (ints .u8 32 (Z q)) 23)).ownsRow w3.heap.size 23 32 v0 q (k32L Z1 q)) := (OWN.out.alloc _).alloc _;have hob : ∀ x, v0.ownBlock = some x -> x ≠ wr.heap.size + 1 := fun x hx => by have := (OWN.out.lt x hx).2; omega
   have hb0 : w3.heap.size <= wr.heap.size + 1 := by have := hM.size; omega
   clear OWN lz l1 l2 hgC fp1 lfp1;generalize ((wr.alloc (.cells #[.int .i64 (v.f : Int), .int .i64 (v.s : Int)] 43)).alloc (.cells (ints .u8 32 (Z q)) 23)) = wA at *;generalize hgk : wr.heap.size + 1 = gk at *;clear hgk;generalize wr.heap.size = gv at *;refine (cPa _).mono ?_
   rintro e w9 ⟨oQ, kQ, rfl, hQ, hb⟩;have fv9 : Hid (zqd w9 gv = some (.cells #[.int .i64 (v.f : Int), .int .i64 (v.s : Int)] 43)) := zqb hb fv;have fk9 : Hid (zqd w9 gk = some (.cells (ints .u8 32 (zqj4 (Z q) P h 0)) 23)) := by rw [zq3t]; exact zqb hb fk
   have hM9 := Grew.trans hM4 hb;have HQ9 : Hid (NdsAt w9 oQ PP) := hQ;have OWN9 : Hid (w9.ownsRow w3.heap.size 23 32 v0 q (k32L Z1 q)) := zqbp OWN4.out hb;clear fv fk hM4 OWN4 hQ hb cPa;go_wp2_with fail
   go_loopw [59, 12, 13] (fun x _ _ wr => ∃ j : Nat, j <= dm + 1 /\ x = .int .i64 j /\ Below w3.heap.size w3 wr /\ Hid (zqd wr gv = some (.cells #[.int .i64 (v.f : Int), .int .i64 (v.s : Int)] 43)) /\ Hid (zqd wr gk = some (.cells (ints .u8 32 (zqj4 (Z q) P h j)) 23)) /\ Hid (NdsAt wr oQ PP) /\ Hid (wr.ownsRow w3.heap.size 23 32 v0 q (k32L Z1 q))) (fun x _ _ _ => dm + 1 - (intOf x).toNat)
   case atStart => exact ⟨0, by omega, rfl, hM9, fv9, fk9, HQ9, OWN9⟩
   case round =>
    clear hM9 fv9 fk9 HQ9 OWN9 hM;obtain ⟨j, hj, rfl, hM, FV, FK, HQ, OWN⟩ := hrel;have fv := FV.out;have fk := FK.out;have lfv := zqa fv;have lfk := zqa fk
    by_cases hlj : j < dm + 1
    ·obtain ⟨u, hu⟩ : ∃ u, PP[j]? = some u := ⟨_, List.getElem?_eq_getElem (by omega)⟩
     have hiff := hiff j u hu;have hcell : ∃ gC o, oQ = some ⟨gC, o, none⟩ /\ gC < wr.heap.size /\ cellOf (zqd wr gC) (o + j * 2) = some (.int .i64 u.f) /\ cellOf (zqd wr gC) (o + j * 2 + 1) = some (.int .i64 u.s) := by
      rcases HQ.out with h0 | ⟨g', o', e, hg', hl⟩
      ·subst h0; simp at hu
      ·obtain ⟨l1, l2⟩ := hl j u hu
       rw [Nat.mul_comm] at l1 l2;exact ⟨g', o', e, hg', l1, l2⟩
     obtain ⟨gU, oU, rfl, hgU, l1, l2⟩ := hcell;have hj1 : (j : Int) < (dm : Int) + 1 := by omega
     have hj0 : (0 : Int) <= (j : Int) := by omega
     by_cases he : h = (j : Int)
     ·have hne1 : ndEq (v.f : Int) (v.s : Int) (u.f : Int) (u.s : Int) = true := zqqq (by have := hiff.2 he; omega)
      have hjd : j < dm := by omega
      have hj2 : (j : Int) < (dm : Int) := by omega
      have lp := HP0.out.loadB hjd (Grew.alloc (Grew.trans hG hM) (.cells #[.int .i64 (u.f : Int), .int .i64 (u.s : Int)] 43));have fv2 : Hid (zqd ((wr.setRow gk (ints .u8 32 (P j))).alloc (.cells #[.int .i64 (u.f : Int), .int .i64 (u.s : Int)] 43)) gv = some (.cells #[.int .i64 (v.f : Int), .int .i64 (v.s : Int)] 43)) := zqm _ (zqi _ _ fv hnvk);have fk2 : Hid (zqd ((wr.setRow gk (ints .u8 32 (P j))).alloc (.cells #[.int .i64 (u.f : Int), .int .i64 (u.s : Int)] 43)) gk = some (.cells (ints .u8 32 (zqj4 (Z q) P h (j + 1))) 23)) := by rw [zq83 _ _ he]; exact zqm _ (zqs _ fk)
      have hQ2 : Hid (NdsAt ((wr.setRow gk (ints .u8 32 (P j))).alloc (.cells #[.int .i64 (u.f : Int), .int .i64 (u.s : Int)] 43)) (some ⟨gU, oU, none⟩) PP) := (HQ.out.key fk _).later (Grew.alloc (Grew.refl _) _);have hO2 : Hid (((wr.setRow gk (ints .u8 32 (P j))).alloc (.cells #[.int .i64 (u.f : Int), .int .i64 (u.s : Int)] 43)).ownsRow w3.heap.size 23 32 v0 q (k32L Z1 q)) := (zq0m OWN.out hob).alloc _;have hM2 : Below w3.heap.size w3 ((wr.setRow gk (ints .u8 32 (P j))).alloc (.cells #[.int .i64 (u.f : Int), .int .i64 (u.s : Int)] 43)) := Grew.alloc (Grew.setRow hM _ _ hb0) _;clear FV FK HQ OWN hM hu hiff he;go_wp2
      go_roundw
      case rel => first | exact ⟨j + 1, by omega, by go_num, hM2, fv2, fk2, hQ2, hO2⟩ | ((repeat' apply Exists.intro) <;> first | exact ⟨⟨j + 1, by omega, by go_num, hM2, fv2, fk2, hQ2, hO2⟩, rfl⟩ | exact undef)
      case measure => (simp [intOf] <;> omega)
     ·have hne1 : ndEq (v.f : Int) (v.s : Int) (u.f : Int) (u.s : Int) = false := zquf fun hh => he (hiff.1 (by omega))
      have fv2 : Hid (zqd (wr.alloc (.cells #[.int .i64 (u.f : Int), .int .i64 (u.s : Int)] 43)) gv = some (.cells #[.int .i64 (v.f : Int), .int .i64 (v.s : Int)] 43)) := zqm _ fv;have fk2 : Hid (zqd (wr.alloc (.cells #[.int .i64 (u.f : Int), .int .i64 (u.s : Int)] 43)) gk = some (.cells (ints .u8 32 (zqj4 (Z q) P h (j + 1))) 23)) := by rw [zq5n _ _ he]; exact zqm _ fk
      have hQ2 : Hid (NdsAt (wr.alloc (.cells #[.int .i64 (u.f : Int), .int .i64 (u.s : Int)] 43)) (some ⟨gU, oU, none⟩) PP) := HQ.out.later (Grew.alloc (Grew.refl _) _);have hO2 : Hid ((wr.alloc (.cells #[.int .i64 (u.f : Int), .int .i64 (u.s : Int)] 43)).ownsRow w3.heap.size 23 32 v0 q (k32L Z1 q)) := OWN.out.alloc _;have hM2 : Below w3.heap.size w3 (wr.alloc (.cells #[.int .i64 (u.f : Int), .int .i64 (u.s : Int)] 43)) := Grew.alloc hM _;clear FV FK HQ OWN hM hu hiff he;go_wp2
      go_roundw
      case rel => first | exact ⟨j + 1, by omega, by go_num, hM2, fv2, fk2, hQ2, hO2⟩ | ((repeat' apply Exists.intro) <;> first | exact ⟨⟨j + 1, by omega, by go_num, hM2, fv2, fk2, hQ2, hO2⟩, rfl⟩ | exact undef)
      case measure => (simp [intOf] <;> omega)
    ·obtain rfl : j = dm + 1 := by omega
     rw [hZ1] at fk;obtain ⟨g3, c3, w33, hr3, own3, hb3, -⟩ := zqgs w3 (wr.alloc (.cells (ints .u8 32 (Z1 q)) 23)) w3.heap.size v0 q Z1 wr.heap.size _ _ (OWN.out.alloc _) (by omega) (zqj _ _ _ rfl) (Grew.alloc hM _) (Nat.le_refl _) (by simp; have := hM.size; omega);have OWN3 : Hid (w33.ownsRow w3.heap.size 23 32 (.slice (some ⟨g3, 0, none⟩) (q + 1) c3) (q + 1) (k32L Z1 (q + 1))) := own3;clear own3 OWN FV FK HQ hM;go_wp2
     go_roundw
     case rel => first | exact ⟨q + 1, _, rfl, by omega, by go_num, hb3, OWN3⟩ | ((repeat' apply Exists.intro) <;> first | exact ⟨⟨q + 1, _, rfl, by omega, by go_num, hb3, OWN3⟩, rfl⟩ | exact undef)
     case measure => (simp [intOf] <;> omega)
  ·obtain rfl : q = d := by omega
   obtain ⟨gR, c2, rfl, -, -, hK2r⟩ := zqey (by omega) OWN.out;have hK2 := hK2r.k32;clear hK2r;have hlr : w.heap.size + 1 < w3.heap.size := lfr;have fp1 := zqb hM fp;have fr1 := zqb hM fr;have hG1 := Grew.trans hG hM;clear fp fr lfp lfr;have lfp1 := zqa fp1;go_wp2_with fail;refine (cMk _ _ _ hK2).mono ?_
   rintro e w20 ⟨rfl, hb⟩;have fr := zqb hb fr1;have lfr := zqa fr;replace hG := Grew.trans hG1 hb;have HO := zqbp OWN.out hb;clear fp1 fr1 hG1 OWN hK2 lfp1 hb;have hfin : ∀ cs, Row32 23 (w20.setRow (w.heap.size + 1) cs) gR q Z1 := fun cs => by
    obtain ⟨g9, c9, e, -, -, hK⟩ := zqey (by omega) (zqpx (cs := cs) HO hlr)
    cases e
    exact hK
   have hz1 := hsz (some ⟨gR, 0, none⟩) c2;have hz2 := hone (some ⟨gR, 0, none⟩) c2;go_wp2;refine zqak rfl _ 63 (MV (some ⟨gR, 0, none⟩) c2) (0, 0) _ _ rfl rfl (by exact zqe) Tryz.underlying63 rfl (by rw [hz1]; kernel_rfl) rfl ⟨gR, c2, rfl, hfin _, by exact zqf⟩
theorem zqvp (n J : Nat) (m : Int) (d cC dm kP : Nat) (oC oP : Option Addr) (k : Nat -> Int) (w : World) (D : Int) (cDe : ∀ W : World, Calls Tryz.prog 58 #[.int .i64 (n : Int), .int .i64 m] W (Rt W (.int .i64 D))) (hb : ¬ (0 <= m /\ m < n /\ m ≠ J /\ (dm : Int) = D)) :
  Calls Tryz.prog 34 #[.agg (refC n J (k) oC d cC), .int .i64 m, .slice oP dm kP] w (Rt w (.tuple #[.agg (refC 0 0 (zqg) none 0 0), .bool false])) := by
 by_cases hc : m < 0 \/ (¬ (m < 0) /\ (n : Int) <= m) \/ (¬ (m < 0) /\ ¬ ((n : Int) <= m) /\ m = (J : Int))
 case pos =>
  rcases hc with h0 | ⟨h0, h1⟩ | ⟨h0, h1, h2⟩
  all_goals
   have hG := Grew.refl w;have fp : True := trivial;have fr : True := trivial
   go_enter Tryz.func34, Tryz.ntmps34
   go_wp2_with fail;generalize hW : (w.alloc (.cells (refC n J (k) oC d cC) 63)).alloc (.cells (refC 0 0 (zqg) none 0 0) 63) = w1;replace fp : zqd w1 (w.heap.size) = some (.cells (refC n J (k) oC d cC) 63) := zqk hW;replace fr : zqd w1 (w.heap.size + 1) = some (.cells (refC 0 0 (zqg) none 0 0) 63) := zqk hW;replace hG : Below w.heap.size w w1 := zq2 hW;clear hW;have lfp := zqa fp;have lfr := zqa fr;go_wp2;refine zqak rfl _ 63 (refC 0 0 zqg none 0 0) (0, 0) _ _ rfl rfl (by exact zqe) Tryz.underlying63 rfl (by rw [zqbq]; kernel_rfl) rfl ⟨rfl, by exact zqf⟩
 have h0 : ¬ (m < 0) := fun h => hc (.inl h);have h1 : ¬ ((n : Int) <= m) := fun h => hc (.inr (.inl ⟨h0, h⟩));have h2 : ¬ (m = (J : Int)) := fun h => hc (.inr (.inr ⟨h0, h1, h⟩));clear hc;have hD : ¬ ((dm : Int) = D) := fun e => hb ⟨by omega, by omega, h2, e⟩;have hDb : ((dm : Int) != D) = true := by simpa using hD
 have hJb : (m == (J : Int)) = false := by simpa using h2
 have hG := Grew.refl w;have fp : True := trivial;have fr : True := trivial
 go_enter Tryz.func34, Tryz.ntmps34
 go_wp2_with fail;generalize hW : (w.alloc (.cells (refC n J (k) oC d cC) 63)).alloc (.cells (refC 0 0 (zqg) none 0 0) 63) = w1;replace fp : zqd w1 (w.heap.size) = some (.cells (refC n J (k) oC d cC) 63) := zqk hW;replace fr : zqd w1 (w.heap.size + 1) = some (.cells (refC 0 0 (zqg) none 0 0) 63) := zqk hW;replace hG : Below w.heap.size w w1 := zq2 hW;clear hW;have lfp := zqa fp;have lfr := zqa fr;go_wp2_with fail;refine (cDe _).mono ?_
 rintro e w2 ⟨rfl, hb⟩;replace fp := zqb hb fp;replace fr := zqb hb fr;replace lfp := zqa fp;replace lfr := zqa fr;replace hG := Grew.trans hG hb;clear hb;go_wp2;refine zqak rfl _ 63 (refC 0 0 zqg none 0 0) (0, 0) _ _ rfl rfl (by exact zqe) Tryz.underlying63 rfl (by rw [zqbq]; kernel_rfl) rfl ⟨rfl, by exact zqf⟩
end Go.Proofs.YtconieddcjpbjaaGreatDoor
namespace Go.Proofs.YtconieddcjpbjaaGreatDoor
open Go.RowKit
attribute [local irreducible] zqc4 zqb1 oneF macF shaF strOf keyV shV pubV upF upOK pubF
theorem zq0z (hS : zqdv) (n J m d dm cC kP : Nat) (oC oP : Option Addr) (k : Nat -> Int) (Z P : Nat -> Nat -> Int) (w : World) (h2 : 2 <= n) (hn : n <= 1024) (hJ : J < n) (hm : m < n) (hne : m ≠ J) (hd : (zq1 n J).length = d) (hdm : (zq1 n m).length = dm) (hk : Bytes 32 k) (hZb : ∀ i, i < d -> Bytes 32 (Z i)) (hPb : ∀ i, i < dm -> Bytes 32 (P i)) (hok : zqao k (zqgn Z P n J m) d = true) (hC : K32At w oC d Z) (hP : K32At w oP dm P) :
  Calls Tryz.prog 34 #[.agg (refC n J (k) oC d cC), .int .i64 (m : Int), .slice oP dm kP] w fun e w' => ∃ gR cR, e = .returned (.tuple #[.agg (refC n J (k) (some ⟨gR, 0, none⟩) d cR), .bool true]) /\ Row32 23 w' gR d (zqgn Z P n J m) /\ Below w.heap.size w w' := by
 have h1 : 1 <= n := by omega
 obtain ⟨i0, k0, v0, e1, e2, e3, e4, e5, e6, e7⟩ := zqgy n J m h1 hJ hm hne;have hd10 : d <= 10 := by rw [<- hd]; exact zqbm n J hn
 have hdm10 : dm <= 10 := by rw [<- hdm]; exact zqbm n m hn
 have hi : i0 < d := by have := (List.getElem?_eq_some_iff.1 e1).1; omega
 obtain ⟨aC, rfl⟩ := hC.addr (by omega);obtain ⟨aP, rfl⟩ := hP.addr (by omega);have cCo : ∀ W : World, Calls Tryz.prog 52 #[.int .i64 (n : Int), .int .i64 (J : Int)] W fun e w' => ∃ oa c, e = .returned (.slice oa d c) /\ NdsAt w' oa (zq1 n J) /\ Below W.heap.size W w' := fun W => by
  have := zqnx (n : Int) (J : Int) W;rw [zqcg h1 hn hJ] at this;exact this.mono fun e w' ⟨oa, c, a, b, hb⟩ => ⟨oa, c, by rw [a, hd], b, hb⟩
 have cDe : ∀ W : World, Calls Tryz.prog 58 #[.int .i64 (n : Int), .int .i64 (m : Int)] W (Rt W (.int .i64 (dm : Int))) := fun W => by
  have := zqfc (n : Int) (m : Int) W;rw [if_pos (by omega), zqck h1 hn hm, zqa0, hdm, show (((dm + 1 : Nat) : Int) - 1) = (dm : Int) by omega] at this;exact this
 have cPa : ∀ W : World, Calls Tryz.prog 69 #[.int .i64 (n : Int), .int .i64 (m : Int)] W fun e w' => ∃ oa c, e = .returned (.slice oa (dm + 1) c) /\ NdsAt w' oa (zqco n m) /\ Below W.heap.size W w' := fun W => by
  have := zqjm (n : Int) (m : Int) W;rw [zqck h1 hn hm] at this;exact this.mono fun e w' ⟨oa, c, a, b, hb⟩ => ⟨oa, c, by rw [a, zqa0, hdm], b, hb⟩
 refine zqnq true (fun o c => refC n J k o d c) (fun _ _ => zqbq _ _ _ _ _ _) (fun _ _ => zqf3 _ _ _ _ _ _) n J m d dm cC kP aC aP (zq1 n J) (zqco n m) k Z P (zqgn Z P n J m) w hC hP (by omega) hd10 hdm10 hd (by rw [zqa0, hdm]) hm hne cCo cDe cPa (fun o cc W h => zqi5 hS k _ o n J d cc W h2 hn hJ hd hk (fun x hx => zqfk h1 hJ hm hne hd hdm hZb hPb x hx) hok h) fun i v hv => ⟨idxN v.f v.s (zqco n m) 0, ?_, ?_, fun j u hu => zqxu v (zqco n m) (zqlc n m h1 hm) hu⟩
 ·by_cases hmem : v ∈ zqco n m
  ·have hh := ((zqh4 n m h1 hm v).1 hmem).2
   have := e5 i v hv hh;subst this;rw [e1] at hv
   cases hv
   rw [e6]
   omega
  ·rw [zqgr hmem]
   omega
 ·have hlt : idxN v.f v.s (zqco n m) 0 < (dm : Int) := by
   by_cases hmem : v ∈ zqco n m
   ·have hh := ((zqh4 n m h1 hm v).1 hmem).2
    have := e5 i v hv hh;subst this;rw [e1] at hv
    cases hv
    rw [e6]
    omega
   ·rw [zqgr hmem]
    omega
  unfold zqgn zqj4;rw [zqgc hv]
  simp only
  by_cases hc : 0 <= idxN v.f v.s (zqco n m) 0
  ·rw [if_pos ⟨hc, by omega⟩, if_pos hc]
  ·rw [if_neg (fun h => hc h.1), if_neg hc]
theorem zqve (hS : zqdv) (n J m d dm cC kP : Nat) (oC oP : Option Addr) (k : Nat -> Int) (Z P : Nat -> Nat -> Int) (w : World) (h2 : 2 <= n) (hn : n <= 1024) (hJ : J < n) (hm : m < n) (hne : m ≠ J) (hd : (zq1 n J).length = d) (hdm : (zq1 n m).length = dm) (hk : Bytes 32 k) (hZb : ∀ i, i < d -> Bytes 32 (Z i)) (hPb : ∀ i, i < dm -> Bytes 32 (P i)) (hok : zqao k (zqgn Z P n J m) d = false) (hC : K32At w oC d Z) (hP : K32At w oP dm P) :
  Calls Tryz.prog 34 #[.agg (refC n J (k) oC d cC), .int .i64 (m : Int), .slice oP dm kP] w (Rt w (.tuple #[.agg (refC 0 0 (zqg) none 0 0), .bool false])) := by
 have h1 : 1 <= n := by omega
 obtain ⟨i0, k0, v0, e1, e2, e3, e4, e5, e6, e7⟩ := zqgy n J m h1 hJ hm hne;have hd10 : d <= 10 := by rw [<- hd]; exact zqbm n J hn
 have hdm10 : dm <= 10 := by rw [<- hdm]; exact zqbm n m hn
 have hi : i0 < d := by have := (List.getElem?_eq_some_iff.1 e1).1; omega
 obtain ⟨aC, rfl⟩ := hC.addr (by omega);obtain ⟨aP, rfl⟩ := hP.addr (by omega);have cCo : ∀ W : World, Calls Tryz.prog 52 #[.int .i64 (n : Int), .int .i64 (J : Int)] W fun e w' => ∃ oa c, e = .returned (.slice oa d c) /\ NdsAt w' oa (zq1 n J) /\ Below W.heap.size W w' := fun W => by
  have := zqnx (n : Int) (J : Int) W;rw [zqcg h1 hn hJ] at this;exact this.mono fun e w' ⟨oa, c, a, b, hb⟩ => ⟨oa, c, by rw [a, hd], b, hb⟩
 have cDe : ∀ W : World, Calls Tryz.prog 58 #[.int .i64 (n : Int), .int .i64 (m : Int)] W (Rt W (.int .i64 (dm : Int))) := fun W => by
  have := zqfc (n : Int) (m : Int) W;rw [if_pos (by omega), zqck h1 hn hm, zqa0, hdm, show (((dm + 1 : Nat) : Int) - 1) = (dm : Int) by omega] at this;exact this
 have cPa : ∀ W : World, Calls Tryz.prog 69 #[.int .i64 (n : Int), .int .i64 (m : Int)] W fun e w' => ∃ oa c, e = .returned (.slice oa (dm + 1) c) /\ NdsAt w' oa (zqco n m) /\ Below W.heap.size W w' := fun W => by
  have := zqjm (n : Int) (m : Int) W;rw [zqck h1 hn hm] at this;exact this.mono fun e w' ⟨oa, c, a, b, hb⟩ => ⟨oa, c, by rw [a, zqa0, hdm], b, hb⟩
 refine (zqnq false (fun _ _ => refC 0 0 zqg none 0 0) (fun _ _ => zqbq _ _ _ _ _ _) (fun _ _ => zqf3 _ _ _ _ _ _) n J m d dm cC kP aC aP (zq1 n J) (zqco n m) k Z P (zqgn Z P n J m) w hC hP (by omega) hd10 hdm10 hd (by rw [zqa0, hdm]) hm hne cCo cDe cPa (fun o cc W h => zqhw hS k _ o n J d cc W h2 hn hJ hd hk (fun x hx => zqfk h1 hJ hm hne hd hdm hZb hPb x hx) hok h) fun i v hv => ⟨idxN v.f v.s (zqco n m) 0, ?_, ?_, fun j u hu => zqxu v (zqco n m) (zqlc n m h1 hm) hu⟩).mono fun e w9 ⟨_, _, a, _, b⟩ => ⟨a, b⟩
 ·by_cases hmem : v ∈ zqco n m
  ·have hh := ((zqh4 n m h1 hm v).1 hmem).2
   have := e5 i v hv hh;subst this;rw [e1] at hv
   cases hv
   rw [e6]
   omega
  ·rw [zqgr hmem]
   omega
 ·have hlt : idxN v.f v.s (zqco n m) 0 < (dm : Int) := by
   by_cases hmem : v ∈ zqco n m
   ·have hh := ((zqh4 n m h1 hm v).1 hmem).2
    have := e5 i v hv hh;subst this;rw [e1] at hv
    cases hv
    rw [e6]
    omega
   ·rw [zqgr hmem]
    omega
  unfold zqgn zqj4;rw [zqgc hv]
  simp only
  by_cases hc : 0 <= idxN v.f v.s (zqco n m) 0
  ·rw [if_pos ⟨hc, by omega⟩, if_pos hc]
  ·rw [if_neg (fun h => hc h.1), if_neg hc]
theorem zqyl (n J : Nat) (m : Int) (d cC dm kP : Nat) (oC oP : Option Addr) (k : Nat -> Int) (w : World) (h1 : 1 <= n) (hn : n <= 1024) (hb : ¬ (0 <= m /\ m < n /\ m ≠ J /\ (dm : Int) = ((zqef n m).length : Int) - 1)) :
  Calls Tryz.prog 34 #[.agg (refC n J (k) oC d cC), .int .i64 m, .slice oP dm kP] w (Rt w (.tuple #[.agg (refC 0 0 (zqg) none 0 0), .bool false])) := by
 have cDe := fun W : World => zqfc (n : Int) m W;rw [if_pos (by omega)] at cDe;exact zqvp n J m d cC dm kP oC oP k w _ cDe hb
end Go.Proofs.YtconieddcjpbjaaGreatDoor
namespace Go.Proofs.YtconieddcjpbjaaGreatDoor
open Go.RowKit
theorem zq75 : zqdv := fun k p W hk hp => zqvu k p W hk hp rfl
theorem zrir : zqt8 := fun k W hk => zq41 k W hk
end Go.Proofs.YtconieddcjpbjaaGreatDoor
namespace Go.Proofs.YtconieddcjpbjaaGreatDoor
open Go.RowKit
attribute [local irreducible] zqc4 zqb1 oneF macF shaF strOf keyV shV pubV upF upOK pubF
theorem zqum (n J : Int) (oS oC oR : Option Addr) (d cS cC cR : Nat) (k R0 : Nat -> Int) (S Z Q : Nat -> Nat -> Int) (w : World) (hd : d <= 10) (hR : K32At w oR d Z)
  (tN : ∀ W : World, Calls Tryz.prog 60 #[.agg #[.int .i64 n, .int .i64 J, .slice oS (d + 1) cS, .slice oC d cC]] W (Rt W (.int .i64 n)))
  (tL : ∀ W : World, Calls Tryz.prog 61 #[.agg #[.int .i64 n, .int .i64 J, .slice oS (d + 1) cS, .slice oC d cC]] W (Rt W (.int .i64 J)))
  (tR : ∀ W : World, Below w.heap.size w W -> Calls Tryz.prog 35 #[.agg #[.int .i64 n, .int .i64 J, .slice oS (d + 1) cS, .slice oC d cC]] W (Rt W (.agg (ints .u8 32 R0))))
  (tRR : ∀ W : World, Below w.heap.size w W -> Calls Tryz.prog 63 #[.agg (refC n J (k) oR d cR)] W (Rt W (.agg (ints .u8 32 R0))))
  (tS : ∀ W : World, Below w.heap.size w W -> Calls Tryz.prog 62 #[.agg #[.int .i64 n, .int .i64 J, .slice oS (d + 1) cS, .slice oC d cC]] W (zqhz W (d + 1) S))
  (tC : ∀ W : World, Below w.heap.size w W -> Calls Tryz.prog 37 #[.agg #[.int .i64 n, .int .i64 J, .slice oS (d + 1) cS, .slice oC d cC]] W (zqhz W d Z))
  (tP : ∀ W : World, Below w.heap.size w W -> Calls Tryz.prog 36 #[.agg #[.int .i64 n, .int .i64 J, .slice oS (d + 1) cS, .slice oC d cC]] W (zqhz W d Q))
  (tRP : ∀ W : World, Below w.heap.size w W -> Calls Tryz.prog 64 #[.agg (refC n J (k) oR d cR)] W (zqhz W d Q))
  (tSe : ∀ W : World, Below w.heap.size w W -> Calls Tryz.prog 59 #[.agg (refC n J (k) oR d cR)] W fun e w' => ∃ oS cS, e = .returned (.tuple #[.slice oS (d + 1) cS, .bool true]) /\ K32At w' oS (d + 1) S /\ Below W.heap.size W w') :
  Calls Tryz.prog 31 #[.agg #[.int .i64 n, .int .i64 J, .slice oS (d + 1) cS, .slice oC d cC], .agg (refC n J (k) oR d cR)] w (Rt w (.bool true)) := by
 have HR0 : Hid (K32At w oR d Z) := hR;clear hR;have hsm := zqet 32 R0;have hG := Grew.refl w;have fp : True := trivial;have fq : True := trivial
 go_enter Tryz.func31, Tryz.ntmps31
 go_wp2_with fail;generalize hW : (w.alloc (.cells #[.int .i64 n, .int .i64 J, .slice oS (d + 1) cS, .slice oC d cC] 59)).alloc (.cells (refC n J (k) oR d cR) 63) = w1;replace fp : zqd w1 (w.heap.size) = some (.cells #[.int .i64 n, .int .i64 J, .slice oS (d + 1) cS, .slice oC d cC] 59) := zqk hW;replace fq : zqd w1 (w.heap.size + 1) = some (.cells (refC n J (k) oR d cR) 63) := zqk hW;replace hG : Below w.heap.size w w1 := zq2 hW;clear hW;have lfp := zqa fp;have lfq := zqa fq;go_wp2_with fail;refine (tSe _ hG).mono ?_
 rintro e w2 ⟨oT, cT, rfl, hT, hb⟩;replace fp := zqb hb fp;replace fq := zqb hb fq;replace lfp := zqa fp;replace lfq := zqa fq;replace hG := Grew.trans hG hb;have HT : Hid (K32At w2 oT (d + 1) S) := hT;clear hb hT tSe;have hGw := hG;go_wp2_with fail;refine zqga (fun k => k == 21 || k == 27 || k == 34 || k == 36) (fun k => match k with | 21 => fun u => KSl (d + 1) u | 27 => fun u => KSl d u | 34 => fun u => KSl d u | 36 => fun u => KSl d u | _ => fun _ => True) (fun k => match k with | 21 => fun u w => KAt (d + 1) S u w | 27 => fun u w => KAt d Z u w | 34 => fun u w => KAt d Q u w | 36 => fun u w => KAt d Q u w | _ => fun _ _ => True) (fun k => match k with | 21 => .slice none (d + 1) 0 | 27 => .slice none d 0 | 34 => .slice none d 0 | 36 => .slice none d 0 | _ => undef) (fun i hi => ?_) zqc zqc ?_
 ·simp only [Bool.or_eq_true, beq_iff_eq] at hi
  rcases hi with ((rfl | rfl) | rfl) | rfl
  ·exact ⟨none, 0, rfl⟩
  ·exact ⟨none, 0, rfl⟩
  ·exact ⟨none, 0, rfl⟩
  ·exact ⟨none, 0, rfl⟩
 iterate 21 (first | refine zq0 rfl ?_ | (refine zqr rfl ?_; apply Exists.intro))
 refine zqr rfl ⟨undef, ?_⟩
 iterate 5 (first | refine zq0 rfl ?_ | (refine zqr rfl ?_; apply Exists.intro))
 refine zqr rfl ⟨undef, ?_⟩
 iterate 6 (first | refine zq0 rfl ?_ | (refine zqr rfl ?_; apply Exists.intro))
 refine zqr rfl ⟨undef, ?_⟩
 (first | refine zq0 rfl ?_ | (refine zqr rfl ?_; apply Exists.intro))
 refine zqr rfl ⟨undef, ?_⟩
 iterate 3 (first | refine zq0 rfl ?_ | (refine zqr rfl ?_; apply Exists.intro))
 refine zqbl ?_
 intro γ gv hsv hinj hbase;obtain ⟨o1, k1, e1⟩ := hsv 21 rfl;obtain ⟨o2, k2, e2⟩ := hsv 27 rfl;obtain ⟨o3, k3, e3⟩ := hsv 34 rfl;obtain ⟨o4, k4, e4⟩ := hsv 36 rfl
 (repeat (first | (refine zqab rfl ?_; ((first | go_big_quiet_skip | (go_big_quiet_want; go_big_quiet_op; go_big_quiet_on)); refine wpQuiet_nil ?_)) | ((first | refine zqq rfl (fun _ => rfl) ?_ | (apply zqaz; (focus rfl); (focus rfl); (focus rfl); (focus (intro W hC hF; (have hbW : Below w2.heap.size w2 W := by obtain ⟨mm, rfl⟩ := hC; exact zqn w2 mm); (have hGW : Below w.heap.size w W := Grew.trans hGw hbW); go_big_quiet_want; go_big_quiet_op; (first | go_big_quiet_on | (apply Exists.intro; refine ⟨fun _ => ?_, ?_⟩; (focus (first | (with_reducible exact Calls.of_more (tN _)) | (with_reducible exact Calls.of_more (tL _)) | (with_reducible exact Calls.of_more (tR _ (Grew.more hGW _))) | (with_reducible exact Calls.of_more (tRR _ (Grew.more hGW _))))); go_big_quiet_on)); exact wpQuiet_nil rfl)); (focus (first | exact fun _ => ⟨rfl, rfl⟩ | exact fun h => absurd h (by decide))))); ((first | go_big_quiet_skip | (go_big_quiet_want; go_big_quiet_op; go_big_quiet_on)); refine wpQuiet_nil ?_)) | refine zqp rfl (fun _ => rfl) ?_))
 refine zqbs #[.agg #[.int .i64 n, .int .i64 J, .slice oS (d + 1) cS, .slice oC d cC]] (enters_of Tryz.func62 zqc rfl) rfl e1 rfl rfl rfl rfl (zqbk (zqbf _ _ _)) (by first | kernel_rfl | simp [go_sem]) ?_ ?_
 ·intro W hC hF
  obtain ⟨mm, rfl⟩ := hC;refine (tS _ (Grew.more hGw mm)).mono ?_
  rintro e w9 ⟨oa, cc, rfl, hK, hb9⟩;exact ⟨_, rfl, ⟨oa, cc, rfl⟩, fun oa2 c2 e2 => by cases e2; exact hK, hb9⟩
 ((first | go_big_quiet_skip | (go_big_quiet_want; go_big_quiet_op; go_big_quiet_on)); refine wpQuiet_nil ?_)
 (repeat (first | (refine zqab rfl ?_; ((first | go_big_quiet_skip | (go_big_quiet_want; go_big_quiet_op; go_big_quiet_on)); refine wpQuiet_nil ?_)) | ((first | refine zqq rfl (fun _ => rfl) ?_ | (apply zqaz; (focus rfl); (focus rfl); (focus rfl); (focus (intro W hC hF; (have hbW : Below w2.heap.size w2 W := by obtain ⟨mm, rfl⟩ := hC; exact zqn w2 mm); (have hGW : Below w.heap.size w W := Grew.trans hGw hbW); (try (have hE1 : K32At W o1 (d + 1) S := known hF (List.mem_cons_self ..) (by decide +kernel) o1 k1 rfl)); go_big_quiet_want; go_big_quiet_op; (first | go_big_quiet_on | (apply Exists.intro; refine ⟨fun _ => ?_, ?_⟩; (focus ((exact Calls.of_more (zqlj _ _ (d + 1) _ _ S _ (by omega) (hE1.later (zqn W _)) (HT.out.later (Grew.more hbW _)))))); go_big_quiet_on)); exact wpQuiet_nil rfl)); (focus (first | exact fun _ => ⟨rfl, rfl⟩ | exact fun h => absurd h (by decide))))); ((first | go_big_quiet_skip | (go_big_quiet_want; go_big_quiet_op; go_big_quiet_on)); refine wpQuiet_nil ?_)) | refine zqp rfl (fun _ => rfl) ?_))
 refine zqbs #[.agg #[.int .i64 n, .int .i64 J, .slice oS (d + 1) cS, .slice oC d cC]] (enters_of Tryz.func37 zqc rfl) rfl e2 rfl rfl rfl rfl (zqdm (zqbf _ _ _) (zqbf _ _ _) rfl rfl (zqbk (zqbf _ _ _))) (by first | kernel_rfl | simp [go_sem]) ?_ ?_
 ·intro W hC hF
  obtain ⟨mm, rfl⟩ := hC;refine (tC _ (Grew.more hGw mm)).mono ?_
  rintro e w9 ⟨oa, cc, rfl, hK, hb9⟩;exact ⟨_, rfl, ⟨oa, cc, rfl⟩, fun oa2 c2 e2 => by cases e2; exact hK, hb9⟩
 ((first | go_big_quiet_skip | (go_big_quiet_want; go_big_quiet_op; go_big_quiet_on)); refine wpQuiet_nil ?_)
 (repeat (first | (refine zqab rfl ?_; ((first | go_big_quiet_skip | (go_big_quiet_want; go_big_quiet_op; go_big_quiet_on)); refine wpQuiet_nil ?_)) | ((first | refine zqq rfl (fun _ => rfl) ?_ | (apply zqaz; (focus rfl); (focus rfl); (focus rfl); (focus (intro W hC hF; (have hbW : Below w2.heap.size w2 W := by obtain ⟨mm, rfl⟩ := hC; exact zqn w2 mm); (have hGW : Below w.heap.size w W := Grew.trans hGw hbW); (try (have hE2 : K32At W o2 d Z := known hF (List.mem_cons_self ..) (by decide +kernel) o2 k2 rfl)); go_big_quiet_want; go_big_quiet_op; (first | go_big_quiet_on | (apply Exists.intro; refine ⟨fun _ => ?_, ?_⟩; (focus ((exact Calls.of_more (zqlj _ _ d _ _ Z _ (by omega) (hE2.later (zqn W _)) (HR0.out.later (Grew.more hGW _)))))); go_big_quiet_on)); exact wpQuiet_nil rfl)); (focus (first | exact fun _ => ⟨rfl, rfl⟩ | exact fun h => absurd h (by decide))))); ((first | go_big_quiet_skip | (go_big_quiet_want; go_big_quiet_op; go_big_quiet_on)); refine wpQuiet_nil ?_)) | refine zqp rfl (fun _ => rfl) ?_))
 refine zqbs #[.agg #[.int .i64 n, .int .i64 J, .slice oS (d + 1) cS, .slice oC d cC]] (enters_of Tryz.func36 zqc rfl) rfl e3 rfl rfl rfl rfl (zqdm (zqbf _ _ _) (zqbf _ _ _) rfl rfl (zqdm (zqbf _ _ _) (zqbf _ _ _) rfl rfl (zqbk (zqbf _ _ _)))) (by first | kernel_rfl | simp [go_sem]) ?_ ?_
 ·intro W hC hF
  obtain ⟨mm, rfl⟩ := hC;refine (tP _ (Grew.more hGw mm)).mono ?_
  rintro e w9 ⟨oa, cc, rfl, hK, hb9⟩;exact ⟨_, rfl, ⟨oa, cc, rfl⟩, fun oa2 c2 e2 => by cases e2; exact hK, hb9⟩
 ((first | go_big_quiet_skip | (go_big_quiet_want; go_big_quiet_op; go_big_quiet_on)); refine wpQuiet_nil ?_)
 (repeat (first | (refine zqab rfl ?_; ((first | go_big_quiet_skip | (go_big_quiet_want; go_big_quiet_op; go_big_quiet_on)); refine wpQuiet_nil ?_)) | ((first | refine zqq rfl (fun _ => rfl) ?_); ((first | go_big_quiet_skip | (go_big_quiet_want; go_big_quiet_op; go_big_quiet_on)); refine wpQuiet_nil ?_)) | refine zqp rfl (fun _ => rfl) ?_))
 refine zqbs #[.agg (refC n J (k) oR d cR)] (enters_of Tryz.func64 zqc rfl) rfl e4 rfl rfl rfl rfl (zqdm (zqbf _ _ _) (zqbf _ _ _) rfl rfl (zqdm (zqbf _ _ _) (zqbf _ _ _) rfl rfl (zqdm (zqbf _ _ _) (zqbf _ _ _) rfl rfl (zqbk (zqbf _ _ _))))) (by first | kernel_rfl | simp [go_sem]) ?_ ?_
 ·intro W hC hF
  obtain ⟨mm, rfl⟩ := hC;refine (tRP _ (Grew.more hGw mm)).mono ?_
  rintro e w9 ⟨oa, cc, rfl, hK, hb9⟩;exact ⟨_, rfl, ⟨oa, cc, rfl⟩, fun oa2 c2 e2 => by cases e2; exact hK, hb9⟩
 ((first | go_big_quiet_skip | (go_big_quiet_want; go_big_quiet_op; go_big_quiet_on)); refine wpQuiet_nil ?_)
 (repeat (first | (refine zqab rfl ?_; ((first | go_big_quiet_skip | (go_big_quiet_want; go_big_quiet_op; go_big_quiet_on)); refine wpQuiet_nil ?_)) | ((first | refine zqq rfl (fun _ => rfl) ?_ | (apply zqaz; (focus rfl); (focus rfl); (focus rfl); (focus (intro W hC hF; (have hbW : Below w2.heap.size w2 W := by obtain ⟨mm, rfl⟩ := hC; exact zqn w2 mm); (have hGW : Below w.heap.size w W := Grew.trans hGw hbW); (try (have hE3 : K32At W o3 d Q := known hF (List.mem_cons_of_mem _ (List.mem_cons_self ..)) (by decide +kernel) o3 k3 rfl)); (try (have hE4 : K32At W o4 d Q := known hF (List.mem_cons_self ..) (by decide +kernel) o4 k4 rfl)); go_big_quiet_want; go_big_quiet_op; (first | go_big_quiet_on | (apply Exists.intro; refine ⟨fun _ => ?_, ?_⟩; (focus ((exact Calls.of_more (zqlj _ _ d _ _ Q _ (by omega) (hE3.later (zqn W _)) (hE4.later (zqn W _)))))); go_big_quiet_on)); exact wpQuiet_nil rfl)); (focus (first | exact fun _ => ⟨rfl, rfl⟩ | exact fun h => absurd h (by decide))))); ((first | go_big_quiet_skip | (go_big_quiet_want; go_big_quiet_op; go_big_quiet_on)); refine wpQuiet_nil ?_)) | refine zqp rfl (fun _ => rfl) ?_))
 (refine zqbz ?_; rintro _ ⟨mq, rfl⟩ hF; simp only [List.forall_mem_cons] at hF; obtain ⟨-, -⟩ := hF)
 go_wp2;go_ret;exact ⟨rfl, Grew.more hG mq⟩
theorem zqpg (w : World) :
  Calls Tryz.prog 30 #[.agg #[.int .i64 0, .int .i64 0, .slice none 0 0, .slice none 0 0]] w (Rt w (.bool true)) := by
 have hsm := zqet 32 zqg;have c1 := fun W : World => zqo9 0 0 1 none none none 0 0 0 0 0 0 0 [] W (fun W => by
  have := (zqfv 0 0 W (by decide) (by decide))
  rw [zqhk (by decide)] at this;exact this.mono fun e w' h => by
   obtain ⟨oa, c, e1, h2⟩ := h;exact ⟨oa, c, e1, h2⟩) (fun oN cN W h1 h2 => zqrl [] oN cN 1 _ W (by decide) h1 (fun v hv => by cases hv) (by decide) (by decide) h2)
 have c2 := fun (k : Nat -> Int) (W : World) => zqsm k 0 0 none none 0 0 0 0 W (fun W _ => zqs4 k none 0 0 0 0 W (by omega) (by decide) (by decide));have hG := Grew.refl w;have fp : True := trivial
 go_enter Tryz.func30, Tryz.ntmps30
 go_wp2_with fail;generalize hW : w.alloc (.cells #[.int .i64 0, .int .i64 0, .slice none 0 0, .slice none 0 0] 59) = w1;replace fp : zqd w1 (w.heap.size) = some (.cells #[.int .i64 0, .int .i64 0, .slice none 0 0, .slice none 0 0] 59) := zqk hW;replace hG : Below w.heap.size w w1 := zq2 hW;clear hW;have lfp := zqa fp;go_wp2_with fail;refine (c1 _).mono ?_
 rintro e w2 ⟨rfl, hb⟩;replace fp := zqb hb fp;replace lfp := zqa fp;replace hG := Grew.trans hG hb;clear hb;go_wp2_with fail;have hb : Below w2.heap.size w2 (w2.alloc (.cells #[.int .i64 0, .int .i64 0, .slice none 0 0, .slice none 0 0] 59)) := Grew.alloc (Grew.refl _) _;have ft : zqd (w2.alloc (.cells #[.int .i64 0, .int .i64 0, .slice none 0 0, .slice none 0 0] 59)) w2.heap.size = some (.cells #[.int .i64 0, .int .i64 0, .slice none 0 0, .slice none 0 0] 59) := zqj _ _ _ rfl;replace fp := zqb hb fp;replace lfp := zqa fp;replace hG := Grew.trans hG hb;clear hb;generalize w2.alloc (.cells #[.int .i64 0, .int .i64 0, .slice none 0 0, .slice none 0 0] 59) = w3 at *;generalize w2.heap.size = gt at *;have lft := zqa ft;go_wp2_with fail;refine (c2 _ _).mono ?_
 rintro e w4 ⟨rfl, hb⟩;replace fp := zqb hb fp;replace ft := zqb hb ft;replace lfp := zqa fp;replace lft := zqa ft;replace hG := Grew.trans hG hb;clear hb;go_wp2_with fail;have hb : Below w4.heap.size w4 (w4.alloc (.cells #[.int .i64 0, .int .i64 0, .slice none 0 0, .slice none 0 0] 59)) := Grew.alloc (Grew.refl _) _;have fu : zqd (w4.alloc (.cells #[.int .i64 0, .int .i64 0, .slice none 0 0, .slice none 0 0] 59)) w4.heap.size = some (.cells #[.int .i64 0, .int .i64 0, .slice none 0 0, .slice none 0 0] 59) := zqj _ _ _ rfl;replace fp := zqb hb fp;replace ft := zqb hb ft;replace lfp := zqa fp;replace lft := zqa ft;replace hG := Grew.trans hG hb;clear hb;generalize w4.alloc (.cells #[.int .i64 0, .int .i64 0, .slice none 0 0, .slice none 0 0] 59) = w5 at *;generalize w4.heap.size = gu at *;have lfu := zqa fu
 go_wp2_with fail
 ((first | (with_reducible refine zq5 zqc zqc ?_) | refine zqt zqc zqc ?_); (repeat (first | go_big_quiet_skip | (go_big_quiet_want; go_big_quiet_op; first | go_big_quiet_on | (apply Exists.intro; refine ⟨fun _ => ?_, ?_⟩; (focus (first | (with_reducible exact Calls.of_more (zqt5 _ _ _ _ _ _ _ _ _)) | (with_reducible exact Calls.of_more (zqls _ _ _ _ _ _ _ _ _)) | (with_reducible exact Calls.of_more (zql7 _)) | (with_reducible exact Calls.of_more (zqnl _)) | (with_reducible exact Calls.of_more (zqmb _)) | (with_reducible exact Calls.of_more (zqq8 _)))); go_big_quiet_on)))); refine wpQuiet_nil ?_; rintro _ ⟨mq, rfl⟩)
 have hGx : Below w.heap.size w (more w5 mq) := Grew.more hG mq;generalize more w5 mq = wx at *;go_wp2;go_ret;exact ⟨rfl, hGx⟩
end Go.Proofs.YtconieddcjpbjaaGreatDoor
namespace Go.Proofs.YtconieddcjpbjaaGreatDoor
open Go.RowKit
def KRw (d : Nat) (Z : Nat -> Nat -> Int) (u : Value) (w : World) : Prop := ∀ oa c, u = .slice oa d c -> d = 0 \/ ∃ g, oa = some ⟨g, 0, none⟩ /\ Row32 23 w g d Z
theorem KRw.k32 {d : Nat} {Z : Nat -> Nat -> Int} {oa : Option Addr} {c : Nat} {w : World} (h : KRw d Z (.slice oa d c) w) : K32At w oa d Z := by
 rcases h oa c rfl with h | ⟨g, rfl, hR⟩
 ·exact .inl h
 ·exact Row32.k32 hR
theorem KRw.later {d : Nat} {Z : Nat -> Nat -> Int} {u : Value} {w w' : World} (h : KRw d Z u w) (e : Below w.heap.size w w') : KRw d Z u w' := fun oa c hu => by
 rcases h oa c hu with h | ⟨g, e1, h⟩
 ·exact .inl h
 ·exact .inr ⟨g, e1, h.later e⟩
theorem zqs9 {T : TypeId} {W : World} {b g m : Nat} {F : Nat -> Nat -> Int} {cs : Array Value} {fr : Nat × Nat} (hT : T = 23) (hb : zqd W b = some (.cells cs 63 fr)) (h : Row32 T W g m F) : ¬ (g = b) := fun e => by
 subst hT;obtain ⟨cur, h2, _⟩ := h;rw [e, hb] at h2
 cases h2
theorem zqd9 (d : Nat) (Z : Nat -> Nat -> Int) (u : Value) : Stab (KRw d Z u) none := fun w w' h e oa c hu => by
 rcases h oa c hu with h | ⟨g, e1, h⟩
 ·exact .inl h
 ·exact .inr ⟨g, e1, h.later e⟩
theorem zqis (d : Nat) (Z : Nat -> Nat -> Int) (u : Value) (g' : Nat) : Stab (KRw d Z u) (some (g', 63)) := fun w w' h ⟨old, cs', t', h1, ⟨_, h2⟩, e⟩ oa c hu => by
 subst e;subst h2
 rcases h oa c hu with h | ⟨g, e1, h⟩
 ·exact .inl h
 ·exact .inr ⟨g, e1, h.by (zqam _ _ _ _ (zqs9 rfl h1 h))⟩
def RfS (n J : Int) (k : Nat -> Int) (d : Nat) (u : Value) : Prop := ∃ g c, u = .tuple #[.agg (refC n J k (some ⟨g, 0, none⟩) d c), .bool true]
def RfAt (n J : Int) (k : Nat -> Int) (d : Nat) (Z : Nat -> Nat -> Int) (u : Value) (w : World) : Prop := ∀ g c, u = .tuple #[.agg (refC n J k (some ⟨g, 0, none⟩) d c), .bool true] -> Row32 23 w g d Z
theorem zqg9 (n J : Int) (k : Nat -> Int) (d : Nat) (Z : Nat -> Nat -> Int) (u : Value) : Stab (RfAt n J k d Z u) none := fun w w' h e g c hu => (h g c hu).later e
theorem zqk7 (n J : Int) (k : Nat -> Int) (d : Nat) (Z : Nat -> Nat -> Int) (u : Value) (g' : Nat) : Stab (RfAt n J k d Z u) (some (g', 63)) := fun w w' h ⟨old, cs', t', h1, ⟨_, h2⟩, e⟩ g c hu => by
 subst e;subst h2;exact (h g c hu).by (zqam _ _ _ _ (zqs9 rfl h1 (h g c hu)))
theorem zq0h {n l n' l' : Int} {k k' : Nat -> Int} {o o' : Option Addr} {d c d' c' : Nat} (h : refC n l k o d c = refC n' l' k' o' d' c') : o = o' := by
 have := congrArg (fun a : Array Value => a[34]?) h
 simp only [zq18] at this
 cases this
 rfl
theorem zrem {n J : Int} {k : Nat -> Int} {d g c : Nat} {Z : Nat -> Nat -> Int} {w : World} (h : Row32 23 w g d Z) : RfAt n J k d Z (.tuple #[.agg (refC n J k (some ⟨g, 0, none⟩) d c), .bool true]) w := fun g' c' e => by
 have e1 : refC n J k (some ⟨g, 0, none⟩) d c = refC n J k (some ⟨g', 0, none⟩) d c' := by simpa using e
 cases zq0h e1
 exact h
theorem zqgj (w : World) : (zeroValue 63).run Tryz.prog w = .ok (.agg (refC 0 0 zqg none 0 0)) w := by kernel_rfl
theorem zqd8 {P : Prop} (h : P := by first | exact zqu | ((repeat (refine zqht ⟨by (first | exact zqdd _ _ _ _ | exact zqis _ _ _ _ | exact zqd9 _ _ _ | exact zqk7 _ _ _ _ _ _ _ | exact zqg9 _ _ _ _ _ _ | exact zqe3 _ _ _ | exact zqdh _ _ _), by (first | exact zqdd _ _ _ _ | exact zqis _ _ _ _ | exact zqd9 _ _ _ | exact zqk7 _ _ _ _ _ _ _ | exact zqg9 _ _ _ _ _ _ | exact zqe3 _ _ _ | exact zqdh _ _ _)⟩ ?_)); exact zqbk (by (first | exact zqdd _ _ _ _ | exact zqis _ _ _ _ | exact zqd9 _ _ _ | exact zqk7 _ _ _ _ _ _ _ | exact zqg9 _ _ _ _ _ _ | exact zqe3 _ _ _ | exact zqdh _ _ _)))) : P := h
theorem zrav (oa : Option Addr) (n c : Nat) (F : Nat -> Nat -> Int) (w : World) (hn : n <= 1000) (hK : K32At w oa n F) :
  Calls Tryz.prog 13 #[.slice oa n c] w fun e w' => ∃ u, e = .returned u /\ KSl n u /\ KRw n F u w' /\ Below w.heap.size w w' := by
 by_cases h0 : n = 0
 ·exact (zqzl oa n c F w hn hK).mono fun e w' ⟨o, k, e1, _, hb⟩ => ⟨_, e1, ⟨o, k, rfl⟩, fun _ _ _ => .inl h0, hb⟩
 ·exact (zqzz oa n c F w hn (by omega) hK).mono fun e w' ⟨g, k, e1, _, h, hb⟩ => ⟨_, e1, ⟨_, k, rfl⟩, fun oa' c' e => by cases e; exact .inr ⟨g, rfl, h⟩, hb⟩
attribute [local irreducible] zqc4 zqb1 oneF macF shaF strOf keyV shV pubV upF upOK pubF
theorem zqzb (rS : zqdv) (rB : zqt8) (n J d : Nat) (k : Nat -> Int) (Z : Nat -> Nat -> Int) (oS oC oR : Option Addr) (kS kC kR : Nat) (w : World) (h0 : 0 < d) (hd : d <= 10) (hk : Bytes 32 k) (hZ : ∀ i, i < d -> Bytes 32 (Z i)) (hok : zqao k Z d = true) (hS : K32At w oS (d + 1) (zqa1 k Z)) (hC : K32At w oC d Z) (hR : K32At w oR d Z) :
  Calls Tryz.prog 31 #[.agg #[.int .i64 (n : Int), .int .i64 (J : Int), .slice oS (d + 1) kS, .slice oC d kC], .agg (refC (n : Int) (J : Int) (k) oR d kR)] w (Rt w (.bool true)) :=
 zqum n J oS oC oR d kS kC kR k (zqa1 k Z d) (zqa1 k Z) Z (fun i => pubF (zqa1 k Z i)) w hd hR
  (fun W => zqt5 _ _ _ _ _ _ _ _ W) (fun W => zqls _ _ _ _ _ _ _ _ W)
  (fun W hb => zqsf _ _ _ _ d kS d kC (zqa1 k Z) W (by omega) (hS.later hb))
  (fun W hb => zqvo rS k Z n J oR d kR W hk (by omega) hZ (hR.later hb) hok)
  (fun W hb => zqn1 _ _ _ _ (d + 1) kS d kC (zqa1 k Z) W (by omega) (by omega) (hS.later hb))
  (fun W hb => zqiq _ _ _ _ (d + 1) kS d kC Z W h0 (by omega) (hC.later hb))
  (fun W hb => zqmq _ _ _ _ d kS kC (zqa1 k Z) W (by omega) (fun i _ => zqff k Z hk i) (hS.later hb))
  (fun W hb => zqor rS rB k Z n J oR d kR W hk (by omega) hZ (hR.later hb) hok)
  (fun W hb => zqim rS k Z n J oR d kR W hk (by omega) hZ (hR.later hb) hok)
end Go.Proofs.YtconieddcjpbjaaGreatDoor
namespace Go.Proofs.YtconieddcjpbjaaGreatDoor
open Go.RowKit
attribute [local irreducible] zqc4 zqb1 oneF macF shaF strOf keyV shV pubV upF upOK pubF
theorem zqpf (n l m : Int) (d cZ dp cP : Nat) (oZ oP : Option Addr) (ka ko : Nat -> Int) (Z : Nat -> Nat -> Int) (w : World) (hT : Tabs w) (hd : d <= 6) (hp : dp <= 6)
  (aw : ∀ W : World, Tabs W -> Calls Tryz.prog 27 #[] W (Rt W (.bool true)))
  (cMk : ∀ W : World, Below w.heap.size w W -> Tabs W -> Calls Tryz.prog 28 #[.int .i64 n, .int .i64 l, .agg (ints .u8 32 ka), .slice oZ d cZ] W (Rt W (.tuple #[.agg #[.int .i64 0, .int .i64 0, .slice none 0 0, .slice none 0 0], .bool false])))
  (cKz : ∀ W : World, Below w.heap.size w W -> Calls Tryz.prog 13 #[.slice oZ d cZ] W fun e w' => ∃ u, e = .returned u /\ KSl d u /\ KRw d Z u w' /\ Below W.heap.size W w')
  (cRM : ∀ (o : Option Addr) (c : Nat) (W : World), K32At W o d Z -> Calls Tryz.prog 29 #[.int .i64 n, .int .i64 l, .agg (ints .u8 32 ka), .slice o d c] W (Rt W (.tuple #[.agg (refC 0 0 (zqg) none 0 0), .bool false])))
  (cNo : ∀ W : World, Calls Tryz.prog 30 #[.agg #[.int .i64 0, .int .i64 0, .slice none 0 0, .slice none 0 0]] W (Rt W (.bool true))) :
  Calls Tryz.prog 6 #[.int .i64 n, .int .i64 l, .agg (ints .u8 32 ka), .agg (ints .u8 32 ko), .slice oZ d cZ, .int .i64 m, .slice oP dp cP] w (Rt w (.bool true)) := by
 have hTT : Hid (Tabs w) := hT;clear hT;have hd6 : ¬ ((6 : Int) < (d : Int)) := by omega
 have hp6 : ¬ ((6 : Int) < (dp : Int)) := by omega
 have hG := Grew.refl w;have fa : True := trivial;have fb : True := trivial
 go_enter Tryz.func6, Tryz.ntmps6
 go_wp2_with fail;generalize hW : (w.alloc (.cells (ints .u8 32 (ka)) 24)).alloc (.cells (ints .u8 32 (ko)) 24) = w1;replace fa : zqd w1 (w.heap.size) = some (.cells (ints .u8 32 (ka)) 24) := zqk hW;replace fb : zqd w1 (w.heap.size + 1) = some (.cells (ints .u8 32 (ko)) 24) := zqk hW;replace hG : Below w.heap.size w w1 := zq2 hW;clear hW;have lfa := zqa fa;have lfb := zqa fb;go_wp2_with fail;refine (aw _ (hTT.out.later hG)).mono ?_
 rintro e w2 ⟨rfl, hb⟩;replace fa := zqb hb fa;replace fb := zqb hb fb;replace lfa := zqa fa;replace lfb := zqa fb;replace hG := Grew.trans hG hb;clear hb;go_wp2_with fail;refine (cMk _ hG (hTT.out.later hG)).mono ?_
 rintro e w3 ⟨rfl, hb⟩;replace fa := zqb hb fa;replace fb := zqb hb fb;replace lfa := zqa fa;replace lfb := zqa fb;replace hG := Grew.trans hG hb;clear hb;go_wp2_with fail;have hb : Below w3.heap.size w3 (w3.alloc (.cells #[.int .i64 0, .int .i64 0, .slice none 0 0, .slice none 0 0] 59)) := Grew.alloc (Grew.refl _) _;have fp : zqd (w3.alloc (.cells #[.int .i64 0, .int .i64 0, .slice none 0 0, .slice none 0 0] 59)) w3.heap.size = some (.cells #[.int .i64 0, .int .i64 0, .slice none 0 0, .slice none 0 0] 59) := zqj _ _ _ rfl;replace fa := zqb hb fa;replace fb := zqb hb fb;replace lfa := zqa fa;replace lfb := zqa fb;replace hG := Grew.trans hG hb;clear hb;generalize w3.alloc (.cells #[.int .i64 0, .int .i64 0, .slice none 0 0, .slice none 0 0] 59) = w4 at *;generalize w3.heap.size = gp at *;have lfp := zqa fp
 go_wp2_with fail;refine zqga (fun k => k == 4) (fun k => match k with | 4 => fun u => KSl d u | _ => fun _ => True) (fun k => match k with | 4 => fun u w => KRw d Z u w | _ => fun _ _ => True) (fun k => match k with | 4 => .slice none d 0 | _ => undef) (fun i hi => ?_) zqc zqc ?_
 ·simp only [Bool.or_eq_true, beq_iff_eq] at hi
  subst hi;exact ⟨none, 0, rfl⟩
 iterate 4 (first | refine zq0 rfl ?_ | (refine zqr rfl ?_; apply Exists.intro))
 refine zqr rfl ⟨undef, ?_⟩
 iterate 7 (first | refine zq0 rfl ?_ | (refine zqr rfl ?_; apply Exists.intro))
 refine zqbl ?_
 intro γ gv hsv hinj hbase;obtain ⟨o1, k1, e1⟩ := hsv 4 rfl
 (repeat (first | (refine zqab rfl ?_; ((first | go_big_quiet_skip | (go_big_quiet_want; go_big_quiet_op; go_big_quiet_on)); refine wpQuiet_nil ?_)) | ((first | refine zqq rfl (fun _ => rfl) ?_ | ((try simp only [Nat.zero_add, Nat.reduceAdd]); apply zqav _ _ zqo; (focus rfl); (focus (intro W; (first | exact zqa8 _ | exact zqas _ | exact zqa6 _ | exact zqaw _ | exact zqah _ | exact zqag _ | exact zqgj _))); (focus (first | exact zqai _ _ _ | exact zqbq _ _ _ _ _ _ | exact zqaq _ _ | rfl)); (focus (exact zqd8))) | (apply zqaz; (focus rfl); (focus rfl); (focus rfl); (focus (intro W hC hF; (have hbW : Below w4.heap.size w4 W := by obtain ⟨mm, rfl⟩ := hC; exact zqn w4 mm); (try (have hE0 : KRw d Z (.slice o1 d k1) W := known hF (List.mem_cons_self ..) (by decide +kernel))); go_big_quiet_want; go_big_quiet_op; (first | go_big_quiet_on | (apply Exists.intro; refine ⟨fun _ => ?_, ?_⟩; (focus ((exact Calls.of_more (cRM _ _ _ (hE0.k32.later (zqn W _)))))); go_big_quiet_on)); exact wpQuiet_nil rfl)); (focus (first | exact fun _ => ⟨rfl, rfl⟩ | exact fun h => absurd h (by decide))))); ((first | go_big_quiet_skip | (go_big_quiet_want; go_big_quiet_op; go_big_quiet_on)); refine wpQuiet_nil ?_)) | refine zqp rfl (fun _ => rfl) ?_ | ((try simp only [Nat.zero_add, Nat.reduceAdd]); apply zqar (zqaj (hbase _)); (focus rfl); (focus rfl); (focus rfl); (focus (first | exact zqy _ | exact zq3 _ _ | exact zqv _ | rfl)); rotate_left 3; (focus (exact zqcq)); rotate_right 3; (focus kernel_rfl); (focus (first | exact zqh _ _ _ | exact zqbq _ _ _ _ _ _ | rfl)); (focus (first | exact zqan _ _ _ | exact zqf3 _ _ _ _ _ _ | exact zqa3 _ _ _ _ | kernel_rfl)); (focus (decide +kernel)); (focus (exact zqd8))) | (refine zqbs #[.slice oZ d cZ] (enters_of Tryz.func13 zqc rfl) rfl e1 rfl rfl rfl rfl (zqbk (zqd9 _ _ _)) (by first | kernel_rfl | simp [go_sem]) ?_ ?_; (focus (intro W hC hF; obtain ⟨mm, rfl⟩ := hC; refine (cKz _ (Grew.more hG mm)).mono ?_; rintro e w9 ⟨u, rfl, h1, h2, hb9⟩; exact ⟨_, rfl, h1, h2, hb9⟩)); ((first | go_big_quiet_skip | (go_big_quiet_want; go_big_quiet_op; go_big_quiet_on)); refine wpQuiet_nil ?_))))
 (refine zqbz ?_; rintro _ ⟨mq, rfl⟩ hF; simp only [List.forall_mem_cons] at hF; obtain ⟨fq, -, f1, -⟩ := hF)
 have hb : Below w4.heap.size w4 (more w4 mq) := zqn _ mq;replace fa := zqb hb fa;replace fb := zqb hb fb;replace fp := zqb hb fp;replace lfa := zqa fa;replace lfb := zqa fb;replace lfp := zqa fp;replace hG := Grew.trans hG hb;have _hK := f1;replace fq : zqd (more w4 mq) (γ 9) = some (.cells (refC 0 0 (zqg) none 0 0) 63) := fq;clear f1 _hK hinj hbase hsv e1 hb;generalize γ 9 = gq at *;generalize more w4 mq = w105 at *;clear γ gv;have lfq := zqa fq;go_wp2_with fail;refine (cNo _).mono ?_
 rintro e w6 ⟨rfl, hb⟩;replace fa := zqb hb fa;replace fb := zqb hb fb;replace fp := zqb hb fp;replace fq := zqb hb fq;replace lfa := zqa fa;replace lfb := zqa fb;replace lfp := zqa fp;replace lfq := zqa fq;replace hG := Grew.trans hG hb;clear hb;go_wp2;go_ret;exact ⟨rfl, hG⟩
theorem zqu8 (n J : Nat) (m : Int) (d cZ dp cP : Nat) (oZ oP : Option Addr) (ka ko : Nat -> Int) (Z P S S2 S3 Z3 : Nat -> Nat -> Int) (w : World) (hT : Tabs w) (hd0 : 0 < d) (hd : d <= 6) (hp : dp <= 6)
  (aw : ∀ W : World, Tabs W -> Calls Tryz.prog 27 #[] W (Rt W (.bool true)))
  (cMk : ∀ W : World, Below w.heap.size w W -> Tabs W -> Calls Tryz.prog 28 #[.int .i64 (n : Int), .int .i64 (J : Int), .agg (ints .u8 32 ka), .slice oZ d cZ] W fun e w' => ∃ oS kS gC kC, e = .returned (.tuple #[.agg #[.int .i64 (n : Int), .int .i64 (J : Int), .slice oS (d + 1) kS, .slice (some ⟨gC, 0, none⟩) d kC], .bool true]) /\ K32At w' oS (d + 1) S /\ Row32 24 w' gC d Z /\ Below W.heap.size W w')
  (cKz : ∀ W : World, Below w.heap.size w W -> Calls Tryz.prog 13 #[.slice oZ d cZ] W fun e w' => ∃ u, e = .returned u /\ KSl d u /\ KRw d Z u w' /\ Below W.heap.size W w')
  (cRM : ∀ (o : Option Addr) (c : Nat) (W : World), K32At W o d Z -> Calls Tryz.prog 29 #[.int .i64 (n : Int), .int .i64 (J : Int), .agg (ints .u8 32 ka), .slice o d c] W (Rt W (.tuple #[.agg (refC (n : Int) (J : Int) (ka) o d c), .bool true])))
  (cTd : ∀ (oS oC oR : Option Addr) (kS kC kR : Nat) (W : World), K32At W oS (d + 1) S -> K32At W oC d Z -> K32At W oR d Z -> Calls Tryz.prog 31 #[.agg #[.int .i64 (n : Int), .int .i64 (J : Int), .slice oS (d + 1) kS, .slice oC d kC], .agg (refC (n : Int) (J : Int) (ka) oR d kR)] W (Rt W (.bool true)))
  (hRn : Hid (((∀ (oS oC : Option Addr) (kS kC : Nat) (W : World), K32At W oC d Z -> Tabs W -> Calls Tryz.prog 32 #[.agg #[.int .i64 (n : Int), .int .i64 (J : Int), .slice oS (d + 1) kS, .slice oC d kC], .agg (ints .u8 32 ko)] W fun e w' => ∃ oS kS gC kC, e = .returned (.tuple #[.agg #[.int .i64 (n : Int), .int .i64 (J : Int), .slice oS (d + 1) kS, .slice (some ⟨gC, 0, none⟩) d kC], .bool true]) /\ K32At w' oS (d + 1) S2 /\ Row32 24 w' gC d Z /\ Below W.heap.size W w') /\ (∀ (o : Option Addr) (c : Nat) (W : World), K32At W o d Z -> Calls Tryz.prog 29 #[.int .i64 (n : Int), .int .i64 (J : Int), .agg (ints .u8 32 ko), .slice o d c] W (Rt W (.tuple #[.agg (refC (n : Int) (J : Int) (ko) o d c), .bool true]))) /\ (∀ (oS oC oR : Option Addr) (kS kC kR : Nat) (W : World), K32At W oS (d + 1) S2 -> K32At W oC d Z -> K32At W oR d Z -> Calls Tryz.prog 31 #[.agg #[.int .i64 (n : Int), .int .i64 (J : Int), .slice oS (d + 1) kS, .slice oC d kC], .agg (refC (n : Int) (J : Int) (ko) oR d kR)] W (Rt W (.bool true)))) \/ ((∀ (oS oC : Option Addr) (kS kC : Nat) (W : World), K32At W oC d Z -> Tabs W -> Calls Tryz.prog 32 #[.agg #[.int .i64 (n : Int), .int .i64 (J : Int), .slice oS (d + 1) kS, .slice oC d kC], .agg (ints .u8 32 ko)] W (Rt W (.tuple #[.agg #[.int .i64 0, .int .i64 0, .slice none 0 0, .slice none 0 0], .bool false]))) /\ (∀ (o : Option Addr) (c : Nat) (W : World), K32At W o d Z -> Calls Tryz.prog 29 #[.int .i64 (n : Int), .int .i64 (J : Int), .agg (ints .u8 32 ko), .slice o d c] W (Rt W (.tuple #[.agg (refC 0 0 (zqg) none 0 0), .bool false]))))))
  (hTk : Hid (((∀ (oS oC : Option Addr) (kS kC : Nat) (W : World), K32At W oS (d + 1) S -> K32At W oC d Z -> Below w.heap.size w W -> Tabs W -> Calls Tryz.prog 33 #[.agg #[.int .i64 (n : Int), .int .i64 (J : Int), .slice oS (d + 1) kS, .slice oC d kC], .int .i64 m, .slice oP dp cP] W fun e w' => ∃ oS kS gC kC, e = .returned (.tuple #[.agg #[.int .i64 (n : Int), .int .i64 (J : Int), .slice oS (d + 1) kS, .slice (some ⟨gC, 0, none⟩) d kC], .bool true]) /\ K32At w' oS (d + 1) S3 /\ Row32 24 w' gC d Z3 /\ Below W.heap.size W w') /\ (∀ (oR o : Option Addr) (kR c : Nat) (W : World), K32At W oR d Z -> K32At W o dp P -> Calls Tryz.prog 34 #[.agg (refC (n : Int) (J : Int) (ka) oR d kR), .int .i64 m, .slice o dp c] W fun e w' => ∃ gR cR, e = .returned (.tuple #[.agg (refC (n : Int) (J : Int) (ka) (some ⟨gR, 0, none⟩) d cR), .bool true]) /\ Row32 23 w' gR d Z3 /\ Below W.heap.size W w') /\ (∀ (oS oC oR : Option Addr) (kS kC kR : Nat) (W : World), K32At W oS (d + 1) S3 -> K32At W oC d Z3 -> K32At W oR d Z3 -> Calls Tryz.prog 31 #[.agg #[.int .i64 (n : Int), .int .i64 (J : Int), .slice oS (d + 1) kS, .slice oC d kC], .agg (refC (n : Int) (J : Int) (ka) oR d kR)] W (Rt W (.bool true)))) \/ ((∀ (oS oC : Option Addr) (kS kC : Nat) (W : World), K32At W oS (d + 1) S -> K32At W oC d Z -> Below w.heap.size w W -> Tabs W -> Calls Tryz.prog 33 #[.agg #[.int .i64 (n : Int), .int .i64 (J : Int), .slice oS (d + 1) kS, .slice oC d kC], .int .i64 m, .slice oP dp cP] W (Rt W (.tuple #[.agg #[.int .i64 0, .int .i64 0, .slice none 0 0, .slice none 0 0], .bool false]))) /\ (∀ (oR o : Option Addr) (kR c : Nat) (W : World), K32At W oR d Z -> K32At W o dp P -> Calls Tryz.prog 34 #[.agg (refC (n : Int) (J : Int) (ka) oR d kR), .int .i64 m, .slice o dp c] W (Rt W (.tuple #[.agg (refC 0 0 (zqg) none 0 0), .bool false]))))))
  (cKp : ∀ W : World, Below w.heap.size w W -> Calls Tryz.prog 13 #[.slice oP dp cP] W fun e w' => ∃ u, e = .returned u /\ KSl dp u /\ KRw dp P u w' /\ Below W.heap.size W w')
  (cNo : ∀ W : World, Calls Tryz.prog 30 #[.agg #[.int .i64 0, .int .i64 0, .slice none 0 0, .slice none 0 0]] W (Rt W (.bool true))) :
  Calls Tryz.prog 6 #[.int .i64 (n : Int), .int .i64 (J : Int), .agg (ints .u8 32 ka), .agg (ints .u8 32 ko), .slice oZ d cZ, .int .i64 m, .slice oP dp cP] w (Rt w (.bool true)) := by
 have hTT : Hid (Tabs w) := hT;clear hT;have hd6 : ¬ ((6 : Int) < (d : Int)) := by omega
 have hp6 : ¬ ((6 : Int) < (dp : Int)) := by omega
 have hG := Grew.refl w;have fa : True := trivial;have fb : True := trivial
 go_enter Tryz.func6, Tryz.ntmps6
 go_wp2_with fail;generalize hW : (w.alloc (.cells (ints .u8 32 (ka)) 24)).alloc (.cells (ints .u8 32 (ko)) 24) = w1;replace fa : zqd w1 (w.heap.size) = some (.cells (ints .u8 32 (ka)) 24) := zqk hW;replace fb : zqd w1 (w.heap.size + 1) = some (.cells (ints .u8 32 (ko)) 24) := zqk hW;replace hG : Below w.heap.size w w1 := zq2 hW;clear hW;have lfa := zqa fa;have lfb := zqa fb;go_wp2_with fail;refine (aw _ (hTT.out.later hG)).mono ?_
 rintro e w2 ⟨rfl, hb⟩;replace fa := zqb hb fa;replace fb := zqb hb fb;replace lfa := zqa fa;replace lfb := zqa fb;replace hG := Grew.trans hG hb;clear hb;go_wp2_with fail;refine (cMk _ hG (hTT.out.later hG)).mono ?_
 rintro e w3 ⟨oS, kS, gC, kC, rfl, hS, hC, hb⟩;replace fa := zqb hb fa;replace fb := zqb hb fb;replace lfa := zqa fa;replace lfb := zqa fb;replace hG := Grew.trans hG hb;have HS : Hid (K32At w3 oS (d + 1) S) := hS;have HC : Hid (Row32 24 w3 gC d Z) := hC;clear hb hS hC cMk aw;go_wp2_with fail;have hb : Below w3.heap.size w3 (w3.alloc (.cells #[.int .i64 (n : Int), .int .i64 (J : Int), .slice oS (d + 1) kS, .slice (some ⟨gC, 0, none⟩) d kC] 59)) := Grew.alloc (Grew.refl _) _;have fp : zqd (w3.alloc (.cells #[.int .i64 (n : Int), .int .i64 (J : Int), .slice oS (d + 1) kS, .slice (some ⟨gC, 0, none⟩) d kC] 59)) w3.heap.size = some (.cells #[.int .i64 (n : Int), .int .i64 (J : Int), .slice oS (d + 1) kS, .slice (some ⟨gC, 0, none⟩) d kC] 59) := zqj _ _ _ rfl;replace fa := zqb hb fa;replace fb := zqb hb fb
 replace HS := hid1 (HS.out.later hb);replace HC := hid1 (HC.out.later hb);replace lfa := zqa fa;replace lfb := zqa fb;replace hG := Grew.trans hG hb;clear hb;generalize w3.alloc (.cells #[.int .i64 (n : Int), .int .i64 (J : Int), .slice oS (d + 1) kS, .slice (some ⟨gC, 0, none⟩) d kC] 59) = w4 at *;generalize w3.heap.size = gp at *;have lfp := zqa fp;go_wp2_with fail;refine zqga (fun k => k == 4 || k == 5) (fun k => match k with | 4 => fun u => KSl d u | 5 => fun u => RfS n J ka d u | _ => fun _ => True) (fun k => match k with | 4 => fun u w => KRw d Z u w | 5 => fun u w => RfAt n J ka d Z u w | _ => fun _ _ => True) (fun k => match k with | 4 => .slice none d 0 | 5 => .tuple #[.agg (refC (n : Int) (J : Int) (ka) (some ⟨0, 0, none⟩) d 0), .bool true] | _ => undef) (fun i hi => ?_) zqc zqc ?_
 ·simp only [Bool.or_eq_true, beq_iff_eq] at hi
  rcases hi with rfl | rfl
  ·exact ⟨none, 0, rfl⟩
  ·exact ⟨0, 0, rfl⟩
 iterate 4 (first | refine zq0 rfl ?_ | (refine zqr rfl ?_; apply Exists.intro))
 refine zqr rfl ⟨undef, ?_⟩;refine zqr rfl ⟨undef, ?_⟩
 iterate 6 (first | refine zq0 rfl ?_ | (refine zqr rfl ?_; apply Exists.intro))
 refine zqbl ?_
 intro γ gv hsv hinj hbase;obtain ⟨o1, k1, e1⟩ := hsv 4 rfl;obtain ⟨gM, cM, e2⟩ := hsv 5 rfl
 (repeat (first | (refine zqab rfl ?_; ((first | go_big_quiet_skip | (go_big_quiet_want; go_big_quiet_op; go_big_quiet_on)); refine wpQuiet_nil ?_)) | ((first | refine zqq rfl (fun _ => rfl) ?_ | ((try simp only [Nat.zero_add, Nat.reduceAdd]); apply zqav _ _ zqo; (focus rfl); (focus (intro W; (first | exact zqa8 _ | exact zqas _ | exact zqa6 _ | exact zqaw _ | exact zqah _ | exact zqag _ | exact zqgj _))); (focus (first | exact zqai _ _ _ | exact zqbq _ _ _ _ _ _ | exact zqaq _ _ | rfl)); (focus (exact zqd8)))); ((first | go_big_quiet_skip | (go_big_quiet_want; go_big_quiet_op; go_big_quiet_on)); refine wpQuiet_nil ?_)) | refine zqp rfl (fun _ => rfl) ?_ | ((try simp only [Nat.zero_add, Nat.reduceAdd]); apply zqar (zqaj (hbase _)); (focus rfl); (focus rfl); (focus rfl); (focus (first | exact zqy _ | exact zq3 _ _ | exact zqv _ | rfl)); rotate_left 3; (focus (exact zqcq)); rotate_right 3; (focus kernel_rfl); (focus (first | exact zqh _ _ _ | exact zqbq _ _ _ _ _ _ | rfl)); (focus (first | exact zqan _ _ _ | exact zqf3 _ _ _ _ _ _ | exact zqa3 _ _ _ _ | kernel_rfl)); (focus (decide +kernel)); (focus (exact zqd8))) | (refine zqbs #[.slice oZ d cZ] (enters_of Tryz.func13 zqc rfl) rfl e1 rfl rfl rfl rfl (zqbk (zqd9 _ _ _)) (by first | kernel_rfl | simp [go_sem]) ?_ ?_; (focus (intro W hC hF; obtain ⟨mm, rfl⟩ := hC; refine (cKz _ (Grew.more hG mm)).mono ?_; rintro e w9 ⟨u, rfl, h1, h2, hb9⟩; exact ⟨_, rfl, h1, h2, hb9⟩)); ((first | go_big_quiet_skip | (go_big_quiet_want; go_big_quiet_op; go_big_quiet_on)); refine wpQuiet_nil ?_)) | (refine zqbs #[.int .i64 (n : Int), .int .i64 (J : Int), .agg (ints .u8 32 ka), .slice o1 d k1] (enters_of Tryz.func29 zqc rfl) rfl e2 rfl rfl rfl rfl (zqdm (zqg9 _ _ _ _ _ _) (zqd9 _ _ _) rfl rfl (zqbk (zqg9 _ _ _ _ _ _))) (by first | kernel_rfl | simp [go_sem]) ?_ ?_; (focus (intro W hC hF; obtain ⟨mm, rfl⟩ := hC; have hE0 : KRw d Z (.slice o1 d k1) (more w4 mm) := known hF (List.mem_cons_self ..) (by decide +kernel); obtain ⟨g9, rfl, hR9⟩ := (hE0 o1 k1 rfl).resolve_left (by omega); refine (cRM _ _ _ hE0.k32).mono ?_; rintro e w9 ⟨rfl, hb9⟩; exact ⟨_, rfl, ⟨g9, k1, rfl⟩, zrem (hR9.later hb9), hb9⟩)); ((first | go_big_quiet_skip | (go_big_quiet_want; go_big_quiet_op; go_big_quiet_on)); refine wpQuiet_nil ?_))))
 (refine zqbz ?_; rintro _ ⟨mq, rfl⟩ hF; simp only [List.forall_mem_cons] at hF; obtain ⟨fq, -, f2, f1, -⟩ := hF)
 have hb : Below w4.heap.size w4 (more w4 mq) := zqn _ mq;replace fa := zqb hb fa;replace fb := zqb hb fb;replace fp := zqb hb fp;replace HS := hid1 (HS.out.later hb);replace HC := hid1 (HC.out.later hb);replace lfa := zqa fa;replace lfb := zqa fb;replace lfp := zqa fp;replace hG := Grew.trans hG hb;have _hK := f1;have HT1 : Hid (Row32 23 (more w4 mq) gM d Z) := f2 gM cM rfl;replace fq : zqd (more w4 mq) (γ 9) = some (.cells (refC (n : Int) (J : Int) (ka) (some ⟨gM, 0, none⟩) d cM) 63) := fq;clear f1 _hK hinj hbase hsv e1 hb f2 e2;generalize γ 9 = gq at *;generalize more w4 mq = w105 at *;clear γ gv;have lfq := zqa fq;clear cRM;go_wp2_with fail;refine (cTd _ _ _ _ _ _ _ HS.out HC.out.k32 HT1.out.k32).mono ?_
 rintro e w6 ⟨rfl, hb⟩;replace fa := zqb hb fa;replace fb := zqb hb fb;replace fp := zqb hb fp;replace fq := zqb hb fq;replace HS := hid1 (HS.out.later hb);replace HC := hid1 (HC.out.later hb);replace HT1 := hid1 (HT1.out.later hb);replace lfa := zqa fa;replace lfb := zqa fb;replace lfp := zqa fp;replace lfq := zqa fq;replace hG := Grew.trans hG hb;clear hb
 rcases hRn.out with ⟨cRn, cRM2, cTd2⟩ | ⟨cRn, cRM2⟩
 case' inl =>
  clear hRn;go_wp2_with fail;refine (cRn _ _ _ _ _ HC.out.k32 (hTT.out.later hG)).mono ?_
  rintro e w7 ⟨oS2, kS2, gC2, kC2, rfl, hS, hC, hb⟩;replace fa := zqb hb fa;replace fb := zqb hb fb;replace fp := zqb hb fp;replace fq := zqb hb fq;replace HS := hid1 (HS.out.later hb);replace HC := hid1 (HC.out.later hb);replace HT1 := hid1 (HT1.out.later hb);replace lfa := zqa fa;replace lfb := zqa fb;replace lfp := zqa fp;replace lfq := zqa fq;replace hG := Grew.trans hG hb;have HS2 : Hid (K32At w7 oS2 (d + 1) S2) := hS;have HC2 : Hid (Row32 24 w7 gC2 d Z) := hC;clear hb hS hC cRn;go_wp2_with fail;have hb : Below w7.heap.size w7 (w7.alloc (.cells #[.int .i64 (n : Int), .int .i64 (J : Int), .slice oS2 (d + 1) kS2, .slice (some ⟨gC2, 0, none⟩) d kC2] 59)) := Grew.alloc (Grew.refl _) _
  have fp2 : zqd (w7.alloc (.cells #[.int .i64 (n : Int), .int .i64 (J : Int), .slice oS2 (d + 1) kS2, .slice (some ⟨gC2, 0, none⟩) d kC2] 59)) w7.heap.size = some (.cells #[.int .i64 (n : Int), .int .i64 (J : Int), .slice oS2 (d + 1) kS2, .slice (some ⟨gC2, 0, none⟩) d kC2] 59) := zqj _ _ _ rfl;replace fa := zqb hb fa;replace fb := zqb hb fb;replace fp := zqb hb fp;replace fq := zqb hb fq;replace HS := hid1 (HS.out.later hb);replace HC := hid1 (HC.out.later hb);replace HT1 := hid1 (HT1.out.later hb);replace HS2 := hid1 (HS2.out.later hb);replace HC2 := hid1 (HC2.out.later hb);replace lfa := zqa fa;replace lfb := zqa fb;replace lfp := zqa fp;replace lfq := zqa fq;replace hG := Grew.trans hG hb;clear hb
  generalize w7.alloc (.cells #[.int .i64 (n : Int), .int .i64 (J : Int), .slice oS2 (d + 1) kS2, .slice (some ⟨gC2, 0, none⟩) d kC2] 59) = w8 at *;generalize w7.heap.size = gp2 at *;have lfp2 := zqa fp2;go_wp2_with fail;refine zqga (fun k => k == 4 || k == 5) (fun k => match k with | 4 => fun u => KSl d u | 5 => fun u => RfS n J ko d u | _ => fun _ => True) (fun k => match k with | 4 => fun u w => KRw d Z u w | 5 => fun u w => RfAt n J ko d Z u w | _ => fun _ _ => True) (fun k => match k with | 4 => .slice none d 0 | 5 => .tuple #[.agg (refC (n : Int) (J : Int) (ko) (some ⟨0, 0, none⟩) d 0), .bool true] | _ => undef) (fun i hi => ?_) zqc zqc ?_
  ·simp only [Bool.or_eq_true, beq_iff_eq] at hi
   rcases hi with rfl | rfl
   ·exact ⟨none, 0, rfl⟩
   ·exact ⟨0, 0, rfl⟩
  iterate 4 (first | refine zq0 rfl ?_ | (refine zqr rfl ?_; apply Exists.intro))
  refine zqr rfl ⟨undef, ?_⟩;refine zqr rfl ⟨undef, ?_⟩
  iterate 6 (first | refine zq0 rfl ?_ | (refine zqr rfl ?_; apply Exists.intro))
  refine zqbl ?_
  intro γ gv hsv hinj hbase;obtain ⟨o2, k2, e1⟩ := hsv 4 rfl;obtain ⟨gM2, cM2, e2⟩ := hsv 5 rfl
  (repeat (first | (refine zqab rfl ?_; ((first | go_big_quiet_skip | (go_big_quiet_want; go_big_quiet_op; go_big_quiet_on)); refine wpQuiet_nil ?_)) | ((first | refine zqq rfl (fun _ => rfl) ?_ | ((try simp only [Nat.zero_add, Nat.reduceAdd]); apply zqav _ _ zqo; (focus rfl); (focus (intro W; (first | exact zqa8 _ | exact zqas _ | exact zqa6 _ | exact zqaw _ | exact zqah _ | exact zqag _ | exact zqgj _))); (focus (first | exact zqai _ _ _ | exact zqbq _ _ _ _ _ _ | exact zqaq _ _ | rfl)); (focus (exact zqd8)))); ((first | go_big_quiet_skip | (go_big_quiet_want; go_big_quiet_op; go_big_quiet_on)); refine wpQuiet_nil ?_)) | refine zqp rfl (fun _ => rfl) ?_ | ((try simp only [Nat.zero_add, Nat.reduceAdd]); apply zqar (zqaj (hbase _)); (focus rfl); (focus rfl); (focus rfl); (focus (first | exact zqy _ | exact zq3 _ _ | exact zqv _ | rfl)); rotate_left 3; (focus (exact zqcq)); rotate_right 3; (focus kernel_rfl); (focus (first | exact zqh _ _ _ | exact zqbq _ _ _ _ _ _ | rfl)); (focus (first | exact zqan _ _ _ | exact zqf3 _ _ _ _ _ _ | exact zqa3 _ _ _ _ | kernel_rfl)); (focus (decide +kernel)); (focus (exact zqd8))) | (refine zqbs #[.slice oZ d cZ] (enters_of Tryz.func13 zqc rfl) rfl e1 rfl rfl rfl rfl (zqbk (zqd9 _ _ _)) (by first | kernel_rfl | simp [go_sem]) ?_ ?_; (focus (intro W hC hF; obtain ⟨mm, rfl⟩ := hC; refine (cKz _ (Grew.more hG mm)).mono ?_; rintro e w9 ⟨u, rfl, h1, h2, hb9⟩; exact ⟨_, rfl, h1, h2, hb9⟩)); ((first | go_big_quiet_skip | (go_big_quiet_want; go_big_quiet_op; go_big_quiet_on)); refine wpQuiet_nil ?_)) | (refine zqbs #[.int .i64 (n : Int), .int .i64 (J : Int), .agg (ints .u8 32 ko), .slice o2 d k2] (enters_of Tryz.func29 zqc rfl) rfl e2 rfl rfl rfl rfl (zqdm (zqg9 _ _ _ _ _ _) (zqd9 _ _ _) rfl rfl (zqbk (zqg9 _ _ _ _ _ _))) (by first | kernel_rfl | simp [go_sem]) ?_ ?_; (focus (intro W hC hF; obtain ⟨mm, rfl⟩ := hC; have hE0 : KRw d Z (.slice o2 d k2) (more w8 mm) := known hF (List.mem_cons_self ..) (by decide +kernel); obtain ⟨g9, rfl, hR9⟩ := (hE0 o2 k2 rfl).resolve_left (by omega); refine (cRM2 _ _ _ hE0.k32).mono ?_; rintro e w9 ⟨rfl, hb9⟩; exact ⟨_, rfl, ⟨g9, k2, rfl⟩, zrem (hR9.later hb9), hb9⟩)); ((first | go_big_quiet_skip | (go_big_quiet_want; go_big_quiet_op; go_big_quiet_on)); refine wpQuiet_nil ?_))))
  (refine zqbz ?_; rintro _ ⟨mq, rfl⟩ hF; simp only [List.forall_mem_cons] at hF; obtain ⟨fq2, -, f2, f1, -⟩ := hF)
  have hb : Below w8.heap.size w8 (more w8 mq) := zqn _ mq;replace fa := zqb hb fa;replace fb := zqb hb fb;replace fp := zqb hb fp;replace fq := zqb hb fq;replace fp2 := zqb hb fp2;replace HS := hid1 (HS.out.later hb);replace HC := hid1 (HC.out.later hb);replace HT1 := hid1 (HT1.out.later hb);replace HS2 := hid1 (HS2.out.later hb);replace HC2 := hid1 (HC2.out.later hb);replace lfa := zqa fa;replace lfb := zqa fb;replace lfp := zqa fp;replace lfq := zqa fq;replace lfp2 := zqa fp2;replace hG := Grew.trans hG hb;have _hK := f1;have HT2 : Hid (Row32 23 (more w8 mq) gM2 d Z) := f2 gM2 cM2 rfl;replace fq2 : zqd (more w8 mq) (γ 9) = some (.cells (refC (n : Int) (J : Int) (ko) (some ⟨gM2, 0, none⟩) d cM2) 63) := fq2;clear f1 _hK hinj hbase hsv e1 hb f2 e2;generalize γ 9 = gq2 at *
  generalize more w8 mq = w109 at *;clear γ gv;have lfq2 := zqa fq2;go_wp2_with fail;refine (cTd2 _ _ _ _ _ _ _ HS2.out HC2.out.k32 HT2.out.k32).mono ?_
  rintro e w10 ⟨rfl, hb⟩;replace fa := zqb hb fa;replace fb := zqb hb fb;replace fp := zqb hb fp;replace fq := zqb hb fq;replace fp2 := zqb hb fp2;replace fq2 := zqb hb fq2;replace HS := hid1 (HS.out.later hb);replace HC := hid1 (HC.out.later hb);replace HT1 := hid1 (HT1.out.later hb);replace HS2 := hid1 (HS2.out.later hb);replace HC2 := hid1 (HC2.out.later hb);replace HT2 := hid1 (HT2.out.later hb);replace lfa := zqa fa;replace lfb := zqa fb;replace lfp := zqa fp;replace lfq := zqa fq;replace lfp2 := zqa fp2;replace lfq2 := zqa fq2;replace hG := Grew.trans hG hb;clear hb;go_wp2_with fail;clear cRM2 fp2 lfp2 fq2 lfq2 HS2 HC2 HT2 cTd2;generalize w10 = wJ at *
 case' inr =>
  clear hRn;go_wp2_with fail;refine (cRn _ _ _ _ _ HC.out.k32 (hTT.out.later hG)).mono ?_
  rintro e w7 ⟨rfl, hb⟩;replace fa := zqb hb fa;replace fb := zqb hb fb;replace fp := zqb hb fp;replace fq := zqb hb fq;replace HS := hid1 (HS.out.later hb);replace HC := hid1 (HC.out.later hb);replace HT1 := hid1 (HT1.out.later hb);replace lfa := zqa fa;replace lfb := zqa fb;replace lfp := zqa fp;replace lfq := zqa fq;replace hG := Grew.trans hG hb;clear hb;go_wp2_with fail;have hb : Below w7.heap.size w7 (w7.alloc (.cells #[.int .i64 0, .int .i64 0, .slice none 0 0, .slice none 0 0] 59)) := Grew.alloc (Grew.refl _) _;have fp2 : zqd (w7.alloc (.cells #[.int .i64 0, .int .i64 0, .slice none 0 0, .slice none 0 0] 59)) w7.heap.size = some (.cells #[.int .i64 0, .int .i64 0, .slice none 0 0, .slice none 0 0] 59) := zqj _ _ _ rfl;replace fa := zqb hb fa;replace fb := zqb hb fb
  replace fp := zqb hb fp;replace fq := zqb hb fq;replace HS := hid1 (HS.out.later hb);replace HC := hid1 (HC.out.later hb);replace HT1 := hid1 (HT1.out.later hb);replace lfa := zqa fa;replace lfb := zqa fb;replace lfp := zqa fp;replace lfq := zqa fq;replace hG := Grew.trans hG hb;clear hb;generalize w7.alloc (.cells #[.int .i64 0, .int .i64 0, .slice none 0 0, .slice none 0 0] 59) = w8 at *;generalize w7.heap.size = gp2 at *;have lfp2 := zqa fp2;go_wp2_with fail;refine zqga (fun k => k == 4) (fun k => match k with | 4 => fun u => KSl d u | _ => fun _ => True) (fun k => match k with | 4 => fun u w => KRw d Z u w | _ => fun _ _ => True) (fun k => match k with | 4 => .slice none d 0 | _ => undef) (fun i hi => ?_) zqc zqc ?_
  ·simp only [Bool.or_eq_true, beq_iff_eq] at hi
   subst hi;exact ⟨none, 0, rfl⟩
  iterate 4 (first | refine zq0 rfl ?_ | (refine zqr rfl ?_; apply Exists.intro))
  refine zqr rfl ⟨undef, ?_⟩
  iterate 7 (first | refine zq0 rfl ?_ | (refine zqr rfl ?_; apply Exists.intro))
  refine zqbl ?_
  intro γ gv hsv hinj hbase;obtain ⟨o2, k2, e1⟩ := hsv 4 rfl
  (repeat (first | (refine zqab rfl ?_; ((first | go_big_quiet_skip | (go_big_quiet_want; go_big_quiet_op; go_big_quiet_on)); refine wpQuiet_nil ?_)) | ((first | refine zqq rfl (fun _ => rfl) ?_ | ((try simp only [Nat.zero_add, Nat.reduceAdd]); apply zqav _ _ zqo; (focus rfl); (focus (intro W; (first | exact zqa8 _ | exact zqas _ | exact zqa6 _ | exact zqaw _ | exact zqah _ | exact zqag _ | exact zqgj _))); (focus (first | exact zqai _ _ _ | exact zqbq _ _ _ _ _ _ | exact zqaq _ _ | rfl)); (focus (exact zqd8))) | (apply zqaz; (focus rfl); (focus rfl); (focus rfl); (focus (intro W hC hF; (have hbW : Below w8.heap.size w8 W := by obtain ⟨mm, rfl⟩ := hC; exact zqn w8 mm); (try (have hE0 : KRw d Z (.slice o2 d k2) W := known hF (List.mem_cons_self ..) (by decide +kernel))); go_big_quiet_want; go_big_quiet_op; (first | go_big_quiet_on | (apply Exists.intro; refine ⟨fun _ => ?_, ?_⟩; (focus ((exact Calls.of_more (cRM2 _ _ _ (hE0.k32.later (zqn W _)))))); go_big_quiet_on)); exact wpQuiet_nil rfl)); (focus (first | exact fun _ => ⟨rfl, rfl⟩ | exact fun h => absurd h (by decide))))); ((first | go_big_quiet_skip | (go_big_quiet_want; go_big_quiet_op; go_big_quiet_on)); refine wpQuiet_nil ?_)) | refine zqp rfl (fun _ => rfl) ?_ | ((try simp only [Nat.zero_add, Nat.reduceAdd]); apply zqar (zqaj (hbase _)); (focus rfl); (focus rfl); (focus rfl); (focus (first | exact zqy _ | exact zq3 _ _ | exact zqv _ | rfl)); rotate_left 3; (focus (exact zqcq)); rotate_right 3; (focus kernel_rfl); (focus (first | exact zqh _ _ _ | exact zqbq _ _ _ _ _ _ | rfl)); (focus (first | exact zqan _ _ _ | exact zqf3 _ _ _ _ _ _ | exact zqa3 _ _ _ _ | kernel_rfl)); (focus (decide +kernel)); (focus (exact zqd8))) | (refine zqbs #[.slice oZ d cZ] (enters_of Tryz.func13 zqc rfl) rfl e1 rfl rfl rfl rfl (zqbk (zqd9 _ _ _)) (by first | kernel_rfl | simp [go_sem]) ?_ ?_; (focus (intro W hC hF; obtain ⟨mm, rfl⟩ := hC; refine (cKz _ (Grew.more hG mm)).mono ?_; rintro e w9 ⟨u, rfl, h1, h2, hb9⟩; exact ⟨_, rfl, h1, h2, hb9⟩)); ((first | go_big_quiet_skip | (go_big_quiet_want; go_big_quiet_op; go_big_quiet_on)); refine wpQuiet_nil ?_))))
  (refine zqbz ?_; rintro _ ⟨mq, rfl⟩ hF; simp only [List.forall_mem_cons] at hF; obtain ⟨fq2, -, f1, -⟩ := hF)
  have hb : Below w8.heap.size w8 (more w8 mq) := zqn _ mq;replace fa := zqb hb fa;replace fb := zqb hb fb;replace fp := zqb hb fp;replace fq := zqb hb fq;replace fp2 := zqb hb fp2;replace HS := hid1 (HS.out.later hb);replace HC := hid1 (HC.out.later hb);replace HT1 := hid1 (HT1.out.later hb);replace lfa := zqa fa;replace lfb := zqa fb;replace lfp := zqa fp;replace lfq := zqa fq;replace lfp2 := zqa fp2;replace hG := Grew.trans hG hb;have _hK := f1;replace fq2 : zqd (more w8 mq) (γ 9) = some (.cells (refC 0 0 (zqg) none 0 0) 63) := fq2;clear f1 _hK hinj hbase hsv e1 hb;generalize γ 9 = gq2 at *;generalize more w8 mq = w109 at *;clear γ gv;have lfq2 := zqa fq2;go_wp2_with fail;refine (cNo _).mono ?_
  rintro e w10 ⟨rfl, hb⟩;replace fa := zqb hb fa;replace fb := zqb hb fb;replace fp := zqb hb fp;replace fq := zqb hb fq;replace fp2 := zqb hb fp2;replace fq2 := zqb hb fq2;replace HS := hid1 (HS.out.later hb);replace HC := hid1 (HC.out.later hb);replace HT1 := hid1 (HT1.out.later hb);replace lfa := zqa fa;replace lfb := zqa fb;replace lfp := zqa fp;replace lfq := zqa fq;replace lfp2 := zqa fp2;replace lfq2 := zqa fq2;replace hG := Grew.trans hG hb;clear hb;go_wp2_with fail;clear cRM2 fp2 lfp2 fq2 lfq2;generalize w10 = wJ at *
 all_goals
  clear cKz fa lfa fb lfb
  rcases hTk.out with ⟨cTk, cRT, cTd3⟩ | ⟨cTk, cRT⟩
  ·clear hTk
   refine (cTk _ _ _ _ _ HS.out HC.out.k32 hG (hTT.out.later hG)).mono ?_
   rintro e w12 ⟨oS3, kS3, gC3, kC3, rfl, hS, hC, hb⟩;replace fp := zqb hb fp;replace fq := zqb hb fq;replace HS := hid1 (HS.out.later hb);replace HC := hid1 (HC.out.later hb);replace HT1 := hid1 (HT1.out.later hb);replace lfp := zqa fp;replace lfq := zqa fq;replace hG := Grew.trans hG hb;have HS3 : Hid (K32At w12 oS3 (d + 1) S3) := hS;have HC3 : Hid (Row32 24 w12 gC3 d Z3) := hC;clear hb hS hC cTk;go_wp2_with fail;have hb : Below w12.heap.size w12 (w12.alloc (.cells #[.int .i64 (n : Int), .int .i64 (J : Int), .slice oS3 (d + 1) kS3, .slice (some ⟨gC3, 0, none⟩) d kC3] 59)) := Grew.alloc (Grew.refl _) _
   have fp3 : zqd (w12.alloc (.cells #[.int .i64 (n : Int), .int .i64 (J : Int), .slice oS3 (d + 1) kS3, .slice (some ⟨gC3, 0, none⟩) d kC3] 59)) w12.heap.size = some (.cells #[.int .i64 (n : Int), .int .i64 (J : Int), .slice oS3 (d + 1) kS3, .slice (some ⟨gC3, 0, none⟩) d kC3] 59) := zqj _ _ _ rfl;replace fp := zqb hb fp;replace fq := zqb hb fq;replace HS := hid1 (HS.out.later hb);replace HC := hid1 (HC.out.later hb);replace HT1 := hid1 (HT1.out.later hb);replace HS3 := hid1 (HS3.out.later hb);replace HC3 := hid1 (HC3.out.later hb);replace lfp := zqa fp;replace lfq := zqa fq;replace hG := Grew.trans hG hb;clear hb;generalize w12.alloc (.cells #[.int .i64 (n : Int), .int .i64 (J : Int), .slice oS3 (d + 1) kS3, .slice (some ⟨gC3, 0, none⟩) d kC3] 59) = w13 at *;generalize w12.heap.size = gp3 at *;have lfp3 := zqa fp3;go_wp2_with fail
   refine zqga (fun k => k == 3 || k == 4) (fun k => match k with | 3 => fun u => KSl dp u | 4 => fun u => RfS n J ka d u | _ => fun _ => True) (fun k => match k with | 3 => fun u w => KRw dp P u w | 4 => fun u w => RfAt n J ka d Z3 u w | _ => fun _ _ => True) (fun k => match k with | 3 => .slice none dp 0 | 4 => .tuple #[.agg (refC (n : Int) (J : Int) (ka) (some ⟨0, 0, none⟩) d 0), .bool true] | _ => undef) (fun i hi => ?_) zqc zqc ?_
   ·simp only [Bool.or_eq_true, beq_iff_eq] at hi
    rcases hi with rfl | rfl
    ·exact ⟨none, 0, rfl⟩
    ·exact ⟨0, 0, rfl⟩
   iterate 3 (first | refine zq0 rfl ?_ | (refine zqr rfl ?_; apply Exists.intro))
   refine zqr rfl ⟨undef, ?_⟩;refine zqr rfl ⟨undef, ?_⟩
   iterate 6 (first | refine zq0 rfl ?_ | (refine zqr rfl ?_; apply Exists.intro))
   refine zqbl ?_
   intro γ gv hsv hinj hbase;obtain ⟨o3, k3, e1⟩ := hsv 3 rfl;obtain ⟨g3, c3, e2⟩ := hsv 4 rfl
   (repeat (first | (refine zqab rfl ?_; ((first | go_big_quiet_skip | (go_big_quiet_want; go_big_quiet_op; go_big_quiet_on)); refine wpQuiet_nil ?_)) | ((first | refine zqq rfl (fun _ => rfl) ?_ | ((try simp only [Nat.zero_add, Nat.reduceAdd]); apply zqav _ _ zqo; (focus rfl); (focus (intro W; (first | exact zqa8 _ | exact zqas _ | exact zqa6 _ | exact zqaw _ | exact zqah _ | exact zqag _ | exact zqgj _))); (focus (first | exact zqai _ _ _ | exact zqbq _ _ _ _ _ _ | exact zqaq _ _ | rfl)); (focus (exact zqd8)))); ((first | go_big_quiet_skip | (go_big_quiet_want; go_big_quiet_op; go_big_quiet_on)); refine wpQuiet_nil ?_)) | refine zqp rfl (fun _ => rfl) ?_ | ((try simp only [Nat.zero_add, Nat.reduceAdd]); apply zqar (zqaj (hbase _)); (focus rfl); (focus rfl); (focus rfl); (focus (first | exact zqy _ | exact zq3 _ _ | exact zqv _ | rfl)); rotate_left 3; (focus (exact zqcq)); rotate_right 3; (focus kernel_rfl); (focus (first | exact zqh _ _ _ | exact zqbq _ _ _ _ _ _ | rfl)); (focus (first | exact zqan _ _ _ | exact zqf3 _ _ _ _ _ _ | exact zqa3 _ _ _ _ | kernel_rfl)); (focus (decide +kernel)); (focus (exact zqd8))) | (refine zqbs #[.slice oP dp cP] (enters_of Tryz.func13 zqc rfl) rfl e1 rfl rfl rfl rfl (zqbk (zqd9 _ _ _)) (by first | kernel_rfl | simp [go_sem]) ?_ ?_; (focus (intro W hC hF; obtain ⟨mm, rfl⟩ := hC; refine (cKp _ (Grew.more hG mm)).mono ?_; rintro e w9 ⟨u, rfl, h1, h2, hb9⟩; exact ⟨_, rfl, h1, h2, hb9⟩)); ((first | go_big_quiet_skip | (go_big_quiet_want; go_big_quiet_op; go_big_quiet_on)); refine wpQuiet_nil ?_)) | (refine zqbs #[.agg (refC (n : Int) (J : Int) (ka) (some ⟨gM, 0, none⟩) d cM), .int .i64 m, .slice o3 dp k3] (enters_of Tryz.func34 zqc rfl) rfl e2 rfl rfl rfl rfl (zqdm (zqg9 _ _ _ _ _ _) (zqd9 _ _ _) rfl rfl (zqbk (zqg9 _ _ _ _ _ _))) (by first | kernel_rfl | simp [go_sem]) ?_ ?_; (focus (intro W hC hF; obtain ⟨mm, rfl⟩ := hC; have hE0 : KRw dp P (.slice o3 dp k3) (more w13 mm) := known hF (List.mem_cons_self ..) (by decide +kernel); refine (cRT _ _ _ _ _ (HT1.out.k32.later (zqn _ mm)) hE0.k32).mono ?_; rintro e w9 ⟨gR, cR, rfl, h1, hb9⟩; exact ⟨_, rfl, ⟨gR, cR, rfl⟩, zrem h1, hb9⟩)); ((first | go_big_quiet_skip | (go_big_quiet_want; go_big_quiet_op; go_big_quiet_on)); refine wpQuiet_nil ?_))))
   (refine zqbz ?_; rintro _ ⟨mq, rfl⟩ hF; simp only [List.forall_mem_cons] at hF; obtain ⟨fq3, -, f2, f1, -⟩ := hF)
   have hb : Below w13.heap.size w13 (more w13 mq) := zqn _ mq;replace fp := zqb hb fp;replace fq := zqb hb fq;replace fp3 := zqb hb fp3;replace HS := hid1 (HS.out.later hb);replace HC := hid1 (HC.out.later hb);replace HT1 := hid1 (HT1.out.later hb);replace HS3 := hid1 (HS3.out.later hb);replace HC3 := hid1 (HC3.out.later hb);replace lfp := zqa fp;replace lfq := zqa fq;replace lfp3 := zqa fp3;replace hG := Grew.trans hG hb;have _hK := f1;have HT3 : Hid (Row32 23 (more w13 mq) g3 d Z3) := f2 g3 c3 rfl;replace fq3 : zqd (more w13 mq) (γ 8) = some (.cells (refC (n : Int) (J : Int) (ka) (some ⟨g3, 0, none⟩) d c3) 63) := fq3;clear f1 _hK hinj hbase hsv e1 hb f2 e2;generalize γ 8 = gq3 at *;generalize more w13 mq = w114 at *;clear γ gv;have lfq3 := zqa fq3;go_wp2_with fail
   refine (cTd3 _ _ _ _ _ _ _ HS3.out HC3.out.k32 HT3.out.k32).mono ?_
   rintro e w15 ⟨rfl, hb⟩;replace fp := zqb hb fp;replace fq := zqb hb fq;replace fp3 := zqb hb fp3;replace fq3 := zqb hb fq3;replace HS := hid1 (HS.out.later hb);replace HC := hid1 (HC.out.later hb);replace HT1 := hid1 (HT1.out.later hb);replace HS3 := hid1 (HS3.out.later hb);replace HC3 := hid1 (HC3.out.later hb);replace HT3 := hid1 (HT3.out.later hb);replace lfp := zqa fp;replace lfq := zqa fq;replace lfp3 := zqa fp3;replace lfq3 := zqa fq3;replace hG := Grew.trans hG hb;clear hb;go_wp2_with fail;refine (cTd _ _ _ _ _ _ _ HS.out HC.out.k32 HT1.out.k32).mono ?_
   rintro e w16 ⟨rfl, hb⟩;replace fp := zqb hb fp;replace fq := zqb hb fq;replace fp3 := zqb hb fp3;replace fq3 := zqb hb fq3;replace HS := hid1 (HS.out.later hb);replace HC := hid1 (HC.out.later hb);replace HT1 := hid1 (HT1.out.later hb);replace HS3 := hid1 (HS3.out.later hb);replace HC3 := hid1 (HC3.out.later hb);replace HT3 := hid1 (HT3.out.later hb);replace lfp := zqa fp;replace lfq := zqa fq;replace lfp3 := zqa fp3;replace lfq3 := zqa fq3;replace hG := Grew.trans hG hb;clear hb;go_wp2;go_ret;exact ⟨rfl, hG⟩
  ·clear hTk
   refine (cTk _ _ _ _ _ HS.out HC.out.k32 hG (hTT.out.later hG)).mono ?_
   rintro e w12 ⟨rfl, hb⟩;replace fp := zqb hb fp;replace fq := zqb hb fq;replace HS := hid1 (HS.out.later hb);replace HC := hid1 (HC.out.later hb);replace HT1 := hid1 (HT1.out.later hb);replace lfp := zqa fp;replace lfq := zqa fq;replace hG := Grew.trans hG hb;clear hb;go_wp2_with fail;have hb : Below w12.heap.size w12 (w12.alloc (.cells #[.int .i64 0, .int .i64 0, .slice none 0 0, .slice none 0 0] 59)) := Grew.alloc (Grew.refl _) _;have fp3 : zqd (w12.alloc (.cells #[.int .i64 0, .int .i64 0, .slice none 0 0, .slice none 0 0] 59)) w12.heap.size = some (.cells #[.int .i64 0, .int .i64 0, .slice none 0 0, .slice none 0 0] 59) := zqj _ _ _ rfl;replace fp := zqb hb fp;replace fq := zqb hb fq;replace HS := hid1 (HS.out.later hb);replace HC := hid1 (HC.out.later hb);replace HT1 := hid1 (HT1.out.later hb);replace lfp := zqa fp
   replace lfq := zqa fq;replace hG := Grew.trans hG hb;clear hb;generalize w12.alloc (.cells #[.int .i64 0, .int .i64 0, .slice none 0 0, .slice none 0 0] 59) = w13 at *;generalize w12.heap.size = gp3 at *;have lfp3 := zqa fp3;go_wp2_with fail;refine zqga (fun k => k == 3) (fun k => match k with | 3 => fun u => KSl dp u | _ => fun _ => True) (fun k => match k with | 3 => fun u w => KRw dp P u w | _ => fun _ _ => True) (fun k => match k with | 3 => .slice none dp 0 | _ => undef) (fun i hi => ?_) zqc zqc ?_
   ·simp only [Bool.or_eq_true, beq_iff_eq] at hi
    subst hi;exact ⟨none, 0, rfl⟩
   iterate 3 (first | refine zq0 rfl ?_ | (refine zqr rfl ?_; apply Exists.intro))
   refine zqr rfl ⟨undef, ?_⟩
   iterate 7 (first | refine zq0 rfl ?_ | (refine zqr rfl ?_; apply Exists.intro))
   refine zqbl ?_
   intro γ gv hsv hinj hbase;obtain ⟨o3, k3, e1⟩ := hsv 3 rfl
   (repeat (first | (refine zqab rfl ?_; ((first | go_big_quiet_skip | (go_big_quiet_want; go_big_quiet_op; go_big_quiet_on)); refine wpQuiet_nil ?_)) | ((first | refine zqq rfl (fun _ => rfl) ?_ | ((try simp only [Nat.zero_add, Nat.reduceAdd]); apply zqav _ _ zqo; (focus rfl); (focus (intro W; (first | exact zqa8 _ | exact zqas _ | exact zqa6 _ | exact zqaw _ | exact zqah _ | exact zqag _ | exact zqgj _))); (focus (first | exact zqai _ _ _ | exact zqbq _ _ _ _ _ _ | exact zqaq _ _ | rfl)); (focus (exact zqd8))) | (apply zqaz; (focus rfl); (focus rfl); (focus rfl); (focus (intro W hC hF; (have hbW : Below w13.heap.size w13 W := by obtain ⟨mm, rfl⟩ := hC; exact zqn w13 mm); (try (have hE0 : KRw dp P (.slice o3 dp k3) W := known hF (List.mem_cons_self ..) (by decide +kernel))); go_big_quiet_want; go_big_quiet_op; (first | go_big_quiet_on | (apply Exists.intro; refine ⟨fun _ => ?_, ?_⟩; (focus ((exact Calls.of_more (cRT _ _ _ _ _ (HT1.out.k32.later (Grew.more hbW _)) (hE0.k32.later (zqn W _)))))); go_big_quiet_on)); exact wpQuiet_nil rfl)); (focus (first | exact fun _ => ⟨rfl, rfl⟩ | exact fun h => absurd h (by decide))))); ((first | go_big_quiet_skip | (go_big_quiet_want; go_big_quiet_op; go_big_quiet_on)); refine wpQuiet_nil ?_)) | refine zqp rfl (fun _ => rfl) ?_ | ((try simp only [Nat.zero_add, Nat.reduceAdd]); apply zqar (zqaj (hbase _)); (focus rfl); (focus rfl); (focus rfl); (focus (first | exact zqy _ | exact zq3 _ _ | exact zqv _ | rfl)); rotate_left 3; (focus (exact zqcq)); rotate_right 3; (focus kernel_rfl); (focus (first | exact zqh _ _ _ | exact zqbq _ _ _ _ _ _ | rfl)); (focus (first | exact zqan _ _ _ | exact zqf3 _ _ _ _ _ _ | exact zqa3 _ _ _ _ | kernel_rfl)); (focus (decide +kernel)); (focus (exact zqd8))) | (refine zqbs #[.slice oP dp cP] (enters_of Tryz.func13 zqc rfl) rfl e1 rfl rfl rfl rfl (zqbk (zqd9 _ _ _)) (by first | kernel_rfl | simp [go_sem]) ?_ ?_; (focus (intro W hC hF; obtain ⟨mm, rfl⟩ := hC; refine (cKp _ (Grew.more hG mm)).mono ?_; rintro e w9 ⟨u, rfl, h1, h2, hb9⟩; exact ⟨_, rfl, h1, h2, hb9⟩)); ((first | go_big_quiet_skip | (go_big_quiet_want; go_big_quiet_op; go_big_quiet_on)); refine wpQuiet_nil ?_))))
   (refine zqbz ?_; rintro _ ⟨mq, rfl⟩ hF; simp only [List.forall_mem_cons] at hF; obtain ⟨fq3, -, f1, -⟩ := hF)
   have hb : Below w13.heap.size w13 (more w13 mq) := zqn _ mq;replace fp := zqb hb fp;replace fq := zqb hb fq;replace fp3 := zqb hb fp3;replace HS := hid1 (HS.out.later hb);replace HC := hid1 (HC.out.later hb);replace HT1 := hid1 (HT1.out.later hb);replace lfp := zqa fp;replace lfq := zqa fq;replace lfp3 := zqa fp3;replace hG := Grew.trans hG hb;have _hK := f1;replace fq3 : zqd (more w13 mq) (γ 8) = some (.cells (refC 0 0 (zqg) none 0 0) 63) := fq3;clear f1 _hK hinj hbase hsv e1 hb;generalize γ 8 = gq3 at *;generalize more w13 mq = w114 at *;clear γ gv;have lfq3 := zqa fq3;go_wp2_with fail;refine (cNo _).mono ?_
   rintro e w15 ⟨rfl, hb⟩;replace fp := zqb hb fp;replace fq := zqb hb fq;replace fp3 := zqb hb fp3;replace fq3 := zqb hb fq3;replace HS := hid1 (HS.out.later hb);replace HC := hid1 (HC.out.later hb);replace HT1 := hid1 (HT1.out.later hb);replace lfp := zqa fp;replace lfq := zqa fq;replace lfp3 := zqa fp3;replace lfq3 := zqa fq3;replace hG := Grew.trans hG hb;clear hb;go_wp2_with fail;refine (cTd _ _ _ _ _ _ _ HS.out HC.out.k32 HT1.out.k32).mono ?_
   rintro e w16 ⟨rfl, hb⟩;replace fp := zqb hb fp;replace fq := zqb hb fq;replace fp3 := zqb hb fp3;replace fq3 := zqb hb fq3;replace HS := hid1 (HS.out.later hb);replace HC := hid1 (HC.out.later hb);replace HT1 := hid1 (HT1.out.later hb);replace lfp := zqa fp;replace lfq := zqa fq;replace lfp3 := zqa fp3;replace lfq3 := zqa fq3;replace hG := Grew.trans hG hb;clear hb;go_wp2;go_ret;exact ⟨rfl, hG⟩
end Go.Proofs.YtconieddcjpbjaaGreatDoor
namespace Go.Proofs.YtconieddcjpbjaaGreatDoor
open Go.RowKit
@[go_sem] theorem zrj5 (w : World) : (zqdz (.int .u8 3)).run Tryz.prog w = .ok (.value (.agg (ints .u8 32 (upd zqg 0 3)))) w := by kernel_rfl
def KkS (n : Nat) (u : Value) : Prop := ∃ g c, u = .slice (some ⟨g, 0, none⟩) n c
def KkAt (n : Nat) (F : Nat -> Nat -> Int) (u : Value) (w : World) : Prop := ∀ g c, u = .slice (some ⟨g, 0, none⟩) n c -> Row32 24 w g n F
theorem zqn9 (n : Nat) (F : Nat -> Nat -> Int) (u : Value) : Stab (KkAt n F u) none := fun w w' h e g c hu => (h g c hu).later e
theorem zqku (n : Nat) (F : Nat -> Nat -> Int) (u : Value) (g' : Nat) : Stab (KkAt n F u) (some (g', 59)) := fun w w' h ⟨old, cs', t', h1, ⟨_, h2⟩, e⟩ g c hu => by
 subst e;subst h2;exact (h g c hu).by (zqam _ _ _ _ (zqgu h1 (h g c hu)))
def PcS (u : Value) : Prop := ∃ oS kS gC kC, u = .tuple #[.agg #[.int .i64 2, .int .i64 0, .slice oS 2 kS, .slice (some ⟨gC, 0, none⟩) 1 kC], .bool true]
def PcAt (F : Nat -> Nat -> Int) (u : Value) (w : World) : Prop := ∀ oS kS gC kC, u = .tuple #[.agg #[.int .i64 2, .int .i64 0, .slice oS 2 kS, .slice (some ⟨gC, 0, none⟩) 1 kC], .bool true] -> Row32 24 w gC 1 F
theorem zqm1 (F : Nat -> Nat -> Int) (u : Value) : Stab (PcAt F u) none := fun w w' h e a b c d hu => (h a b c d hu).later e
theorem zqk0 (F : Nat -> Nat -> Int) (u : Value) (g' : Nat) : Stab (PcAt F u) (some (g', 59)) := fun w w' h ⟨old, cs', t', h1, ⟨_, h2⟩, e⟩ a b c d hu => by
 subst e;subst h2;exact (h a b c d hu).by (zqam _ _ _ _ (zqgu h1 (h a b c d hu)))
theorem zqw1 {P : Prop} (h : P := by first | exact zqu | ((repeat (refine zqht ⟨by (first | exact zqdd _ _ _ _ | exact zqku _ _ _ _ | exact zqn9 _ _ _ | exact zqk0 _ _ _ | exact zqm1 _ _ | exact zqe3 _ _ _ | exact zqdh _ _ _), by (first | exact zqdd _ _ _ _ | exact zqku _ _ _ _ | exact zqn9 _ _ _ | exact zqk0 _ _ _ | exact zqm1 _ _ | exact zqe3 _ _ _ | exact zqdh _ _ _)⟩ ?_)); exact zqbk (by (first | exact zqdd _ _ _ _ | exact zqku _ _ _ _ | exact zqn9 _ _ _ | exact zqk0 _ _ _ | exact zqm1 _ _ | exact zqe3 _ _ _ | exact zqdh _ _ _)))) : P := h
attribute [local irreducible] zqc4 zqb1 oneF macF shaF strOf keyV shV pubV upF upOK pubF
theorem zql6 (n l : Int) (oS oC : Option Addr) (d cS cC : Nat) (S : Nat -> Nat -> Int) (w : World) (h0 : 0 < d) (hd : d <= 1000) (hS : ∀ i, i < d -> Bytes 32 (S i)) (hK : K32At w oS (d + 1) S) :
  Calls Tryz.prog 36 #[.agg #[.int .i64 n, .int .i64 l, .slice oS (d + 1) cS, .slice oC d cC]] w fun e w' => ∃ g c, e = .returned (.slice (some ⟨g, 0, none⟩) d c) /\ Row32 24 w' g d (fun i => pubF (S i)) /\ Below w.heap.size w w' := by
 have HK : Hid (K32At w oS (d + 1) S) := hK;have cB : Hid (∀ (i : Nat) (W : World), i < d -> Calls Tryz.prog 48 #[.agg (ints .u8 32 (S i))] W (Rt W (.agg (ints .u8 32 (pubF (S i)))))) := fun i W hi => zqrz (S i) W (hS i hi);obtain ⟨ad, rfl⟩ := hK.addr (by omega);clear hK hS;have hG := Grew.refl w;have fp : True := trivial
 go_enter Tryz.func36, Tryz.ntmps36
 go_wp2_with fail;generalize hW : w.alloc (.cells #[.int .i64 n, .int .i64 l, .slice (some ad) (d + 1) cS, .slice oC d cC] 59) = w1;replace fp : zqd w1 (w.heap.size) = some (.cells #[.int .i64 n, .int .i64 l, .slice (some ad) (d + 1) cS, .slice oC d cC] 59) := zqk hW;replace hG : Below w.heap.size w w1 := zq2 hW;clear hW;have lfp := zqa fp;go_wp2_with fail
 go_loopw [8, 3, 4] (fun i v _ wr => ∃ (j : Nat) (v0 : Value), v0 = v /\ j <= d /\ i = .int .i64 j /\ Below w1.heap.size w1 wr /\ Hid (wr.ownsRow w1.heap.size 24 32 v0 j (k32L (fun i => pubF (S i)) j))) (fun i _ _ _ => d - (intOf i).toNat)
 case atStart => exact ⟨0, _, rfl, by omega, rfl, Grew.refl _, World.ownsRow_nil _ _ _ _⟩
 case round =>
  obtain ⟨j, v0, rfl, hj, rfl, hM, OWN⟩ := hrel
  by_cases hlt : j < d
  ·replace fp := zqb hM fp
   have lfp := zqa fp;have l1 := HK.out.loadK (show j < d + 1 by omega) (Grew.trans hG hM);have hi1 : (j : Int) < (d : Int) := by omega
   have hi2 : (j : Int) < (d : Int) + 1 := by omega
   have hi0 : (0 : Int) <= (j : Int) := by omega
   have cBj := fun W : World => cB.out j W hlt;clear cB;go_wp2_with fail;refine (cBj _).mono ?_
   rintro e w5 ⟨rfl, hb5⟩;have hM5 := Grew.trans hM hb5;have OWN5 := zqbp OWN.out hb5;clear OWN hM hb5 cBj l1 fp lfp;obtain ⟨g3, c3, w3, hr3, own3, hb3, -⟩ := zqkx w1 (w5.alloc (.cells (ints .u8 32 (pubF (S j))) 24)) w1.heap.size v0 j (fun i => pubF (S i)) w5.heap.size _ _ (OWN5.alloc _) (by omega) (zqj _ _ _ rfl) (Grew.alloc hM5 _) (Nat.le_refl _) (by simp; have := hM5.size; omega);have OWN3 : Hid (w3.ownsRow w1.heap.size 24 32 (.slice (some ⟨g3, 0, none⟩) (j + 1) c3) (j + 1) (k32L (fun i => pubF (S i)) (j + 1))) := own3;clear own3 OWN5;go_wp2
   go_roundw
   case rel => exact ⟨j + 1, _, rfl, by omega, by go_num, hb3, OWN3⟩
   case measure => (simp [intOf] <;> omega)
  ·obtain rfl : j = d := by omega
   obtain ⟨g2, c2, rfl, -, -, hK2⟩ := zqey h0 OWN.out;have HK2 : Hid (Row32 24 wr g2 j (fun i => pubF (S i))) := hK2;clear OWN hK2;go_wp2;go_ret;exact ⟨g2, c2, rfl, HK2.out, Grew.trans hG hM⟩
theorem zqsp (z1 z2 z3 q1 q2 q3 : Nat -> Int) (S0 S1 PR : Nat -> Nat -> Int) (w : World) (hT : Tabs w) (hz1 : upd zqg 0 1 = z1) (hz2 : upd zqg 0 2 = z2) (hz3 : upd zqg 0 3 = z3)
  (aw : ∀ W : World, Tabs W -> Calls Tryz.prog 56 #[] W (Rt W (.bool true)))
  (cM : ∀ (ad : Addr) (W : World), K32At W (some ad) 2 (two z1 z2) -> Tabs W -> Calls Tryz.prog 9 #[.slice (some ad) 2 2] W fun e w' => ∃ g c, e = .returned (.tuple #[.agg #[.slice (some ⟨g, 0, none⟩) 3 c], .bool true]) /\ Row64 w' g 3 PR /\ Below W.heap.size W w')
  (cD0 : ∀ (g c : Nat) (W : World), Row64 W g 3 PR -> Calls Tryz.prog 21 #[.agg #[.slice (some ⟨g, 0, none⟩) 3 c], .int .i64 0] W fun e w' => ∃ oa c, e = .returned (.slice oa 1 c) /\ K32At w' oa 1 (fun _ => q2) /\ Below W.heap.size W w')
  (cD1 : ∀ (g c : Nat) (W : World), Row64 W g 3 PR -> Calls Tryz.prog 21 #[.agg #[.slice (some ⟨g, 0, none⟩) 3 c], .int .i64 1] W fun e w' => ∃ oa c, e = .returned (.slice oa 1 c) /\ K32At w' oa 1 (fun _ => q1) /\ Below W.heap.size W w')
  (cP0 : ∀ (o : Option Addr) (c : Nat) (W : World), K32At W o 1 (fun _ => q2) -> Tabs W -> Calls Tryz.prog 28 #[.int .i64 2, .int .i64 0, .agg (ints .u8 32 z1), .slice o 1 c] W fun e w' => ∃ oS kS gC kC, e = .returned (.tuple #[.agg #[.int .i64 2, .int .i64 0, .slice oS 2 kS, .slice (some ⟨gC, 0, none⟩) 1 kC], .bool true]) /\ K32At w' oS 2 S0 /\ Row32 24 w' gC 1 (fun _ => q2) /\ Below W.heap.size W w')
  (cP1 : ∀ (o : Option Addr) (c : Nat) (W : World), K32At W o 1 (fun _ => q1) -> Tabs W -> Calls Tryz.prog 28 #[.int .i64 2, .int .i64 1, .agg (ints .u8 32 z3), .slice o 1 c] W fun e w' => ∃ oS kS gC kC, e = .returned (.tuple #[.agg #[.int .i64 2, .int .i64 1, .slice oS 2 kS, .slice (some ⟨gC, 0, none⟩) 1 kC], .bool true]) /\ K32At w' oS 2 S1 /\ Row32 24 w' gC 1 (fun _ => q1) /\ Below W.heap.size W w')
  (cPub : ∀ (oS oC : Option Addr) (kS kC : Nat) (W : World), K32At W oS 2 S1 -> Calls Tryz.prog 36 #[.agg #[.int .i64 2, .int .i64 1, .slice oS 2 kS, .slice oC 1 kC]] W fun e w' => ∃ g c, e = .returned (.slice (some ⟨g, 0, none⟩) 1 c) /\ Row32 24 w' g 1 (fun _ => q3) /\ Below W.heap.size W w')
  (cTk : ∀ (oS oC o : Option Addr) (kS kC c : Nat) (W : World), K32At W oS 2 S0 -> K32At W oC 1 (fun _ => q2) -> K32At W o 1 (fun _ => q3) -> Tabs W -> Calls Tryz.prog 33 #[.agg #[.int .i64 2, .int .i64 0, .slice oS 2 kS, .slice oC 1 kC], .int .i64 1, .slice o 1 c] W fun e w' => ∃ oS kS gC kC, e = .returned (.tuple #[.agg #[.int .i64 2, .int .i64 0, .slice oS 2 kS, .slice (some ⟨gC, 0, none⟩) 1 kC], .bool true]) /\ Row32 24 w' gC 1 (fun _ => q3) /\ Below W.heap.size W w')
  (cCo : ∀ (oS oC : Option Addr) (kS kC : Nat) (W : World), K32At W oC 1 (fun _ => q3) -> Calls Tryz.prog 37 #[.agg #[.int .i64 2, .int .i64 0, .slice oS 2 kS, .slice oC 1 kC]] W (zqhz W 1 (fun _ => q3))) :
  Calls Tryz.prog 27 #[] w (Rt w (.bool true)) := by
 have hTT : Hid (Tabs w) := hT;clear hT;have hG := Grew.refl w
 go_enter Tryz.func27, Tryz.ntmps27
 go_wp2_with fail;have fl : zqd (w.alloc (.cells (ints .u8 64 (rowK (two z1 z2))) 24)) w.heap.size = some (.cells (ints .u8 64 (rowK (two z1 z2))) 24) := zqj _ _ _ rfl;have hK0 : K32At (w.alloc (.cells (ints .u8 64 (rowK (two z1 z2))) 24)) (some ⟨w.heap.size, 0, none⟩) 2 (two z1 z2) := zqpp fl (by decide) (zq39 (two z1 z2) 2);have hG1 : Below w.heap.size w (w.alloc (.cells (ints .u8 64 (rowK (two z1 z2))) 24)) := Grew.alloc hG _;have hTT1 : Tabs (w.alloc (.cells (ints .u8 64 (rowK (two z1 z2))) 24)) := hTT.out.later hG1;refine (cM _ _ hK0 hTT1).mono ?_
 rintro e w2 ⟨g, c, rfl, hR, hb2⟩;have HR2 : Hid (Row64 w2 g 3 PR) := hR;have hG2 : Below w.heap.size w w2 := Grew.trans hG1 hb2;clear fl hK0 hG1 hTT1 hR hb2 hG cM;go_wp2_with fail;have ft : zqd (w2.alloc (.cells #[.slice (some ⟨g, 0, none⟩) 3 c] 30)) w2.heap.size = some (.cells #[.slice (some ⟨g, 0, none⟩) 3 c] 30) := zqj _ _ _ rfl;have hG : Below w.heap.size w (w2.alloc (.cells #[.slice (some ⟨g, 0, none⟩) 3 c] 30)) := Grew.alloc hG2 _;have HR : Hid (Row64 (w2.alloc (.cells #[.slice (some ⟨g, 0, none⟩) 3 c] 30)) g 3 PR) := HR2.out.later (Grew.alloc (Grew.refl _) _);have lft := zqa ft;clear HR2 hG2;generalize w2.alloc (.cells #[.slice (some ⟨g, 0, none⟩) 3 c] 30) = w3 at *;generalize w2.heap.size = gt at *;refine (cD0 _ _ _ HR.out).mono ?_
 rintro e w4 ⟨o1, c1, rfl, hK, hb⟩;replace ft := zqb hb ft;replace HR := hid1 (HR.out.later hb);replace lft := zqa ft;replace hG := Grew.trans hG hb;have HA : Hid (K32At w4 o1 1 (fun _ => q2)) := hK;clear hb hK cD0;go_wp2_with fail;refine (cP0 _ _ _ HA.out (hTT.out.later hG)).mono ?_
 rintro e w5 ⟨oS1, kS1, gC1, kC1, rfl, hS, hC, hb⟩;replace ft := zqb hb ft;replace HR := hid1 (HR.out.later hb);replace HA := hid1 (HA.out.later hb);replace lft := zqa ft;replace hG := Grew.trans hG hb;have HS1 : Hid (K32At w5 oS1 2 S0) := hS;have HC1 : Hid (Row32 24 w5 gC1 1 (fun _ => q2)) := hC;clear hb hS hC HA cP0;go_wp2_with fail;have hb : Below w5.heap.size w5 (w5.alloc (.cells #[.int .i64 2, .int .i64 0, .slice oS1 2 kS1, .slice (some ⟨gC1, 0, none⟩) 1 kC1] 59)) := Grew.alloc (Grew.refl _) _;have fp : zqd (w5.alloc (.cells #[.int .i64 2, .int .i64 0, .slice oS1 2 kS1, .slice (some ⟨gC1, 0, none⟩) 1 kC1] 59)) w5.heap.size = some (.cells #[.int .i64 2, .int .i64 0, .slice oS1 2 kS1, .slice (some ⟨gC1, 0, none⟩) 1 kC1] 59) := zqj _ _ _ rfl;replace ft := zqb hb ft;replace HR := hid1 (HR.out.later hb);replace HS1 := hid1 (HS1.out.later hb)
 replace HC1 := hid1 (HC1.out.later hb);replace lft := zqa ft;replace hG := Grew.trans hG hb;clear hb;generalize w5.alloc (.cells #[.int .i64 2, .int .i64 0, .slice oS1 2 kS1, .slice (some ⟨gC1, 0, none⟩) 1 kC1] 59) = w6 at *;generalize w5.heap.size = gp at *;have lfp := zqa fp;go_wp2_with fail;refine (cD1 _ _ _ HR.out).mono ?_
 rintro e w7 ⟨o1, c1, rfl, hK, hb⟩;replace ft := zqb hb ft;replace fp := zqb hb fp;replace HR := hid1 (HR.out.later hb);replace HS1 := hid1 (HS1.out.later hb);replace HC1 := hid1 (HC1.out.later hb);replace lft := zqa ft;replace lfp := zqa fp;replace hG := Grew.trans hG hb;have HA : Hid (K32At w7 o1 1 (fun _ => q1)) := hK;clear hb hK cD1;go_wp2_with fail;refine (cP1 _ _ _ HA.out (hTT.out.later hG)).mono ?_
 rintro e w8 ⟨oS2, kS2, gC2, kC2, rfl, hS, hC, hb⟩;replace ft := zqb hb ft;replace fp := zqb hb fp;replace HR := hid1 (HR.out.later hb);replace HS1 := hid1 (HS1.out.later hb);replace HC1 := hid1 (HC1.out.later hb);replace HA := hid1 (HA.out.later hb);replace lft := zqa ft;replace lfp := zqa fp;replace hG := Grew.trans hG hb;have HS2 : Hid (K32At w8 oS2 2 S1) := hS;have HC2 : Hid (Row32 24 w8 gC2 1 (fun _ => q1)) := hC;clear hb hS hC HA cP1;go_wp2_with fail;have hb : Below w8.heap.size w8 (w8.alloc (.cells #[.int .i64 2, .int .i64 1, .slice oS2 2 kS2, .slice (some ⟨gC2, 0, none⟩) 1 kC2] 59)) := Grew.alloc (Grew.refl _) _
 have fq : zqd (w8.alloc (.cells #[.int .i64 2, .int .i64 1, .slice oS2 2 kS2, .slice (some ⟨gC2, 0, none⟩) 1 kC2] 59)) w8.heap.size = some (.cells #[.int .i64 2, .int .i64 1, .slice oS2 2 kS2, .slice (some ⟨gC2, 0, none⟩) 1 kC2] 59) := zqj _ _ _ rfl;replace ft := zqb hb ft;replace fp := zqb hb fp;replace HR := hid1 (HR.out.later hb);replace HS1 := hid1 (HS1.out.later hb);replace HC1 := hid1 (HC1.out.later hb);replace HS2 := hid1 (HS2.out.later hb);replace HC2 := hid1 (HC2.out.later hb);replace lft := zqa ft;replace lfp := zqa fp;replace hG := Grew.trans hG hb;clear hb;generalize w8.alloc (.cells #[.int .i64 2, .int .i64 1, .slice oS2 2 kS2, .slice (some ⟨gC2, 0, none⟩) 1 kC2] 59) = w9 at *;generalize w8.heap.size = gq at *;have lfq := zqa fq;clear HR;go_wp2_with fail
 refine zqga (fun k => k == 2 || k == 3) (fun k => match k with | 2 => fun u => KkS 1 u | 3 => fun u => PcS u | _ => fun _ => True) (fun k => match k with | 2 => fun u w => KkAt 1 (fun _ => q3) u w | 3 => fun u w => PcAt (fun _ => q3) u w | _ => fun _ _ => True) (fun k => match k with | 2 => .slice (some ⟨0, 0, none⟩) 1 0 | 3 => .tuple #[.agg #[.int .i64 2, .int .i64 0, .slice none 2 0, .slice (some ⟨0, 0, none⟩) 1 0], .bool true] | _ => undef) (fun i hi => ?_) zqc zqc ?_
 ·simp only [Bool.or_eq_true, beq_iff_eq] at hi
  rcases hi with rfl | rfl
  ·exact ⟨0, 0, rfl⟩
  ·exact ⟨none, 0, 0, 0, rfl⟩
 iterate 2 (first | refine zq0 rfl ?_ | (refine zqr rfl ?_; apply Exists.intro))
 refine zqr rfl ⟨undef, ?_⟩;refine zqr rfl ⟨undef, ?_⟩
 iterate 6 (first | refine zq0 rfl ?_ | (refine zqr rfl ?_; apply Exists.intro))
 refine zqbl ?_
 intro γ gv hsv hinj hbase;obtain ⟨g3, k3, e3⟩ := hsv 2 rfl;obtain ⟨oR, kR, gR, cR, e4⟩ := hsv 3 rfl
 (repeat (first | (refine zqab rfl ?_; ((first | go_big_quiet_skip | (go_big_quiet_want; go_big_quiet_op; go_big_quiet_on)); refine wpQuiet_nil ?_)) | ((first | refine zqq rfl (fun _ => rfl) ?_); ((first | go_big_quiet_skip | (go_big_quiet_want; go_big_quiet_op; go_big_quiet_on)); refine wpQuiet_nil ?_)) | refine zqp rfl (fun _ => rfl) ?_))
 refine zqbs #[.agg #[.int .i64 2, .int .i64 1, .slice oS2 2 kS2, .slice (some ⟨gC2, 0, none⟩) 1 kC2]] (enters_of Tryz.func36 zqc rfl) rfl e3 rfl rfl rfl rfl (zqbk (zqn9 _ _ _)) (by first | kernel_rfl | simp [go_sem]) ?_ ?_
 ·intro W hC hF
  obtain ⟨mm, rfl⟩ := hC;refine (cPub _ _ _ _ _ (HS2.out.later (zqn _ mm))).mono ?_
  rintro e w9 ⟨g9, c9, rfl, h1, hb9⟩;exact ⟨_, rfl, ⟨g9, c9, rfl⟩, fun g8 c8 e8 => by cases e8; exact h1, hb9⟩
 ((first | go_big_quiet_skip | (go_big_quiet_want; go_big_quiet_op; go_big_quiet_on)); refine wpQuiet_nil ?_)
 (repeat (first | (refine zqab rfl ?_; ((first | go_big_quiet_skip | (go_big_quiet_want; go_big_quiet_op; go_big_quiet_on)); refine wpQuiet_nil ?_)) | ((first | refine zqq rfl (fun _ => rfl) ?_); ((first | go_big_quiet_skip | (go_big_quiet_want; go_big_quiet_op; go_big_quiet_on)); refine wpQuiet_nil ?_)) | refine zqp rfl (fun _ => rfl) ?_))
 refine zqbs #[.agg #[.int .i64 2, .int .i64 0, .slice oS1 2 kS1, .slice (some ⟨gC1, 0, none⟩) 1 kC1], .int .i64 1, .slice (some ⟨g3, 0, none⟩) 1 k3] (enters_of Tryz.func33 zqc rfl) rfl e4 rfl rfl rfl rfl (zqdm (zqm1 _ _) (zqn9 _ _ _) rfl rfl (zqbk (zqm1 _ _))) (by first | kernel_rfl | simp [go_sem]) ?_ ?_
 ·intro W hC hF
  obtain ⟨mm, rfl⟩ := hC;have hE0 : KkAt 1 (fun _ => q3) (.slice (some ⟨g3, 0, none⟩) 1 k3) (more w9 mm) := known hF (List.mem_cons_self ..) (by decide +kernel);refine (cTk _ _ _ _ _ _ _ (HS1.out.later (zqn _ mm)) (HC1.out.k32.later (zqn _ mm)) (Row32.k32 (hE0 g3 k3 rfl)) (hTT.out.later (Grew.more hG mm))).mono ?_
  rintro e w9 ⟨a9, b9, c9, d9, rfl, h1, hb9⟩;exact ⟨_, rfl, ⟨a9, b9, c9, d9, rfl⟩, fun a8 b8 c8 d8 e8 => by cases e8; exact h1, hb9⟩
 ((first | go_big_quiet_skip | (go_big_quiet_want; go_big_quiet_op; go_big_quiet_on)); refine wpQuiet_nil ?_)
 (repeat (first | (refine zqab rfl ?_; ((first | go_big_quiet_skip | (go_big_quiet_want; go_big_quiet_op; go_big_quiet_on)); refine wpQuiet_nil ?_)) | ((first | refine zqq rfl (fun _ => rfl) ?_ | ((try simp only [Nat.zero_add, Nat.reduceAdd]); apply zqav _ _ zqo; (focus rfl); (focus (intro W; (first | exact zqa8 _ | exact zqas _ | exact zqa6 _ | exact zqaw _ | exact zqah _ | exact zqag _ | exact zqzw _))); (focus (first | exact zqai _ _ _ | exact zqaq _ _ | rfl)); (focus (exact zqw1)))); ((first | go_big_quiet_skip | (go_big_quiet_want; go_big_quiet_op; go_big_quiet_on)); refine wpQuiet_nil ?_)) | refine zqp rfl (fun _ => rfl) ?_ | ((try simp only [Nat.zero_add, Nat.reduceAdd]); apply zqar (zqaj (hbase _)); (focus rfl); (focus rfl); (focus rfl); (focus (first | exact zqy _ | exact zq3 _ _ | exact zqv _ | rfl)); rotate_left 3; (focus (exact zqcq)); rotate_right 3; (focus kernel_rfl); (focus (first | exact zqh _ _ _ | rfl)); (focus (first | exact zqan _ _ _ | exact zqa3 _ _ _ _ | kernel_rfl)); (focus (decide +kernel)); (focus (exact zqw1)))))
 (refine zqbz ?_; rintro _ ⟨mq, rfl⟩ hF; simp only [List.forall_mem_cons] at hF; obtain ⟨fr, -, f4, -, -⟩ := hF)
 have hb : Below w9.heap.size w9 (more w9 mq) := zqn _ mq;replace ft := zqb hb ft;replace fp := zqb hb fp;replace fq := zqb hb fq;replace HS1 := hid1 (HS1.out.later hb);replace HC1 := hid1 (HC1.out.later hb);replace HS2 := hid1 (HS2.out.later hb);replace HC2 := hid1 (HC2.out.later hb);replace lft := zqa ft;replace lfp := zqa fp;replace lfq := zqa fq;replace hG := Grew.trans hG hb;have HX : Hid (Row32 24 (more w9 mq) gR 1 (fun _ => q3)) := f4 oR kR gR cR rfl;replace fr : zqd (more w9 mq) (γ 7) = some (.cells #[.int .i64 2, .int .i64 0, .slice oR 2 kR, .slice (some ⟨gR, 0, none⟩) 1 cR] 59) := fr;clear f4 hinj hbase hsv e3 e4 hb ft lft fp lfp HS1 HC1 cTk;generalize γ 7 = gr at *;generalize more w9 mq = w60 at *;clear γ gv;have lfr := zqa fr;go_wp2_with fail
 refine zqga (fun k => k == 15 || k == 17 || k == 22) (fun k => match k with | 15 => fun u => KSl 1 u | 17 => fun u => KSl 1 u | 22 => fun u => KSl 1 u | _ => fun _ => True) (fun k => match k with | 15 => fun u w => KAt 1 (fun _ => q3) u w | 17 => fun u w => KAt 1 (fun _ => q3) u w | 22 => fun u w => KAt 1 (fun _ => q3) u w | _ => fun _ _ => True) (fun k => match k with | 15 => .slice none 1 0 | 17 => .slice none 1 0 | 22 => .slice none 1 0 | _ => undef) (fun i hi => ?_) zqc zqc ?_
 ·simp only [Bool.or_eq_true, beq_iff_eq] at hi
  rcases hi with (rfl | rfl) | rfl
  ·exact ⟨none, 0, rfl⟩
  ·exact ⟨none, 0, rfl⟩
  ·exact ⟨none, 0, rfl⟩
 iterate 15 (first | refine zq0 rfl ?_ | (refine zqr rfl ?_; apply Exists.intro))
 refine zqr rfl ⟨undef, ?_⟩
 (first | refine zq0 rfl ?_ | (refine zqr rfl ?_; apply Exists.intro))
 refine zqr rfl ⟨undef, ?_⟩
 iterate 4 (first | refine zq0 rfl ?_ | (refine zqr rfl ?_; apply Exists.intro))
 refine zqr rfl ⟨undef, ?_⟩
 iterate 4 (first | refine zq0 rfl ?_ | (refine zqr rfl ?_; apply Exists.intro))
 refine zqbl ?_
 intro γ gv hsv hinj hbase;obtain ⟨o5, k5, e5⟩ := hsv 15 rfl;obtain ⟨o6, k6, e6⟩ := hsv 17 rfl;obtain ⟨o7, k7, e7⟩ := hsv 22 rfl
 (repeat (first | (refine zqab rfl ?_; ((first | go_big_quiet_skip | (go_big_quiet_want; go_big_quiet_op; go_big_quiet_on)); refine wpQuiet_nil ?_)) | ((first | refine zqq rfl (fun _ => rfl) ?_ | (apply zqaz; (focus rfl); (focus rfl); (focus rfl); (focus (intro W hC hF; (have hbW : Below w60.heap.size w60 W := by obtain ⟨mm, rfl⟩ := hC; exact zqn w60 mm); go_big_quiet_want; go_big_quiet_op; (first | go_big_quiet_on | (apply Exists.intro; refine ⟨fun _ => ?_, ?_⟩; (focus ((with_reducible exact Calls.of_more (aw _ (hTT.out.later (Grew.more (Grew.trans hG hbW) _)))))); go_big_quiet_on)); exact wpQuiet_nil rfl)); (focus (first | exact fun _ => ⟨rfl, rfl⟩ | exact fun h => absurd h (by decide))))); ((first | go_big_quiet_skip | (go_big_quiet_want; go_big_quiet_op; go_big_quiet_on)); refine wpQuiet_nil ?_)) | refine zqp rfl (fun _ => rfl) ?_))
 refine zqbs #[.agg #[.int .i64 2, .int .i64 0, .slice oR 2 kR, .slice (some ⟨gR, 0, none⟩) 1 cR]] (enters_of Tryz.func37 zqc rfl) rfl e5 rfl rfl rfl rfl (zqbk (zqbf _ _ _)) (by first | kernel_rfl | simp [go_sem]) ?_ ?_
 ·intro W hC hF
  obtain ⟨mm, rfl⟩ := hC;refine (cCo _ _ _ _ _ (HX.out.k32.later (zqn _ mm))).mono ?_
  rintro e w9 ⟨oa, cc, rfl, hK, hb9⟩;exact ⟨_, rfl, ⟨oa, cc, rfl⟩, fun oa2 c2 e2 => by cases e2; exact hK, hb9⟩
 ((first | go_big_quiet_skip | (go_big_quiet_want; go_big_quiet_op; go_big_quiet_on)); refine wpQuiet_nil ?_)
 (repeat (first | (refine zqab rfl ?_; ((first | go_big_quiet_skip | (go_big_quiet_want; go_big_quiet_op; go_big_quiet_on)); refine wpQuiet_nil ?_)) | ((first | refine zqq rfl (fun _ => rfl) ?_); ((first | go_big_quiet_skip | (go_big_quiet_want; go_big_quiet_op; go_big_quiet_on)); refine wpQuiet_nil ?_)) | refine zqp rfl (fun _ => rfl) ?_))
 refine zqbs #[.agg #[.int .i64 2, .int .i64 1, .slice oS2 2 kS2, .slice (some ⟨gC2, 0, none⟩) 1 kC2]] (enters_of Tryz.func36 zqc rfl) rfl e6 rfl rfl rfl rfl (zqdm (zqbf _ _ _) (zqbf _ _ _) rfl rfl (zqbk (zqbf _ _ _))) (by first | kernel_rfl | simp [go_sem]) ?_ ?_
 ·intro W hC hF
  obtain ⟨mm, rfl⟩ := hC;refine (cPub _ _ _ _ _ (HS2.out.later (zqn _ mm))).mono ?_
  rintro e w9 ⟨g9, c9, rfl, h1, hb9⟩;exact ⟨_, rfl, ⟨_, c9, rfl⟩, fun g8 c8 e8 => by cases e8; exact h1.k32, hb9⟩
 ((first | go_big_quiet_skip | (go_big_quiet_want; go_big_quiet_op; go_big_quiet_on)); refine wpQuiet_nil ?_)
 (repeat (first | (refine zqab rfl ?_; ((first | go_big_quiet_skip | (go_big_quiet_want; go_big_quiet_op; go_big_quiet_on)); refine wpQuiet_nil ?_)) | ((first | refine zqq rfl (fun _ => rfl) ?_ | (apply zqaz; (focus rfl); (focus rfl); (focus rfl); (focus (intro W hC hF; (have hbW : Below w60.heap.size w60 W := by obtain ⟨mm, rfl⟩ := hC; exact zqn w60 mm); (try (have hE1 : K32At W o5 1 (fun _ => q3) := known hF (List.mem_cons_of_mem _ (List.mem_cons_self ..)) (by decide +kernel) o5 k5 rfl)); (try (have hE2 : K32At W o6 1 (fun _ => q3) := known hF (List.mem_cons_self ..) (by decide +kernel) o6 k6 rfl)); go_big_quiet_want; go_big_quiet_op; (first | go_big_quiet_on | (apply Exists.intro; refine ⟨fun _ => ?_, ?_⟩; (focus ((exact Calls.of_more (zqem _ _ 1 _ _ (fun _ => q3) _ (by decide) (hE1.later (zqn W _)) (hE2.later (zqn W _)))))); go_big_quiet_on)); exact wpQuiet_nil rfl)); (focus (first | exact fun _ => ⟨rfl, rfl⟩ | exact fun h => absurd h (by decide))))); ((first | go_big_quiet_skip | (go_big_quiet_want; go_big_quiet_op; go_big_quiet_on)); refine wpQuiet_nil ?_)) | refine zqp rfl (fun _ => rfl) ?_))
 refine zqbs #[.agg #[.int .i64 2, .int .i64 1, .slice oS2 2 kS2, .slice (some ⟨gC2, 0, none⟩) 1 kC2]] (enters_of Tryz.func36 zqc rfl) rfl e7 rfl rfl rfl rfl (zqdm (zqbf _ _ _) (zqbf _ _ _) rfl rfl (zqdm (zqbf _ _ _) (zqbf _ _ _) rfl rfl (zqbk (zqbf _ _ _)))) (by first | kernel_rfl | simp [go_sem]) ?_ ?_
 ·intro W hC hF
  obtain ⟨mm, rfl⟩ := hC;refine (cPub _ _ _ _ _ (HS2.out.later (zqn _ mm))).mono ?_
  rintro e w9 ⟨g9, c9, rfl, h1, hb9⟩;exact ⟨_, rfl, ⟨_, c9, rfl⟩, fun g8 c8 e8 => by cases e8; exact h1.k32, hb9⟩
 ((first | go_big_quiet_skip | (go_big_quiet_want; go_big_quiet_op; go_big_quiet_on)); refine wpQuiet_nil ?_)
 (repeat (first | (refine zqab rfl ?_; ((first | go_big_quiet_skip | (go_big_quiet_want; go_big_quiet_op; go_big_quiet_on)); refine wpQuiet_nil ?_)) | ((first | refine zqq rfl (fun _ => rfl) ?_ | (apply zqaz; (focus rfl); (focus rfl); (focus rfl); (focus (intro W hC hF; go_big_quiet_want; go_big_quiet_op; (first | go_big_quiet_on | (apply Exists.intro; refine ⟨fun _ => ?_, ?_⟩; (focus (fail)); go_big_quiet_on)); exact wpQuiet_nil rfl)); (focus (first | exact fun _ => ⟨rfl, rfl⟩ | exact fun h => absurd h (by decide))))); ((first | go_big_quiet_skip | (go_big_quiet_want; go_big_quiet_op; go_big_quiet_on)); refine wpQuiet_nil ?_)) | refine zqp rfl (fun _ => rfl) ?_))
 (refine zqbz ?_; rintro _ ⟨mq, rfl⟩ hF; simp only [List.forall_mem_cons] at hF; obtain ⟨-, -⟩ := hF)
 go_wp2;go_ret;exact ⟨rfl, Grew.more hG mq⟩
end Go.Proofs.YtconieddcjpbjaaGreatDoor
namespace Go.Proofs.YtconieddcjpbjaaGreatDoor
open Go.RowKit
theorem zq9x (k p : Nat -> Int) : zqao k (fun _ => p) 1 = upOK k p := zqlh (k := k) (P := fun _ => p) (j := 0) rfl
theorem zrej (k : Nat -> Int) (P : Nat -> Nat -> Int) : zqao k P 1 = upOK k (P 0) := zqlh (k := k) (P := P) (j := 0) rfl
theorem zqw6 (a b : Nat -> Int) : zqgn (fun _ => a) (fun _ => b) 2 0 1 0 = b := by
 obtain ⟨i, k, v, e1, _, _, _, _, _, e7⟩ := zqgy 2 0 1 (by decide) (by decide) (by decide) (by decide);have hl : (zq1 2 0).length = 1 := by rw [zqek]; rfl
 have hi : i < 1 := by have := (List.getElem?_eq_some_iff.1 e1).1; omega
 rw [e7 _ _ 0 (by omega)];unfold updR;rw [if_pos (by omega)]
attribute [local irreducible] zqc4 zqb1 oneF macF shaF strOf keyV shV pubV upF upOK pubF
theorem zqv4 (aw : ∀ W : World, Tabs W -> Calls Tryz.prog 56 #[] W (Rt W (.bool true))) (w : World) (hT : Tabs w) :
  Calls Tryz.prog 27 #[] w (Rt w (.bool true)) := by
 obtain ⟨z1, hz1⟩ : ∃ z, upd zqg 0 1 = z := ⟨_, rfl⟩
 obtain ⟨z2, hz2⟩ : ∃ z, upd zqg 0 2 = z := ⟨_, rfl⟩
 obtain ⟨z3, hz3⟩ : ∃ z, upd zqg 0 3 = z := ⟨_, rfl⟩
 have b1 : Bytes 32 z1 := by rw [<- hz1]; exact zqkg 1 (by decide) (by decide)
 have b2 : Bytes 32 z2 := by rw [<- hz2]; exact zqkg 2 (by decide) (by decide)
 have b3 : Bytes 32 z3 := by rw [<- hz3]; exact zqkg 3 (by decide) (by decide)
 have hL : ∀ i, i < 2 -> Bytes 32 (two z1 z2 i) := fun i hi => by
  unfold two
  split
  ·exact b1
  ·exact b2
 have l0 : (zq1 2 0).length = 1 := by rw [zqek]; rfl
 have l1 : (zq1 2 1).length = 1 := by rw [zqfg]; rfl
 have cC0 := fun (g c : Nat) (W : World) (h : Row64 W g 3 (prF (two z1 z2) 2)) => zqgx (zqev (two z1 z2) 2) (fun i => pubF (zqev (two z1 z2) 2 i)) g 3 c 2 0 W rfl (by decide) (by decide) (by decide) (by decide) h;have cC1 := fun (g c : Nat) (W : World) (h : Row64 W g 3 (prF (two z1 z2) 2)) => zqgx (zqev (two z1 z2) 2) (fun i => pubF (zqev (two z1 z2) 2 i)) g 3 c 2 1 W rfl (by decide) (by decide) (by decide) (by decide) h;rw [show (0 : Int) = ((0 : Nat) : Int) from rfl, show ((2 : Nat) : Int) = ((2 : Nat) : Int) from rfl, zqcg (by decide) (by decide) (by decide)] at cC0;rw [show (1 : Int) = ((1 : Nat) : Int) from rfl, zqcg (by decide) (by decide) (by decide)] at cC1;have e0 := zqxi (two z1 z2);have e1 := zqww (two z1 z2);rw [zqek] at cC0 e0;rw [zqfg] at cC1 e1;have t0 : two z1 z2 0 = z1 := rfl;have t1 : two z1 z2 1 = z2 := rfl
 rw [t1] at e0;rw [t0] at e1;refine zqsp z1 z2 z3 (pubF z1) (pubF z2) (pubF z3) (zqa1 z1 (fun _ => pubF z2)) (zqa1 z3 (fun _ => pubF z1)) (prF (two z1 z2) 2) w hT hz1 hz2 hz3 aw
  (fun ad W h hT => zqtb (two z1 z2) (some ad) 2 3 2 W rfl (by decide) (by decide) hL h hT)
  (fun g c W h => (cC0 g c W h).mono fun e w' ⟨oa, cc, a, hK, hb⟩ => ⟨oa, cc, a, hK.one_eq e0, hb⟩)
  (fun g c W h => (cC1 g c W h).mono fun e w' ⟨oa, cc, a, hK, hb⟩ => ⟨oa, cc, a, hK.one_eq e1, hb⟩)
  (fun o c W h hT => zqhg z1 (fun _ => pubF z2) o 2 0 1 c W (by decide) (by decide) (by decide) l0 b1 (fun _ _ => zqfd _) (by rw [zq9x]; exact zrd2 z1 z2 b1 b2) h hT)
  (fun o c W h hT => zqhg z3 (fun _ => pubF z1) o 2 1 1 c W (by decide) (by decide) (by decide) l1 b3 (fun _ _ => zqfd _) (by rw [zq9x]; exact zrd2 z3 z1 b3 b1) h hT)
  (fun oS oC kS kC W h => (zql6 2 1 oS oC 1 kS kC (zqa1 z3 (fun _ => pubF z1)) W (by decide) (by decide) (fun i _ => zqff z3 _ b3 i) h).mono fun e w' ⟨g, c, a, hR, hb⟩ => ⟨g, c, a, hR.congr fun j hj => by
   obtain rfl : j = 0 := by omega
   rfl, hb⟩)
  (fun oS oC o kS kC c W h1 h2 h3 hT => (zqpa 2 0 1 1 1 kS kC c oS oC o (zqa1 z1 (fun _ => pubF z2)) (fun _ => pubF z2) (fun _ => pubF z3) W hT (by decide) (by decide) (by decide) (by decide) (by decide) l0 l1 b1 (fun _ _ => zqfd _) (fun _ _ => zqfd _) (by
   rw [zrej, zqw6];exact zrd2 z1 z3 b1 b3) h1 h2 h3).mono fun e w' ⟨oS, kS, gC, kC, a, _, hR, hb⟩ => ⟨oS, kS, gC, kC, a, hR.congr fun j hj => by
   obtain rfl : j = 0 := by omega
   exact zqw6 _ _, hb⟩)
  (fun oS oC kS kC W h => zqiq 2 0 oS oC 2 kS 1 kC (fun _ => pubF z3) W (by decide) (by decide) h)
theorem zquo (aw : ∀ W : World, Tabs W -> Calls Tryz.prog 8 #[] W (Rt W (.bool true))) (w : World) (hT : Tabs w) :
  Calls Tryz.prog 56 #[] w (Rt w (.bool true)) := by
 have hG := Grew.refl w
 go_enter Tryz.func56, Tryz.ntmps56
 go_wp2_with fail
 (refine (aw _ hT).mono ?_; rintro e w1 ⟨rfl, hb⟩; replace hG : Below w.heap.size w w1 := Grew.trans (by exact zqf) hb; clear hb)
 go_wp2;go_ret;exact ⟨rfl, by exact zqf⟩
theorem zqqm (rS : zqdv) (rB : zqt8) (aw : ∀ W : World, Tabs W -> Calls Tryz.prog 27 #[] W (Rt W (.bool true))) (n l m : Int) (d cZ dp cP : Nat) (oZ oP : Option Addr) (ka ko : Nat -> Int) (Z P : Nat -> Nat -> Int) (w : World) (hT : Tabs w) (hka : Bytes 32 ka) (hko : Bytes 32 ko) (hZ : ∀ i, i < d -> Bytes 32 (Z i)) (hP : ∀ i, i < dp -> Bytes 32 (P i)) (hl0 : -9223372036854775808 <= l) (hl1 : l <= 9223372036854775807) (hm0 : -9223372036854775808 <= m) (hm1 : m <= 9223372036854775807) (hKZ : K32At w oZ d Z) (hKP : K32At w oP dp P) :
  Calls Tryz.prog 6 #[.int .i64 n, .int .i64 l, .agg (ints .u8 32 ka), .agg (ints .u8 32 ko), .slice oZ d cZ, .int .i64 m, .slice oP dp cP] w (Rt w (.bool true)) := by
 by_cases hd : d <= 6
 case neg =>
  clear hKZ hKP hZ hP;have hTT : Hid (Tabs w) := hT;clear hT;have hd6 : (6 : Int) < (d : Int) := by omega
  have hG := Grew.refl w;have fa : True := trivial;have fb : True := trivial
  go_enter Tryz.func6, Tryz.ntmps6
  go_wp2_with fail;generalize hW : (w.alloc (.cells (ints .u8 32 (ka)) 24)).alloc (.cells (ints .u8 32 (ko)) 24) = w1;replace fa : zqd w1 (w.heap.size) = some (.cells (ints .u8 32 (ka)) 24) := zqk hW;replace fb : zqd w1 (w.heap.size + 1) = some (.cells (ints .u8 32 (ko)) 24) := zqk hW;replace hG : Below w.heap.size w w1 := zq2 hW;clear hW;have lfa := zqa fa;have lfb := zqa fb;go_wp2_with fail;refine (aw _ (hTT.out.later hG)).mono ?_
  rintro e w2 ⟨rfl, hb⟩;replace fa := zqb hb fa;replace fb := zqb hb fb;replace lfa := zqa fa;replace lfb := zqa fb;replace hG := Grew.trans hG hb;clear hb;go_wp2;go_ret;exact ⟨rfl, hG⟩
 by_cases hp : dp <= 6
 case neg =>
  clear hKZ hKP hZ hP;have hTT : Hid (Tabs w) := hT;clear hT;have hd6 : ¬ ((6 : Int) < (d : Int)) := by omega
  have hp6 : (6 : Int) < (dp : Int) := by omega
  have hG := Grew.refl w;have fa : True := trivial;have fb : True := trivial
  go_enter Tryz.func6, Tryz.ntmps6
  go_wp2_with fail;generalize hW : (w.alloc (.cells (ints .u8 32 (ka)) 24)).alloc (.cells (ints .u8 32 (ko)) 24) = w1;replace fa : zqd w1 (w.heap.size) = some (.cells (ints .u8 32 (ka)) 24) := zqk hW;replace fb : zqd w1 (w.heap.size + 1) = some (.cells (ints .u8 32 (ko)) 24) := zqk hW;replace hG : Below w.heap.size w w1 := zq2 hW;clear hW;have lfa := zqa fa;have lfb := zqa fb;go_wp2_with fail;refine (aw _ (hTT.out.later hG)).mono ?_
  rintro e w2 ⟨rfl, hb⟩;replace fa := zqb hb fa;replace fb := zqb hb fb;replace lfa := zqa fa;replace lfb := zqa fb;replace hG := Grew.trans hG hb;clear hb;go_wp2;go_ret;exact ⟨rfl, hG⟩
 have cKz := fun (W : World) (h : Below w.heap.size w W) => zrav oZ d cZ Z W (by omega) (hKZ.later h);have cKp := fun (W : World) (h : Below w.heap.size w W) => zrav oP dp cP P W (by omega) (hKP.later h)
 by_cases hg : 2 <= n /\ n <= 1024 /\ 0 <= l /\ l < n /\ (d : Int) = ((zqef n l).length : Int) - 1
 case neg =>
  refine zqpf n l m d cZ dp cP oZ oP ka ko Z w hT hd hp aw (fun W h hT => zqs4 ka oZ n l d cZ W (fun ⟨a, b, e⟩ => ?_) hl0 hl1) cKz (fun o c W h => zqv8 ka o n l d c W hg) (fun W => zqpg W)
  by_cases hv : 1 <= n /\ n <= 1024 /\ 0 <= l /\ l < n
  ·exact hg ⟨a, b, hv.2.2.1, hv.2.2.2, e⟩
  ·rw [zqmu hv] at e
   simp at e <;> omega
 obtain ⟨g1, g2, g3, g4, g5⟩ := hg;obtain ⟨N, rfl⟩ := Int.eq_ofNat_of_zero_le (show 0 <= n by omega);obtain ⟨J, rfl⟩ := Int.eq_ofNat_of_zero_le g3;have h2 : 2 <= N := by omega
 have hn : N <= 1024 := by omega
 have hJ : J < N := by omega
 have h1 : 1 <= N := by omega
 have hdl : (zq1 N J).length = d := by
  rw [zqck h1 hn hJ, zqa0] at g5
  omega
 have hd0 : 0 < d := by
  rcases Nat.eq_zero_or_pos d with h | h
  ·rw [h] at hdl
   have e1 := zqmv N J;rw [hdl, zqpu N J h1 hJ] at e1;have e2 := congrArg (fun v : Option Nd => (v.map (·.s)).getD 0) e1
   simp at e2
   omega
  ·exact h
 have cNo := fun W : World => zqpg W
 cases hok : zqao ka Z d with
 | false => exact zqpf N J m d cZ dp cP oZ oP ka ko Z w hT hd hp aw (fun W h hT => zqla ka Z oZ N J d cZ W h2 hn hJ hdl hka hZ hok (hKZ.later h) hT) cKz (fun o c W h => zqhw rS ka Z o N J d c W h2 hn hJ hdl hka hZ hok h) cNo
 | true =>
  have TD := fun (k : Nat -> Int) (Z : Nat -> Nat -> Int) (hk : Bytes 32 k) (hZ : ∀ i, i < d -> Bytes 32 (Z i)) (hok : zqao k Z d = true) (oS oC oR : Option Addr) (kS kC kR : Nat) (W : World) (h1 : K32At W oS (d + 1) (zqa1 k Z)) (h2 : K32At W oC d Z) (h3 : K32At W oR d Z) => zqzb rS rB N J d k Z oS oC oR kS kC kR W hd0 (by omega) hk hZ hok h1 h2 h3;refine zqu8 N J m d cZ dp cP oZ oP ka ko Z P (zqa1 ka Z) (zqa1 ko Z) (zqa1 ka (zqgn Z P N J m.toNat)) (zqgn Z P N J m.toNat) w hT hd0 hd hp aw (fun W h hT => zqhg ka Z oZ N J d cZ W h2 hn hJ hdl hka hZ hok (hKZ.later h) hT) cKz (fun o c W h => zqi5 rS ka Z o N J d c W h2 hn hJ hdl hka hZ hok h) (TD ka Z hka hZ hok) ?_ ?_ cKp cNo
  ·cases ho2 : zqao ko Z d with
   | true => exact .inl ⟨fun oS oC kS kC W h hT => zqzq ko N J oS oC (d + 1) kS d kC d (zqa1 ko Z) Z W (fun W' hb => zqhg ko Z oC N J d kC W' h2 hn hJ hdl hko hZ ho2 (h.later hb) (hT.later hb)), fun o c W h => zqi5 rS ko Z o N J d c W h2 hn hJ hdl hko hZ ho2 h, TD ko Z hko hZ ho2⟩
   | false => exact .inr ⟨fun oS oC kS kC W h hT => zqsm ko N J oS oC (d + 1) kS d kC W (fun W' hb => zqla ko Z oC N J d kC W' h2 hn hJ hdl hko hZ ho2 (h.later hb) (hT.later hb)), fun o c W h => zqhw rS ko Z o N J d c W h2 hn hJ hdl hko hZ ho2 h⟩
  ·by_cases hm : 0 <= m /\ m < N /\ m ≠ J /\ (dp : Int) = ((zqef N m).length : Int) - 1
   case neg =>
    exact .inr ⟨fun oS oC kS kC W a b hb hT => zqyp N J m d dp kS kC cP (d + 1) oS oC oP W h2 hn hJ hm0 hm1 hm, fun oR o kR c W a b => zqyl N J m d kR dp c oR o ka W h1 hn hm⟩
   obtain ⟨M, rfl⟩ := Int.eq_ofNat_of_zero_le hm.1;have hM : M < N := by omega
   have hne : M ≠ J := by omega
   have hdm : (zq1 N M).length = dp := by
    have := hm.2.2.2;rw [zqck h1 hn hM, zqa0] at this
    omega
   rw [show ((M : Int)).toNat = M by omega];have hZ3 := fun i hi => zqfk (Z := Z) (P := P) h1 hJ hM hne hdl hdm hZ hP i hi
   cases ho3 : zqao ka (zqgn Z P N J M) d with
   | true => exact .inl ⟨fun oS oC kS kC W a b hb hT => zqpa N J M d dp kS kC cP oS oC oP (zqa1 ka Z) Z P W hT h2 hn hJ hM hne hdl hdm hka hZ hP ho3 a b (hKP.later hb), fun oR o kR c W a b => zq0z rS N J M d dp kR c oR o ka Z P W h2 hn hJ hM hne hdl hdm hka hZ hP ho3 a b, TD ka _ hka hZ3 ho3⟩
   | false => exact .inr ⟨fun oS oC kS kC W a b hb hT => zqwb N J M d dp kS kC cP oS oC oP (zqa1 ka Z) Z P W hT h2 hn hJ hM hne hdl hdm hka hZ hP ho3 a b (hKP.later hb), fun oR o kR c W a b => zqve rS N J M d dp kR c oR o ka Z P W h2 hn hJ hM hne hdl hdm hka hZ hP ho3 a b⟩
end Go.Proofs.YtconieddcjpbjaaGreatDoor
namespace Go.Proofs.YtconieddcjpbjaaGreatDoor
open Go.ChangeShapes Go.WideShapes Go.ChangeAt Go.RowKit
open Go.ChangeMaps (open_string shut_string)
theorem pathMakes_lifted (os : Os) (started : os.Started) (H : Type) (enc : TypeId × Value -> H) :
  ReturnsInHanded {} Tryz.checked os 6 .any (fun w args => (Rows.pathMakesSpec.pre enc Tryz.prog Tryz.f6 [] false w args /\ laidMetH Tryz.prog Rows.pathMakesRow.laid w) /\ sizedMet enc Tryz.prog Tryz.f6 (OpenSpec.ofChange Rows.pathMakesSpec) false w args)
   (Rows.pathMakesSpec.post enc Tryz.prog Tryz.f6 false true false false) := by
 refine returnsInHanded_of_change_and (C := Tryz.checked) (X := fun w _ => laidMetH Tryz.prog Rows.pathMakesRow.laid w) (fun _ _ _ hh h => h.of_heap hh) own started zqc Tryz.func6
  (ChangeSpec.witness_shaped (enc := enc) (C := Tryz.checked) (os := os) (X := fun w _ => laidMetH Tryz.prog Rows.pathMakesRow.laid w) false (World.laidAll Tryz.prog os Rows.pathMakesRow.laid) #[.int .i64 0, .int .i64 0, .agg (Array.replicate 32 (.int .u8 0)), .agg (Array.replicate 32 (.int .u8 0)), .slice none 0 0, .int .i64 0, .slice none 0 0] 8 (World.laidAll_os _ _ _)
   (World.shaped_of_ZipB zqc zqc) zqc zqc zqc
   (by rw [MakeChecks.laidMetH_plain _ _ _ zqc]; exact laidMet_laidAll _ zqc zqc)) ?_
 intro W base args ds gs before hval0 hW _ _ hL _;have hval : ∀ (j : Nat) t v, Tryz.f6.params[j]? = some t -> args[j]? = some v -> Value.okWide Tryz.prog W .any base t v := hval0;have hW' := hW;obtain ⟨p, q, hA0, hV, rfl, hfz, hnd⟩ := hW;have hA : DataW.TrodAll enc Tryz.prog W 0 (fun _ => true) true Tryz.f6.params.toList args.toList ds p := hA0;rw [Tryz.params6] at hA hval;obtain ⟨v0, vs0, d0, ds0, p0, q0, hargs, rfl, rfl, h0, r0⟩ := trodAll_cons hA;obtain ⟨v1, vs1, d1, ds1, p1, q1, rfl, rfl, rfl, h1, r1⟩ := trodAll_cons r0;obtain ⟨v2, vs2, d2, ds2, p2, q2, rfl, rfl, rfl, h2, r2⟩ := trodAll_cons r1;obtain ⟨v3, vs3, d3, ds3, p3, q3, rfl, rfl, rfl, h3, r3⟩ := trodAll_cons r2;obtain ⟨v4, vs4, d4, ds4, p4, q4, rfl, rfl, rfl, h4, r4⟩ := trodAll_cons r3;obtain ⟨v5, vs5, d5, ds5, p5, q5, rfl, rfl, rfl, h5, r5⟩ := trodAll_cons r4
 obtain ⟨v6, vs6, d6, ds6, p6, q6, rfl, rfl, rfl, h6, r6⟩ := trodAll_cons r5;obtain ⟨rfl, rfl, rfl⟩ := trodAll_nil r6;obtain rfl : args = #[v0, v1, v2, v3, v4, v5, v6] := by cases args; simp_all
 obtain ⟨rfl, rfl⟩ := trodVars_none hV;have k0 := h0;have lt0 : ∀ x ∈ p0, x.block < W.heap.size := by obtain ⟨m, hm⟩ := k0; exact DataW.trod_lt m _ _ _ hm
 have k1 := h1;have lt1 : ∀ x ∈ p1, x.block < W.heap.size := by obtain ⟨m, hm⟩ := k1; exact DataW.trod_lt m _ _ _ hm
 have k2 := h2;have lt2 : ∀ x ∈ p2, x.block < W.heap.size := by obtain ⟨m, hm⟩ := k2; exact DataW.trod_lt m _ _ _ hm
 have k3 := h3;have lt3 : ∀ x ∈ p3, x.block < W.heap.size := by obtain ⟨m, hm⟩ := k3; exact DataW.trod_lt m _ _ _ hm
 have k4 := h4;have lt4 : ∀ x ∈ p4, x.block < W.heap.size := by obtain ⟨m, hm⟩ := k4; exact DataW.trod_lt m _ _ _ hm
 have k5 := h5;have lt5 : ∀ x ∈ p5, x.block < W.heap.size := by obtain ⟨m, hm⟩ := k5; exact DataW.trod_lt m _ _ _ hm
 have k6 := h6;have lt6 : ∀ x ∈ p6, x.block < W.heap.size := by obtain ⟨m, hm⟩ := k6; exact DataW.trod_lt m _ _ _ hm
 obtain ⟨a0, rfl, _, _, w0⟩ := open_int Tryz.underlying3 (hval 0 3 v0 rfl rfl) h0;obtain ⟨a1, rfl, _, _, w1⟩ := open_int Tryz.underlying3 (hval 1 3 v1 rfl rfl) h1;obtain ⟨a2, rfl, w2⟩ := zqo0 Tryz.underlying24 Tryz.underlying5 zqc zqc (hval 2 24 v2 rfl rfl) h2;obtain ⟨a3, rfl, w3⟩ := zqo0 Tryz.underlying24 Tryz.underlying5 zqc zqc (hval 3 24 v3 rfl rfl) h3;obtain ⟨oa4, n4, c4, a4, rfl, b4, m4, w4⟩ := zqxc (hval 4 22 v4 rfl rfl) h4;obtain ⟨a5, rfl, _, _, w5⟩ := open_int Tryz.underlying3 (hval 5 3 v5 rfl rfl) h5;obtain ⟨oa6, n6, c6, a6, rfl, b6, m6, w6⟩ := zqxc (hval 6 22 v6 rfl rfl) h6;clear hA0 hval0;have hT := zqtr hL
 refine (zqqm zq75 zrir (fun W h => zqv4 (fun W h => zquo (fun W h => zqup (fun W h => zqv9 aw12 W h) W h) W h) W h) a0 a1 a5 n4 c4 n6 c6 oa4 oa6 a2 a3 a4 a6 W hT (zqn8 w2) (zqn8 w3) m4 m6 (bounds_i64 w1).1 (bounds_i64 w1).2 (bounds_i64 w5).1 (bounds_i64 w5).2 w4 w6).mono fun e W' ⟨he, bel⟩ => ?_
 subst he;exact ⟨_, rfl, _, _, _, [], _, [], hW', trodAll_mk1 (shut_bool Tryz.underlying4 _), (trodAll_cons_mk (Below.trod laidOut zqc (of_decide_eq_true zqc) k0 bel lt0) (trodAll_cons_mk (Below.trod laidOut zqc (of_decide_eq_true zqc) k1 bel lt1) (trodAll_cons_mk (Below.trod laidOut zqc (of_decide_eq_true zqc) k2 bel lt2) (trodAll_cons_mk (Below.trod laidOut zqc (of_decide_eq_true zqc) k3 bel lt3) (trodAll_cons_mk (Below.trod laidOut zqc (of_decide_eq_true zqc) k4 bel lt4) (trodAll_cons_mk (Below.trod laidOut zqc (of_decide_eq_true zqc) k5 bel lt5) (trodAll_cons_mk (Below.trod laidOut zqc (of_decide_eq_true zqc) k6 bel lt6) trodAll_mk0))))))), rfl, bel.frame _, fun h => by cases h⟩
theorem zql8 : joinedFacts Tryz.prog 6 Tryz.f6 (Rows.pathMakesSpec) Rows.pathMakesRow = true := by
 first
 | (unfold joinedFacts; rw [may_enter, make_is, zq8q]; first | (rw [zrk4 6 (by decide)]; kernel_rfl) | kernel_rfl)
 | kernel_rfl
theorem pathMakes_said : Rows.PathMakesSaid :=
 OpenClaim.holds_of_wide 6 Tryz.f6 rfl rfl rfl rfl rfl rfl rfl ⟨rfl, rfl, rfl, rfl, rfl⟩ rfl rfl rfl rfl rfl zqc Tryz.func6 (by first | exact zql8 | kernel_rfl)
  (of_decide_eq_true zqc) (by unfold Func.isWrapper; first | (rw [if_pos (by decide +kernel)]; kernel_rfl) | (rw [if_neg (by decide +kernel)]; exact ⟨rfl, rfl⟩))
  (fun os started H enc _ => pathMakes_lifted os started H enc)
theorem pathMakes_card : Rows.PathMakesCardSaid :=
 Claim7.holds_tied_plain_at .later [] _ _ _ _ pathMakes_said (fun _ h => by cases h) zqc (fun _ h => by cases h) pathMakes_row_tie rfl ⟨rfl, rfl⟩ zqc rfl
  (fun f fn hf hfn => by
   obtain rfl : f = 6 := Option.some.inj ((show Tryz.prog.funcNamed "sapwood/sapwoodlaw14.PathMakes" = some 6 by kernel_rfl).symm.trans hf) |>.symm
   obtain rfl : fn = Tryz.f6 := (Option.some.inj (Tryz.func6.symm.trans hfn)).symm;exact ⟨by kernel_rfl, fun j t ht => by
    rw [Tryz.params6] at ht;have hm : t ∈ [3, 3, 24, 24, 22, 3, 22] := by simpa using Array.mem_of_getElem? ht
    have hall : ([3, 3, 24, 24, 22, 3, 22].all fun u => !Tryz.prog.wantsStandIn u) = true := by kernel_rfl
    exact (show Tryz.prog.wantsStandIn t = false by simpa using List.all_eq_true.1 hall t hm)⟩)
  zqc
end Go.Proofs.YtconieddcjpbjaaGreatDoor
