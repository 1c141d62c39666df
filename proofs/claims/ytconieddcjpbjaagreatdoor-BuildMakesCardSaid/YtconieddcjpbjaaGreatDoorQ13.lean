/- Q13 -/
import Derived.Test.YtconieddcjpbjaaGreatDoorTrk
import Derived.Test.YtconieddcjpbjaaGreatDoorQ11
import Derived.Test.YtconieddcjpbjaaGreatDoorQ12
import Derived.Test.YtconieddcjpbjaaGreatDoorRel
import Derived.Test.YtconieddcjpbjaaGreatDoorM11
set_option maxRecDepth 100000
set_option maxHeartbeats 4000000
namespace Go.Proofs.YtconieddcjpbjaaGreatDoor
open Go.RowKit
set_option linter.unusedVariables false
set_option linter.unusedSimpArgs false
theorem of_pub (k : Nat → Int) (W : World) (hk : Bytes 32 k) : Calls Tryz.prog 41 #[.agg (ints .u8 32 k)] W fun e w' => e = .returned (.agg (ints .u8 64 (keysF k (pubF k)))) ∧ Below W.heap.size W w' := pof_any k W hk
attribute [local irreducible] nodeF zqce oneF macF shaF strOf keyV shV pubV upF upOK pubF
theorem above_any (a b p q : Nat → Int) (w : World) (ha : Bytes 32 a) (hq : Bytes 32 q) (hT : Tabs w) :
  Calls Tryz.prog 43 #[.agg (ints .u8 64 (keysF a p)), .agg (ints .u8 64 (keysF b q))] w fun e w' => e = .returned (.agg (ints .u8 64 (keysF (upF a q) (pubF (upF a q))))) ∧ Below w.heap.size w w' := by
 have hTT : Hid (Tabs w) := hT
 have c1 := fun (W : World) (h : Tabs W) => pup_any a q W ha hq h
 have c2 : ∀ W : World, Calls Tryz.prog 41 #[.agg (ints .u8 32 (upF a q))] W fun e w' => e = .returned (.agg (ints .u8 64 (keysF (upF a q) (pubF (upF a q))))) ∧ Below W.heap.size W w' := fun W => of_pub (upF a q) W (zqhz _ _)
 generalize upF a q = S at *
 generalize pubF S = PS at *
 generalize upOK a q = OK at *
 clear ha hq hT
 have hG := Grew.refl w
 have fl : True := trivial
 have fm : True := trivial
 have fr : True := trivial
 go_enter Tryz.func43, Tryz.ntmps43
 go_wp2_with fail
 replace fl : objAt (((w.alloc (.cells (ints .u8 64 (keysF (a) (p))) 39)).alloc (.cells (ints .u8 64 (keysF (b) (q))) 39)).alloc (.cells (ints .u8 64 (keysF (zqd) (zqd))) 39)) (w.heap.size) = some (.cells (ints .u8 64 (keysF (a) (p))) 39) := by exact zqc
 replace fm : objAt (((w.alloc (.cells (ints .u8 64 (keysF (a) (p))) 39)).alloc (.cells (ints .u8 64 (keysF (b) (q))) 39)).alloc (.cells (ints .u8 64 (keysF (zqd) (zqd))) 39)) (w.heap.size + 1) = some (.cells (ints .u8 64 (keysF (b) (q))) 39) := by exact zqc
 replace fr : objAt (((w.alloc (.cells (ints .u8 64 (keysF (a) (p))) 39)).alloc (.cells (ints .u8 64 (keysF (b) (q))) 39)).alloc (.cells (ints .u8 64 (keysF (zqd) (zqd))) 39)) (w.heap.size + 1 + 1) = some (.cells (ints .u8 64 (keysF (zqd) (zqd))) 39) := by exact zqc
 replace hG : Below w.heap.size w (((w.alloc (.cells (ints .u8 64 (keysF (a) (p))) 39)).alloc (.cells (ints .u8 64 (keysF (b) (q))) 39)).alloc (.cells (ints .u8 64 (keysF (zqd) (zqd))) 39)) := by exact zqe
 generalize ((w.alloc (.cells (ints .u8 64 (keysF (a) (p))) 39)).alloc (.cells (ints .u8 64 (keysF (b) (q))) 39)).alloc (.cells (ints .u8 64 (keysF (zqd) (zqd))) 39) = w1 at *
 have lfl := zqa fl
 have lfm := zqa fm
 have lfr := zqa fr
 go_wp2_with fail
 (refine (c1 _ (hTT.out.later hG)).mono ?_; rintro e w2 ⟨rfl, hb⟩; replace fl : objAt w2 (w.heap.size) = some (.cells (ints .u8 64 (keysF (a) (p))) 39) := zqb hb (by exact zqc); have lfl := zqa fl; replace fm : objAt w2 (w.heap.size + 1) = some (.cells (ints .u8 64 (keysF (b) (q))) 39) := zqb hb (by exact zqc); have lfm := zqa fm; replace fr : objAt w2 (w.heap.size + 1 + 1) = some (.cells (ints .u8 64 (keysF (zqd) (zqd))) 39) := zqb hb (by exact zqc); have lfr := zqa fr; replace hG : Below w.heap.size w w2 := Grew.trans (by exact zqe) hb; clear hb)
 go_wp2_with fail
 have fs : objAt (w2.alloc (.cells (ints .u8 32 (S)) 24)) w2.heap.size = some (.cells (ints .u8 32 (S)) 24) := zqh _ _ _ rfl
 replace fl : objAt (w2.alloc (.cells (ints .u8 32 (S)) 24)) (w.heap.size) = some (.cells (ints .u8 64 (keysF (a) (p))) 39) := zqp _ fl
 replace fm : objAt (w2.alloc (.cells (ints .u8 32 (S)) 24)) (w.heap.size + 1) = some (.cells (ints .u8 64 (keysF (b) (q))) 39) := zqp _ fm
 replace fr : objAt (w2.alloc (.cells (ints .u8 32 (S)) 24)) (w.heap.size + 1 + 1) = some (.cells (ints .u8 64 (keysF (zqd) (zqd))) 39) := zqp _ fr
 replace hG : Below w.heap.size w (w2.alloc (.cells (ints .u8 32 (S)) 24)) := Grew.alloc hG _
 clear lfl lfm lfr
 generalize w2.alloc (.cells (ints .u8 32 (S)) 24) = w3 at *
 generalize w2.heap.size = gs at *
 have lfl := zqa fl
 have lfm := zqa fm
 have lfr := zqa fr
 have lfs := zqa fs
 go_wp2_with fail
 (refine (c2 _).mono ?_; rintro e w4 ⟨rfl, hb⟩; replace fl : objAt w4 (w.heap.size) = some (.cells (ints .u8 64 (keysF (a) (p))) 39) := zqb hb (by exact zqc); have lfl := zqa fl; replace fm : objAt w4 (w.heap.size + 1) = some (.cells (ints .u8 64 (keysF (b) (q))) 39) := zqb hb (by exact zqc); have lfm := zqa fm; replace fr : objAt w4 (w.heap.size + 1 + 1) = some (.cells (ints .u8 64 (keysF (zqd) (zqd))) 39) := zqb hb (by exact zqc); have lfr := zqa fr; replace fs : objAt w4 (gs) = some (.cells (ints .u8 32 (S)) 24) := zqb hb (by exact zqc); have lfs := zqa fs; replace hG : Below w.heap.size w w4 := Grew.trans (by exact zqe) hb; clear hb)
 go_wp2
 refine zqai rfl _ 39 _ (0, 0) _ rfl (zqt _ fr) Tryz.underlying39 rfl (by rw [zqf]; kernel_rfl) rfl ⟨rfl, by exact zqe⟩
theorem zqvf (f1 f2 : Nat → Int) (w : World) (h1 : Bytes 64 f1) (h2 : Bytes 64 f2) (hT : Tabs w) :
  Calls Tryz.prog 43 #[.agg (ints .u8 64 f1), .agg (ints .u8 64 f2)] w fun e w' => e = .returned (.agg (ints .u8 64 (keysF (upF f1 (fun k => f2 (k + 32))) (pubF (upF f1 (fun k => f2 (k + 32))))))) ∧ Below w.heap.size w w' := by
 have := above_any f1 f2 (fun k => f1 (k + 32)) (fun k => f2 (k + 32)) w (fun i hi => h1 i (by omega)) (fun i hi => h2 (i + 32) (by omega)) hT
 rw [zqq5, zqq5] at this
 exact this
theorem zqn2 (oa : Option Addr) (m c n : Nat) (w : World) (hm : m + 1 = 2 * n) (hn : n ≤ 1024) :
  Calls Tryz.prog 10 #[.agg #[.slice oa m c]] w fun e w' => e = .returned (.int .i64 n) ∧ Below w.heap.size w w' := by
 have hq : ((m : Int) + 1).tdiv 2 = (n : Int) := by rw [Int.tdiv_eq_ediv_of_nonneg (by omega)]; omega
 have hm2 : (m : Int) ≤ 2048 := by omega
 have hG := Grew.refl w
 have ft : True := trivial
 go_enter Tryz.func10, Tryz.ntmps10
 go_wp2_with fail
 replace ft : objAt (w.alloc (.cells #[.slice oa m c] 30)) (w.heap.size) = some (.cells #[.slice oa m c] 30) := by exact zqc
 replace hG : Below w.heap.size w (w.alloc (.cells #[.slice oa m c] 30)) := by exact zqe
 generalize w.alloc (.cells #[.slice oa m c] 30) = w1 at *
 have lft := zqa ft
 go_wp2
 go_ret
 exact ⟨by first | rfl | rw [hq] | simp [hq], hG⟩
theorem zqtc (c : Nat) (w : World) :
  Calls Tryz.prog 10 #[.agg #[.slice none 0 c]] w fun e w' => e = .returned (.int .i64 0) ∧ Below w.heap.size w w' := by
 have hG := Grew.refl w
 have ft : True := trivial
 go_enter Tryz.func10, Tryz.ntmps10
 go_wp2_with fail
 replace ft : objAt (w.alloc (.cells #[.slice none 0 c] 30)) (w.heap.size) = some (.cells #[.slice none 0 c] 30) := by exact zqc
 replace hG : Below w.heap.size w (w.alloc (.cells #[.slice none 0 c] 30)) := by exact zqe
 generalize w.alloc (.cells #[.slice none 0 c] 30) = w1 at *
 have lft := zqa ft
 go_wp2
 go_ret
 exact ⟨rfl, hG⟩
theorem zqfl (S P : Nat → Nat → Int) (g m c : Nat) (w : World) (hm : 0 < m) (hm2 : m ≤ 2048) (hR : Row64 w g m (fun j => keysF (S j) (P j))) :
  Calls Tryz.prog 11 #[.agg #[.slice (some ⟨g, 0, none⟩) m c]] w fun e w' => e = .returned (.agg (ints .u8 32 (S 0))) ∧ Below w.heap.size w w' := by
 have HR : Hid (Row64 w g m (fun j => keysF (S j) (P j))) := hR
 clear hR
 have hG := Grew.refl w
 have ft : True := trivial
 have fr : True := trivial
 go_enter Tryz.func11, Tryz.ntmps11
 go_wp2_with fail
 replace ft : objAt ((w.alloc (.cells #[.slice (some ⟨g, 0, none⟩) m c] 30)).alloc (.cells (ints .u8 32 (zqd)) 24)) (w.heap.size) = some (.cells #[.slice (some ⟨g, 0, none⟩) m c] 30) := by exact zqc
 replace fr : objAt ((w.alloc (.cells #[.slice (some ⟨g, 0, none⟩) m c] 30)).alloc (.cells (ints .u8 32 (zqd)) 24)) (w.heap.size + 1) = some (.cells (ints .u8 32 (zqd)) 24) := by exact zqc
 replace hG : Below w.heap.size w ((w.alloc (.cells #[.slice (some ⟨g, 0, none⟩) m c] 30)).alloc (.cells (ints .u8 32 (zqd)) 24)) := by exact zqe
 generalize (w.alloc (.cells #[.slice (some ⟨g, 0, none⟩) m c] 30)).alloc (.cells (ints .u8 32 (zqd)) 24) = w1 at *
 have lft := zqa ft
 have lfr := zqa fr
 have l1 := (HR.out.later hG).loadS hm
 rw [Nat.zero_mul] at l1
 replace l1 := loadOf_key l1
 have hm3 : ¬ ((m : Int) = 0) := by omega
 have hm4 : (0 : Int) < (m : Int) := by omega
 go_wp2_with fail
 rw [l1]
 go_wp2
 refine zqai rfl _ 24 (ints .u8 32 (S 0)) (0, 0) _ rfl (by exact zqc) Tryz.underlying24 rfl (by rw [zqf]; kernel_rfl) rfl ⟨rfl, by exact zqe⟩
def RetK32C (w : World) (n : Nat) (F : Nat → Nat → Int) (e : Ending) (w' : World) : Prop := ∃ oa c, e = .returned (.slice oa n c) ∧ n ≤ c ∧ K32At w' oa n F ∧ Below w.heap.size w w'
theorem RetK32C.ret {w : World} {n : Nat} {F : Nat → Nat → Int} {e : Ending} {w' : World} (h : RetK32C w n F e w') : zqde w n F e w' := by
 obtain ⟨oa, c, a, _, b⟩ := h
 exact ⟨oa, c, a, b⟩
theorem zqh2 (S P : Nat → Nat → Int) (g m c : Nat) (w : World) (hm2 : m ≤ 2048) (hR : Row64 w g m (fun j => keysF (S j) (P j))) :
  Calls Tryz.prog 12 #[.agg #[.slice (some ⟨g, 0, none⟩) m c]] w (RetK32C w (m - 1) (fun i => P (i + 1))) := by
 have HR : Hid (Row64 w g m (fun j => keysF (S j) (P j))) := hR
 clear hR
 have hG := Grew.refl w
 have ft : True := trivial
 go_enter Tryz.func12, Tryz.ntmps12
 go_wp2_with fail
 replace ft : objAt (w.alloc (.cells #[.slice (some ⟨g, 0, none⟩) m c] 30)) (w.heap.size) = some (.cells #[.slice (some ⟨g, 0, none⟩) m c] 30) := by exact zqc
 replace hG : Below w.heap.size w (w.alloc (.cells #[.slice (some ⟨g, 0, none⟩) m c] 30)) := by exact zqe
 generalize w.alloc (.cells #[.slice (some ⟨g, 0, none⟩) m c] 30) = w1 at *
 have lft := zqa ft
 go_wp2_with fail
 go_loopw [9, 3, 4, 5] (fun i v _ _ wr => ∃ (j : Nat) (v0 : Value), v0 = v ∧ j ≤ m ∧ i = .int .i64 j ∧ Below w.heap.size w wr ∧ Hid (wr.ownsRow w.heap.size 24 32 v0 (j - 1) (k32L (fun i => P (i + 1)) (j - 1)))) (fun i _ _ _ _ => m - (intOf i).toNat)
 case atStart => exact ⟨0, _, rfl, by omega, rfl, hG, World.ownsRow_nil _ _ _ _⟩
 case round =>
  clear hG ft lft
  obtain ⟨j, v0, rfl, hj, rfl, hM, OWN⟩ := hrel
  by_cases hlt : j < m
  ·have l1 := (HR.out.later hM).load hlt
   have hi1 : (j : Int) < (m : Int) := by omega
   have hi0 : (0 : Int) ≤ (j : Int) := by omega
   have hsz := hM.size
   cases j with
   | zero =>
    have l2 := loadOf_kp (by rw [Nat.zero_mul] at l1; exact l1)
    clear l1
    go_wp2
    go_roundw
    case rel => exact ⟨1, _, rfl, by omega, by go_num, Grew.alloc hM _, OWN.out.alloc _⟩
    case measure => (simp [intOf] <;> omega)
   | succ q =>
    have hq0 : (0 : Int) < (q : Int) + 1 := by omega
    have OWN' : Hid (wr.ownsRow w.heap.size 24 32 v0 q (k32L (fun i => P (i + 1)) q)) := OWN.out
    clear OWN
    obtain ⟨g3, c3, w3, hr3, own3, hb3, -⟩ := zqwc w ((wr.alloc (.cells (ints .u8 64 (keysF (S (q + 1)) (P (q + 1)))) 39)).alloc (.cells (ints .u8 32 (P (q + 1))) 24)) w.heap.size v0 q (fun i => P (i + 1)) (wr.alloc (.cells (ints .u8 64 (keysF (S (q + 1)) (P (q + 1)))) 39)).heap.size _ _ (World.ownsRow.alloc (World.ownsRow.alloc OWN'.out _) _) (by omega) (zqh _ _ _ rfl) (Grew.alloc (Grew.alloc hM _) _) (Nat.le_refl _) (by simp; omega)
    have OWN3 : Hid (w3.ownsRow w.heap.size 24 32 (.slice (some ⟨g3, 0, none⟩) (q + 1) c3) (q + 1) (k32L (fun i => P (i + 1)) (q + 1))) := own3
    have hx : (wr.alloc (.cells (ints .u8 64 (keysF (S (q + 1)) (P (q + 1)))) 39)).heap.size = wr.heap.size + 1 := by simp
    rw [hx] at hr3
    clear own3 OWN'
    go_wp2
    go_roundw
    case rel => exact ⟨q + 1 + 1, _, rfl, by omega, by go_num, hb3, OWN3⟩
    case measure => (simp [intOf] <;> omega)
  ·obtain rfl : j = m := by omega
   obtain ⟨oa2, c2, rfl, hc2, hK2⟩ := zqff OWN.out
   have HK2 : Hid (j - 1 ≤ c2 ∧ K32At wr oa2 (j - 1) (fun i => P (i + 1))) := ⟨hc2, hK2⟩
   clear OWN hK2 hc2
   go_wp2
   go_ret
   exact ⟨oa2, c2, rfl, HK2.out.1, HK2.out.2, hM⟩
theorem zqc9 (S P : Nat → Nat → Int) (g m c : Nat) (w : World) (hm2 : m ≤ 2048) (hR : Row64 w g m (fun j => keysF (S j) (P j))) :
  Calls Tryz.prog 12 #[.agg #[.slice (some ⟨g, 0, none⟩) m c]] w (zqde w (m - 1) (fun i => P (i + 1))) := (zqh2 S P g m c w hm2 hR).mono fun _ _ h => h.ret
theorem zqoo (c : Nat) (w : World) :
  Calls Tryz.prog 12 #[.agg #[.slice none 0 c]] w fun e w' => e = .returned (.slice none 0 0) ∧ Below w.heap.size w w' := by
 have hG := Grew.refl w
 have ft : True := trivial
 go_enter Tryz.func12, Tryz.ntmps12
 go_wp2_with fail
 replace ft : objAt (w.alloc (.cells #[.slice none 0 c] 30)) (w.heap.size) = some (.cells #[.slice none 0 c] 30) := by exact zqc
 replace hG : Below w.heap.size w (w.alloc (.cells #[.slice none 0 c] 30)) := by exact zqe
 generalize w.alloc (.cells #[.slice none 0 c] 30) = w1 at *
 have lft := zqa ft
 go_wp2_with fail
 go_loopw [9, 3, 4, 5] (fun i v _ _ wr => i = .int .i64 0 ∧ v = .slice none 0 0 ∧ Below w.heap.size w wr) (fun _ _ _ _ _ => 0)
 case atStart => exact ⟨rfl, rfl, hG⟩
 case round =>
  obtain ⟨rfl, rfl, hM⟩ := hrel
  go_wp2
  go_ret
  exact ⟨rfl, hM⟩
theorem zqwt (c : Nat) (w : World) :
  Calls Tryz.prog 11 #[.agg #[.slice none 0 c]] w fun e w' => e = .returned (.agg (ints .u8 32 zqd)) ∧ Below w.heap.size w w' := by
 have hG := Grew.refl w
 have ft : True := trivial
 have fr : True := trivial
 go_enter Tryz.func11, Tryz.ntmps11
 go_wp2_with fail
 replace ft : objAt ((w.alloc (.cells #[.slice none 0 c] 30)).alloc (.cells (ints .u8 32 (zqd)) 24)) (w.heap.size) = some (.cells #[.slice none 0 c] 30) := by exact zqc
 replace fr : objAt ((w.alloc (.cells #[.slice none 0 c] 30)).alloc (.cells (ints .u8 32 (zqd)) 24)) (w.heap.size + 1) = some (.cells (ints .u8 32 (zqd)) 24) := by exact zqc
 replace hG : Below w.heap.size w ((w.alloc (.cells #[.slice none 0 c] 30)).alloc (.cells (ints .u8 32 (zqd)) 24)) := by exact zqe
 generalize (w.alloc (.cells #[.slice none 0 c] 30)).alloc (.cells (ints .u8 32 (zqd)) 24) = w1 at *
 have lft := zqa ft
 have lfr := zqa fr
 go_wp2
 refine zqai rfl _ 24 (ints .u8 32 zqd) (0, 0) _ rfl (by exact zqc) Tryz.underlying24 rfl (by rw [zqf]; kernel_rfl) rfl ⟨rfl, by exact zqe⟩
theorem idxI_ge (f s : Int) : ∀ (L : List Nd) (k : Nat), idxI f s L k = -1 ∨ ∃ i, i < L.length ∧ idxI f s L k = ((k + i : Nat) : Int)
 | [], k => .inl rfl
 | u :: L, k => by
  rw [idxI]
  split
  ·exact .inr ⟨0, by simp, rfl⟩
  ·rcases idxI_ge f s L (k + 1) with h | ⟨i, hi, h⟩
   ·exact .inl h
   ·exact .inr ⟨i + 1, by simp; omega, by rw [h]; congr 1; omega⟩
theorem bPair_any (S P : Nat → Nat → Int) (g m c n : Nat) (f s : Int) (w : World) (hm : m + 1 = 2 * n) (h1 : 1 ≤ n) (hn : n ≤ 1024) (hf0 : -9223372036854775808 ≤ f) (hf1 : f ≤ 9223372036854775807) (hR : Row64 w g m (fun j => keysF (S j) (P j))) :
  Calls Tryz.prog 14 #[.agg #[.slice (some ⟨g, 0, none⟩) m c], .agg #[.int .i64 f, .int .i64 s]] w fun e w' => e = .returned (.tuple #[.agg (ints .u8 64 (if 0 ≤ idxI f s (allN n) 0 then keysF (S (idxI f s (allN n) 0).toNat) (P (idxI f s (allN n) 0).toNat) else keysF zqd zqd)), .bool (decide (0 ≤ idxI f s (allN n) 0))]) ∧ Below w.heap.size w w' := by
 have HR : Hid (Row64 w g m (fun j => keysF (S j) (P j))) := hR
 have c1 := fun W : World => zqn2 (some ⟨g, 0, none⟩) m c n W hm hn
 have c2 := fun W : World => zqn9 n f s W hf0 hf1
 have hlen := zqav 0 n h1
 have hge := idxI_ge f s (allN n) 0
 rw [zqec h1 hn] at c2 hge ⊢
 clear hR
 generalize hI : idxI f s (zq5 0 n) 0 = I at *
 clear hI
 have hm2 : m ≤ 2048 := by omega
 rw [hlen] at hge
 have hge' : I = -1 ∨ ∃ i : Nat, i < m ∧ I = (i : Int) := by
  rcases hge with h | ⟨i, h, h'⟩
  ·exact .inl h
  ·exact .inr ⟨i, by omega, by rw [h']; congr 1; omega⟩
 clear hge hlen
 rcases hge' with rfl | ⟨i, hi, rfl⟩
 ·rw [if_neg (by decide), decide_eq_false (by decide)]
  have hG := Grew.refl w
  have ft : True := trivial
  have fv : True := trivial
  have fr : True := trivial
  go_enter Tryz.func14, Tryz.ntmps14
  go_wp2_with fail
  replace ft : objAt (((w.alloc (.cells #[.slice (some ⟨g, 0, none⟩) m c] 30)).alloc (.cells #[.int .i64 f, .int .i64 s] 26)).alloc (.cells (ints .u8 64 (keysF (zqd) (zqd))) 39)) (w.heap.size) = some (.cells #[.slice (some ⟨g, 0, none⟩) m c] 30) := by exact zqc
  replace fv : objAt (((w.alloc (.cells #[.slice (some ⟨g, 0, none⟩) m c] 30)).alloc (.cells #[.int .i64 f, .int .i64 s] 26)).alloc (.cells (ints .u8 64 (keysF (zqd) (zqd))) 39)) (w.heap.size + 1) = some (.cells #[.int .i64 f, .int .i64 s] 26) := by exact zqc
  replace fr : objAt (((w.alloc (.cells #[.slice (some ⟨g, 0, none⟩) m c] 30)).alloc (.cells #[.int .i64 f, .int .i64 s] 26)).alloc (.cells (ints .u8 64 (keysF (zqd) (zqd))) 39)) (w.heap.size + 1 + 1) = some (.cells (ints .u8 64 (keysF (zqd) (zqd))) 39) := by exact zqc
  replace hG : Below w.heap.size w (((w.alloc (.cells #[.slice (some ⟨g, 0, none⟩) m c] 30)).alloc (.cells #[.int .i64 f, .int .i64 s] 26)).alloc (.cells (ints .u8 64 (keysF (zqd) (zqd))) 39)) := by exact zqe
  generalize ((w.alloc (.cells #[.slice (some ⟨g, 0, none⟩) m c] 30)).alloc (.cells #[.int .i64 f, .int .i64 s] 26)).alloc (.cells (ints .u8 64 (keysF (zqd) (zqd))) 39) = w1 at *
  have lft := zqa ft
  have lfv := zqa fv
  have lfr := zqa fr
  go_wp2_with fail
  ((first | (with_reducible refine zqw (by kernel_rfl) (by kernel_rfl) ?_) | refine zqs (by kernel_rfl) (by kernel_rfl) ?_); (repeat (first | go_big_quiet_skip | (go_big_quiet_want; go_big_quiet_op; first | go_big_quiet_on | (apply Exists.intro; refine ⟨fun _ => ?_, ?_⟩; (focus (first | (with_reducible exact Calls.of_more (c1 _)) | (with_reducible exact Calls.of_more (c2 _)))); go_big_quiet_on)))); refine wpQuiet_nil ?_; rintro _ ⟨mq, rfl⟩)
  replace ft : objAt (more w1 mq) (w.heap.size) = some (.cells #[.slice (some ⟨g, 0, none⟩) m c] 30) := zqk _ ft
  clear lft
  replace fv : objAt (more w1 mq) (w.heap.size + 1) = some (.cells #[.int .i64 f, .int .i64 s] 26) := zqk _ fv
  clear lfv
  replace fr : objAt (more w1 mq) (w.heap.size + 1 + 1) = some (.cells (ints .u8 64 (keysF (zqd) (zqd))) 39) := zqk _ fr
  clear lfr
  replace hG : Below w.heap.size w (more w1 mq) := Grew.more hG _
  generalize more w1 mq = w2 at *
  have lft := zqa ft
  have lfv := zqa fv
  have lfr := zqa fr
  go_wp2
  refine zqa6 rfl _ 39 (ints .u8 64 (keysF zqd zqd)) (0, 0) _ _ rfl rfl (by exact zqc) Tryz.underlying39 rfl (by rw [zqf]; kernel_rfl) rfl ⟨rfl, by exact zqe⟩
 ·rw [if_pos (by omega), decide_eq_true (by omega), show ((i : Int)).toNat = i by omega]
  have hG := Grew.refl w
  have ft : True := trivial
  have fv : True := trivial
  have fr : True := trivial
  go_enter Tryz.func14, Tryz.ntmps14
  go_wp2_with fail
  replace ft : objAt (((w.alloc (.cells #[.slice (some ⟨g, 0, none⟩) m c] 30)).alloc (.cells #[.int .i64 f, .int .i64 s] 26)).alloc (.cells (ints .u8 64 (keysF (zqd) (zqd))) 39)) (w.heap.size) = some (.cells #[.slice (some ⟨g, 0, none⟩) m c] 30) := by exact zqc
  replace fv : objAt (((w.alloc (.cells #[.slice (some ⟨g, 0, none⟩) m c] 30)).alloc (.cells #[.int .i64 f, .int .i64 s] 26)).alloc (.cells (ints .u8 64 (keysF (zqd) (zqd))) 39)) (w.heap.size + 1) = some (.cells #[.int .i64 f, .int .i64 s] 26) := by exact zqc
  replace fr : objAt (((w.alloc (.cells #[.slice (some ⟨g, 0, none⟩) m c] 30)).alloc (.cells #[.int .i64 f, .int .i64 s] 26)).alloc (.cells (ints .u8 64 (keysF (zqd) (zqd))) 39)) (w.heap.size + 1 + 1) = some (.cells (ints .u8 64 (keysF (zqd) (zqd))) 39) := by exact zqc
  replace hG : Below w.heap.size w (((w.alloc (.cells #[.slice (some ⟨g, 0, none⟩) m c] 30)).alloc (.cells #[.int .i64 f, .int .i64 s] 26)).alloc (.cells (ints .u8 64 (keysF (zqd) (zqd))) 39)) := by exact zqe
  generalize ((w.alloc (.cells #[.slice (some ⟨g, 0, none⟩) m c] 30)).alloc (.cells #[.int .i64 f, .int .i64 s] 26)).alloc (.cells (ints .u8 64 (keysF (zqd) (zqd))) 39) = w1 at *
  have lft := zqa ft
  have lfv := zqa fv
  have lfr := zqa fr
  go_wp2_with fail
  ((first | (with_reducible refine zqw (by kernel_rfl) (by kernel_rfl) ?_) | refine zqs (by kernel_rfl) (by kernel_rfl) ?_); (repeat (first | go_big_quiet_skip | (go_big_quiet_want; go_big_quiet_op; first | go_big_quiet_on | (apply Exists.intro; refine ⟨fun _ => ?_, ?_⟩; (focus (first | (with_reducible exact Calls.of_more (c1 _)) | (with_reducible exact Calls.of_more (c2 _)))); go_big_quiet_on)))); refine wpQuiet_nil ?_; rintro _ ⟨mq, rfl⟩)
  replace ft : objAt (more w1 mq) (w.heap.size) = some (.cells #[.slice (some ⟨g, 0, none⟩) m c] 30) := zqk _ ft
  clear lft
  replace fv : objAt (more w1 mq) (w.heap.size + 1) = some (.cells #[.int .i64 f, .int .i64 s] 26) := zqk _ fv
  clear lfv
  replace fr : objAt (more w1 mq) (w.heap.size + 1 + 1) = some (.cells (ints .u8 64 (keysF (zqd) (zqd))) 39) := zqk _ fr
  clear lfr
  replace hG : Below w.heap.size w (more w1 mq) := Grew.more hG _
  have l1 := (HR.out.later hG).load hi
  generalize more w1 mq = w2 at *
  have lft := zqa ft
  have lfv := zqa fv
  have lfr := zqa fr
  have hi1 : (i : Int) < (m : Int) := by omega
  have hi0 : (0 : Int) ≤ (i : Int) := by omega
  cases i with
  | zero =>
   have l2 := loadOf_kp (by rw [Nat.zero_mul] at l1; exact l1)
   clear l1
   go_wp2_with fail
   (try rw [l2])
   (try go_wp2)
   refine zqa6 rfl _ 39 (ints .u8 64 (keysF (S 0) (P 0))) (0, 0) _ _ rfl rfl (by exact zqc) Tryz.underlying39 rfl (by rw [zqf]; kernel_rfl) rfl ⟨rfl, by exact zqe⟩
  | succ i =>
   go_wp2_with fail
   (try rw [l1])
   (try go_wp2)
   refine zqa6 rfl _ 39 (ints .u8 64 (keysF (S (i + 1)) (P (i + 1)))) (0, 0) _ _ rfl rfl (by exact zqc) Tryz.underlying39 rfl (by rw [zqf]; kernel_rfl) rfl ⟨rfl, by exact zqe⟩
end Go.Proofs.YtconieddcjpbjaaGreatDoor
namespace Go.Proofs.YtconieddcjpbjaaGreatDoor
open Go.RowKit
set_option linter.unusedVariables false
set_option linter.unusedSimpArgs false
theorem zqdj {n j : Nat} (h1 : 1 ≤ n) (h2 : n ≤ 1024) (hj : j < n) : zqa7 n j = zqaq n j := by unfold zqa7; rw [if_pos (by omega)]; rfl
theorem zqge {n j : Int} (h : ¬ (1 ≤ n ∧ n ≤ 1024 ∧ 0 ≤ j ∧ j < n)) : zqa7 n j = [] := by unfold zqa7; rw [if_neg h]
theorem zqgu (n : Nat) (j : Int) : (zqa7 n j).length ≤ 10 := by
 by_cases h : 1 ≤ (n : Int) ∧ (n : Int) ≤ 1024 ∧ 0 ≤ j ∧ j < n
 ·obtain ⟨J, rfl⟩ := Int.eq_ofNat_of_zero_le h.2.2.1
  rw [zqdj (by omega) (by omega) (by omega)]
  exact zqd3 n J (by omega)
 ·rw [zqge h]; simp
theorem zqme (n : Nat) (h1 : 1 ≤ n) (hn : n ≤ 1024) (u : Nd) (i : Nat) (hi : (zq5 0 n)[i]? = some u) : i < 2 * n - 1 ∧ idxN u.f u.s (allN n) 0 = (i : Int) ∧ u.f ≤ 1024 ∧ u.s ≤ 1024 := by
 have hl := (List.getElem?_eq_some_iff.1 hi).1
 rw [zqav 0 n h1] at hl
 have hb := zqcw 0 n u (List.mem_of_getElem? hi)
 exact ⟨hl, by rw [zqec h1 hn, idx_at u _ 0 i (zqmc 0 n h1) hi, Nat.zero_add], by omega, by omega⟩
theorem zqld (n : Nat) (j : Int) (h1 : 1 ≤ n) (hn : n ≤ 1024) (k : Nat) (u : Nd) (h : (zqa7 n j)[k]? = some u) : ∃ i, i < 2 * n - 1 ∧ idxN u.f u.s (allN n) 0 = (i : Int) ∧ u.f ≤ 1024 ∧ u.s ≤ 1024 := by
 by_cases hv : 1 ≤ (n : Int) ∧ (n : Int) ≤ 1024 ∧ 0 ≤ j ∧ j < n
 ·obtain ⟨J, rfl⟩ := Int.eq_ofNat_of_zero_le hv.2.2.1
  rw [zqdj h1 hn (by omega)] at h
  obtain ⟨i, _, hi⟩ := zqkc n J h1 (List.mem_of_getElem? h)
  exact ⟨i, zqme n h1 hn u i hi⟩
 ·rw [zqge hv] at h; cases h
def cpF (P : Nat → Nat → Int) (n : Nat) (C : List Nd) : Nat → Nat → Int := fun k => P (idxN (ndAt C k).f (ndAt C k).s (allN n) 0).toNat
theorem cpF_at {P : Nat → Nat → Int} {n k i : Nat} {C : List Nd} {u : Nd} (h : C[k]? = some u) (hi : idxN u.f u.s (allN n) 0 = (i : Int)) : cpF P n C k = P i := by
 unfold cpF
 rw [zqf3 h, hi]
 rfl
theorem zqih (L : Nat → Nat → Int) (n J : Nat) (h1 : 1 ≤ n) (hn : n ≤ 1024) (k : Nat) (hk : k < (zqaq n J).length) : cpF (fun i => pubF (treeF L n i)) n (zqaq n J) k = copF L n J k := by
 obtain ⟨u, hu⟩ : ∃ u, (zqaq n J)[k]? = some u := ⟨_, List.getElem?_eq_getElem hk⟩
 obtain ⟨i, _, hi⟩ := zqkc n J h1 (List.mem_of_getElem? hu)
 rw [cpF_at hu (zqme n h1 hn u i hi).2.1, zqd2 hi]
 unfold copF
 rw [zqf3 hu]
theorem step_key {ops : Array Oper} {o : Oper} {a : Act} {K : Act → World → Prop} {Q : Exit → Act → World → Prop} {E : Prop} (hgd : o.guard = none) (s x : Operand) (ho : o.op = .call { callee := .builtin .append, args := #[s, x], argTypes := #[22, 22] })
  (w W : World) (base : Nat) (v : Value) (n : Nat) (F : Nat → Nat → Int) (g2 : Nat) (t2 : TypeId) (fr : Nat × Nat) (hs : a.eval s = v) (hx : a.eval x = .slice (some ⟨g2, 0, none⟩) 1 1) (own : W.ownsRow base 24 32 v n (k32L F n)) (hn : n ≤ 1048576)
  (hg2 : objAt W g2 = some (.cells (ints .u8 32 (F n)) t2 fr)) (hG : Below w.heap.size w W) (hwb : w.heap.size ≤ base) (hbW : base ≤ W.heap.size)
  (h : ∀ g cap w', w'.ownsRow base 24 32 (.slice (some ⟨g, 0, none⟩) (n + 1) cap) (n + 1) (k32L F (n + 1)) → Below w.heap.size w w' → (∀ m ob, m < base → objAt W m = some ob → objAt w' m = some ob) → K (a.put o.dst (.slice (some ⟨g, 0, none⟩) (n + 1) cap)) w') :
  if Region.wanted o (yielded ops a.tmps) = true then Oper.wp Tryz.prog o a W K Q else E :=
 step_cells (i := (Tryz.prog.info? 24).get (by kernel_rfl)) (z := ((Tryz.prog.info? 24).get (by kernel_rfl)).zero.get (by kernel_rfl)) 32 32 Tryz.underlying22 (by kernel_rfl) (by kernel_rfl) (by kernel_rfl) (by kernel_rfl) (by kernel_rfl) (by decide) (by decide) hgd s x ho w W base v n (k32L F n) (ints .u8 32 (F n)) g2 t2 fr hs hx own hn hg2 (zqf _ _ _)
  (fun u hu => by
   have h1 := zq6 .u8 32 (F n)
   rw [Array.all_eq_true'] at h1
   exact h1 u (by simpa using hu)) hG hwb hbW fun g cap w' ho hb hk _ => h g cap w' (by rw [zqgm]; exact ho) hb hk
attribute [local irreducible] nodeF zqce oneF macF shaF strOf keyV shV pubV upF upOK pubF
theorem zqdi (S P : Nat → Nat → Int) (g m c n : Nat) (j : Int) (w : World) (hm : m + 1 = 2 * n) (h1 : 1 ≤ n) (hn : n ≤ 1024) (hj0 : -9223372036854775808 ≤ j) (hj1 : j ≤ 9223372036854775807) (hR : Row64 w g m (fun j => keysF (S j) (P j))) :
  Calls Tryz.prog 21 #[.agg #[.slice (some ⟨g, 0, none⟩) m c], .int .i64 j] w (zqde w (zqa7 n j).length (cpF P n (zqa7 n j))) := by
 have HR : Hid (Row64 w g m (fun j => keysF (S j) (P j))) := hR
 have c1 := fun W : World => zqn2 (some ⟨g, 0, none⟩) m c n W hm hn
 have c2 := fun W : World => zqsy (n : Int) j W hj0 hj1
 have hcl := zqgu n j
 have hci : Hid (∀ (k : Nat) (u : Nd), (zqa7 n j)[k]? = some u → ∃ i, i < m ∧ idxN u.f u.s (allN n) 0 = (i : Int) ∧ u.f ≤ 1024 ∧ u.s ≤ 1024 ∧ cpF P n (zqa7 n j) k = P i) := fun k u hu => by
  obtain ⟨i, a, b, c, d⟩ := zqld n j h1 hn k u hu
  exact ⟨i, by omega, b, c, d, cpF_at hu b⟩
 have c3 : Hid (∀ (u : Nd) (W : World), u.f ≤ 1024 → u.s ≤ 1024 → Calls Tryz.prog 44 #[.int .i64 (n : Int), .agg #[.int .i64 (u.f : Int), .int .i64 (u.s : Int)]] W fun e w' => e = .returned (.int .i64 (idxN u.f u.s (allN n) 0)) ∧ Below W.heap.size W w') := fun u W a b => zqng n u.f u.s W (by omega) (by omega)
 generalize cpF P n (zqa7 n j) = Z at *
 generalize zqa7 n j = C at *
 clear hR
 have hG := Grew.refl w
 have ft : True := trivial
 go_enter Tryz.func21, Tryz.ntmps21
 go_wp2_with fail
 replace ft : objAt (w.alloc (.cells #[.slice (some ⟨g, 0, none⟩) m c] 30)) (w.heap.size) = some (.cells #[.slice (some ⟨g, 0, none⟩) m c] 30) := by exact zqc
 replace hG : Below w.heap.size w (w.alloc (.cells #[.slice (some ⟨g, 0, none⟩) m c] 30)) := by exact zqe
 generalize w.alloc (.cells #[.slice (some ⟨g, 0, none⟩) m c] 30) = w1 at *
 have lft := zqa ft
 go_wp2_with fail
 (refine (c1 _).mono ?_; rintro e w2 ⟨rfl, hb⟩; replace ft : objAt w2 (w.heap.size) = some (.cells #[.slice (some ⟨g, 0, none⟩) m c] 30) := zqb hb (by exact zqc); have lft := zqa ft; replace hG : Below w.heap.size w w2 := Grew.trans (by exact zqe) hb; clear hb)
 go_wp2_with fail
 refine (c2 _).mono ?_
 rintro e w3 ⟨oC, kC, rfl, hC, hb3⟩
 replace ft := zqb hb3 ft
 replace hG : Below w.heap.size w w3 := Grew.trans hG hb3
 have HC : Hid (NdsAt w3 oC C) := hC
 clear hC hb3 c2 lft
 have lft := zqa ft
 go_wp2_with fail
 go_loopw [13, 5, 7] (fun i v _ wr => ∃ (k : Nat) (v0 : Value), v0 = v ∧ k ≤ C.length ∧ i = .int .i64 k ∧ Below w3.heap.size w3 wr ∧ Hid (wr.ownsRow w3.heap.size 24 32 v0 k (k32L Z k))) (fun i _ _ _ => C.length - (intOf i).toNat)
 case atStart => exact ⟨0, _, rfl, by omega, rfl, Grew.refl _, World.ownsRow_nil _ _ _ _⟩
 case round =>
  clear lft
  obtain ⟨k, v0, rfl, hk, rfl, hM3, OWN⟩ := hrel
  replace ft := zqb hM3 ft
  have hGr : Below w.heap.size w wr := Grew.trans hG hM3
  have lft := zqa ft
  by_cases hlt : k < C.length
  ·obtain ⟨u, hu⟩ : ∃ u, C[k]? = some u := ⟨_, List.getElem?_eq_getElem hlt⟩
   obtain ⟨i, hi, hidx, hu1, hu2, hZ⟩ := hci.out k u hu
   have cI := fun W : World => c3.out u W hu1 hu2
   rw [hidx] at cI
   have hcell : ∃ gC o, oC = some ⟨gC, o, none⟩ ∧ gC < wr.heap.size ∧ cellOf (objAt wr gC) (o + k * 2) = some (.int .i64 u.f) ∧ cellOf (objAt wr gC) (o + k * 2 + 1) = some (.int .i64 u.s) := by
    rcases HC.out.later hM3 with h0 | ⟨g', o', e, hg', hl⟩
    ·subst h0; simp at hlt
    ·obtain ⟨l1, l2⟩ := hl k u hu
     rw [Nat.mul_comm] at l1 l2
     exact ⟨g', o', e, hg', l1, l2⟩
   obtain ⟨gC, oo, rfl, hgC, l1, l2⟩ := hcell
   have hi1 : (k : Int) < (C.length : Int) := by omega
   have hi0 : (0 : Int) ≤ (k : Int) := by omega
   have hii1 : (i : Int) < (m : Int) := by omega
   have hii0 : (0 : Int) ≤ (i : Int) := by omega
   have hk20 : k ≤ 20 := by omega
   clear c3 hci hu hidx hm hn h1
   go_wp2_with fail
   have fv : objAt (wr.alloc (.cells #[.int .i64 (u.f : Int), .int .i64 (u.s : Int)] 26)) wr.heap.size = some (.cells #[.int .i64 (u.f : Int), .int .i64 (u.s : Int)] 26) := zqh _ _ _ rfl
   have ft4 : objAt (wr.alloc (.cells #[.int .i64 (u.f : Int), .int .i64 (u.s : Int)] 26)) w.heap.size = some (.cells #[.slice (some ⟨g, 0, none⟩) m c] 30) := zqp _ ft
   have hG4 : Below w.heap.size w (wr.alloc (.cells #[.int .i64 (u.f : Int), .int .i64 (u.s : Int)] 26)) := Grew.alloc hGr _
   have hM4 : Below w3.heap.size w3 (wr.alloc (.cells #[.int .i64 (u.f : Int), .int .i64 (u.s : Int)] 26)) := Grew.alloc hM3 _
   have OWN4 : Hid ((wr.alloc (.cells #[.int .i64 (u.f : Int), .int .i64 (u.s : Int)] 26)).ownsRow w3.heap.size 24 32 v0 k (k32L Z k)) := OWN.out.alloc _
   clear ft lft hGr hM3 OWN l1 l2 hgC
   generalize wr.alloc (.cells #[.int .i64 (u.f : Int), .int .i64 (u.s : Int)] 26) = w4 at *
   generalize wr.heap.size = gv at *
   have lft := zqa ft4
   have lfv := zqa fv
   have hl : ∀ q : More, (zq0 24 (.pointer (some ⟨g, i * 64 + 32, none⟩))).run Tryz.prog (more w4 q) = .ok (.value (.agg (ints .u8 32 (P i)))) (more w4 q) := fun q => (HR.out.later (Grew.more hG4 q)).load1 hi
   (refine zqog 11 (by kernel_rfl) (by kernel_rfl) (by kernel_rfl) (by kernel_rfl) (by kernel_rfl) ?_; simp only [List.take_succ_cons, List.take_zero]; (repeat (first | refine zqn rfl ?_ | (refine zql rfl ?_; apply Exists.intro))); refine zqbp ?_; intro γ hinj hbase; (repeat (first | (refine zqab rfl ?_; ((first | go_big_quiet_skip | (go_big_quiet_want; go_big_quiet_op; go_big_quiet_on)); refine wpQuiet_nil ?_)) | ((first | refine zqv rfl (fun _ => rfl) ?_ | ((try simp only [Nat.zero_add, Nat.reduceAdd]); apply zqaw zqi; (focus rfl); (focus (first | exact zqq _ | exact zqr _ _ | exact zqo _ | rfl)); (focus (exact zqm))) | ((try simp only [Nat.zero_add, Nat.reduceAdd]); apply zqac _ _ zqi; (focus rfl); (focus (intro W; (first | exact zqam _ | exact zqag _ | exact zqan _ | exact zqaf _ | exact zq3 _ | exact zq2 _))); (focus (first | exact zq1 _ _ _ | exact zqad _ _ | rfl)); (focus (exact zqm))) | ((try simp only [Nat.zero_add, Nat.reduceAdd]); apply zqah zqi; (focus rfl); (focus (intro W; simp only [List.map_toArray, List.map_cons, List.map_nil]; first | (with_reducible exact zqst _ W) | exact zqst _ W)); (focus (exact zqm))) | (apply zqao; (focus rfl); (focus rfl); (focus rfl); (focus (intro W hC hF; go_big_quiet_want; go_big_quiet_op; (first | go_big_quiet_on | (apply Exists.intro; refine ⟨fun _ => ?_, ?_⟩; (focus (first | (with_reducible exact Calls.of_more (c1 _)) | (with_reducible exact Calls.of_more (cI _)))); go_big_quiet_on)); exact wpQuiet_nil rfl)); (focus (first | exact fun _ => ⟨rfl, rfl⟩ | exact fun h => absurd h (by decide))))); ((first | go_big_quiet_skip | (go_big_quiet_want; go_big_quiet_op; go_big_quiet_on)); refine wpQuiet_nil ?_)) | refine zqu rfl (fun _ => rfl) ?_ | ((try simp only [Nat.zero_add, Nat.reduceAdd]); apply zqae (zq4 (hbase _)); (focus rfl); (focus rfl); (focus rfl); (focus (first | exact zqq _ | exact zqr _ _ | exact zqo _ | rfl)); rotate_left 3; (focus (exact zqbi)); rotate_right 3; (focus kernel_rfl); (focus (first | exact zqf _ _ _ | rfl)); (focus (first | exact zq6 _ _ _ | exact zqaj _ _ _ _ | kernel_rfl)); (focus (decide +kernel)); (focus (exact zqm))))))
   (refine zqkx ?_; rintro _ ⟨mq, rfl⟩ hF; simp only [List.forall_mem_cons] at hF; obtain ⟨hv, -⟩ := hF)
   refine zqaa (i := 11) (fuel := 1) (by kernel_rfl) rfl ?_
   intro K hK
   refine step_key rfl (.tmp 17) (.tmp 27) rfl w3 (more w4 mq) w3.heap.size v0 k Z (γ 10) _ _ rfl rfl (zqbc OWN4.out (zqj w4 mq)) (by omega) (by rw [hZ]; exact hv) (Grew.more hM4 mq) (Nat.le_refl _) (Grew.more hM4 mq).size ?_
   intro g3 c3 w5 own3 hM5 hk3
   have OWN5 : Hid (w5.ownsRow w3.heap.size 24 32 (.slice (some ⟨g3, 0, none⟩) (k + 1) c3) (k + 1) (k32L Z (k + 1))) := own3
   refine hK _ _ ?_
   clear hK K
   (refine zqaa (i := 12) (fuel := 0) (by kernel_rfl) rfl ?_; intro K hK; go_simp; refine hK _ _ ?_; clear hK K)
   (refine wpAny_done (by kernel_rfl) ?_ _)
   go_wp2
   go_roundw
   case rel => exact ⟨k + 1, _, rfl, by omega, by go_num, hM5, OWN5⟩
   case measure => (simp [intOf] <;> omega)
  ·obtain rfl : k = C.length := by omega
   obtain ⟨oa2, c2, rfl, -, hK2⟩ := zqff OWN.out
   have HK2 : Hid (K32At wr oa2 C.length Z) := hK2
   clear OWN hK2
   go_wp2
   go_ret
   exact ⟨oa2, c2, rfl, HK2.out, hGr⟩
end Go.Proofs.YtconieddcjpbjaaGreatDoor
namespace Go.Proofs.YtconieddcjpbjaaGreatDoor
open Go.RowKit
set_option linter.unusedVariables false
set_option linter.unusedSimpArgs false
attribute [local irreducible] nodeF zqce oneF macF shaF strOf keyV shV pubV upF upOK pubF
theorem zqc5 (L : Nat → Nat → Int) (g m c n J : Nat) (s : Nat → Int) (w : World) (hm : m + 1 = 2 * n) (h2 : 2 ≤ n) (hn : n ≤ 1024) (hJ : J < n) (hL : ∀ i, i < n → Bytes 32 (L i)) (hs : Bytes 32 s) (hR : Row64 w g m (prF L n)) (hT : Tabs w) :
  Calls Tryz.prog 23 #[.agg #[.slice (some ⟨g, 0, none⟩) m c], .int .i64 (J : Int), .agg (ints .u8 32 s)] w fun e w' => ∃ g2 c2, e = .returned (.tuple #[.agg #[.slice (some ⟨g2, 0, none⟩) m c2], .bool true]) ∧ Row64 w' g2 m (prF (updL L J s) n) ∧ Below w.heap.size w w' := by
 have HR : Hid (Row64 w g m (prF L n)) := hR
 have hTT : Hid (Tabs w) := hT
 clear hR hT
 have h1 : 1 ≤ n := by omega
 have c1 := fun W : World => zqn2 (some ⟨g, 0, none⟩) m c n W hm hn
 have c2 : ∀ W : World, Calls Tryz.prog 53 #[.int .i64 (n : Int), .int .i64 (J : Int)] W (zqf5 W (pathN n J)) := fun W => by
  have := (zqpu (n : Int) (J : Int) W (by omega) (by omega)).mono (R' := zqf5 W (pathI n J)) fun e w' ⟨oa, c, e1, _, h2, h3⟩ => ⟨oa, c, e1, h2, h3⟩
  rw [zqiq h1 hn hJ] at this
  exact this
 obtain ⟨d, hd⟩ : ∃ d, (zqaq n J).length = d := ⟨_, rfl⟩
 have hPl : (pathN n J).length = d + 1 := by rw [zqhg, hd]
 have hd10 : d ≤ 10 := by rw [← hd]; exact zqd3 n J hn
 obtain ⟨Z, hZ⟩ : ∃ Z, cpF (fun i => pubF (treeF L n i)) n (zqaq n J) = Z := ⟨_, rfl⟩
 have c3 : ∀ W : World, Below w.heap.size w W → Calls Tryz.prog 21 #[.agg #[.slice (some ⟨g, 0, none⟩) m c], .int .i64 (J : Int)] W (zqde W d Z) := fun W hb => by
  have := zqdi (treeF L n) (fun i => pubF (treeF L n i)) g m c n (J : Int) W hm h1 hn (by omega) (by omega) (HR.out.later hb)
  rw [zqdj h1 hn hJ, hd, hZ] at this
  exact this
 have hZt : ∀ i, i < d → Z i = copF (updL L J s) n J i := fun i hi => by
  rw [← hZ, zqih L n J h1 hn i (by omega), copF_own L n J s h1 hJ i (by omega)]
 have hct := zqjx (updL L J s) n J (zqfb hL hs) h1 hJ
 rw [updL_at] at hct
 obtain ⟨X, hX⟩ : ∃ X, zqci s Z = X := ⟨_, rfl⟩
 have hok : zqbu s Z d = true := by
  rw [(zqfy d hZt).2]
  exact (hct d (by omega)).1
 have hXb : ∀ k, Bytes 32 (X k) := fun k => by rw [← hX]; exact zqls s Z hs k
 have hXv : Hid (∀ k u, (pathN n J)[k]? = some u → keysF (X k) (pubF (X k)) = prN (updL L J s) u) := fun k u hu => by
  have hk : k ≤ d := by have := (List.getElem?_eq_some_iff.1 hu).1; omega
  have := (hct k (by omega)).2 u hu
  rw [← (zqfy k fun i hi => hZt i (by omega)).1, hX] at this
  rw [this]; rfl
 have hZb : ∀ i, i < d → Bytes 32 (Z i) := fun i hi => by rw [hZt i hi]; exact zqnd _ _ _ _
 have c4 : ∀ (oa : Option Addr) (cc : Nat) (W : World), K32At W oa d Z → Tabs W → Calls Tryz.prog 26 #[.agg (ints .u8 32 s), .slice oa d cc] W fun e w' => ∃ oa c, e = .returned (.tuple #[.slice oa (d + 1) c, .bool true]) ∧ d + 1 ≤ c ∧ K32At w' oa (d + 1) X ∧ Below W.heap.size W w' := fun oa cc W hK h => by
  rw [← hX]
  exact zqkw (zqg5 s Z oa d cc W hs (by omega) hZb hK h) hok
 have c5 : Hid (∀ k u, (pathN n J)[k]? = some u → ∃ i, i < m ∧ (zq5 0 n)[i]? = some u ∧ ∀ W : World, Calls Tryz.prog 44 #[.int .i64 (n : Int), .agg #[.int .i64 (u.f : Int), .int .i64 (u.s : Int)]] W fun e w' => e = .returned (.int .i64 (i : Int)) ∧ Below W.heap.size W w') := fun k u hu => by
  obtain ⟨i, hi, hb⟩ := zqx4 n J h1 (List.mem_of_getElem? hu)
  obtain ⟨a1, a2, a3, a4⟩ := zqme n h1 hn u i hb
  refine ⟨i, by omega, hb, fun W => ?_⟩
  have := zqng (n : Int) u.f u.s W (by omega) (by omega)
  rw [a2] at this
  exact this
 have c6 : ∀ (k : Nat) (W : World), Calls Tryz.prog 41 #[.agg (ints .u8 32 (X k))] W fun e w' => e = .returned (.agg (ints .u8 64 (keysF (X k) (pubF (X k))))) ∧ Below W.heap.size W w' := fun k W => of_pub (X k) W (hXb k)
 have hrep0 : Hid (repOK L (updL L J s) n J 0 (prF L n)) := rep_zero _ _ _ _
 have hrepN : Hid (∀ k i0 G v0, repOK L (updL L J s) n J k G → (pathN n J)[k]? = some v0 → (zq5 0 n)[i0]? = some v0 → repOK L (updL L J s) n J (k + 1) (updR G i0 (prN (updL L J s) v0))) := fun k i0 G v0 a b c => rep_next h1 a b c
 have hrepE : Hid (∀ G, repOK L (updL L J s) n J (d + 1) G → ∀ i, i < m → G i = prF (updL L J s) n i) := fun G h i hi => rep_end h1 hJ (by rw [hPl]; exact h) i (by omega)
 generalize repOK L (updL L J s) n J = RO at *
 generalize prF (updL L J s) n = PF' at *
 generalize prN (updL L J s) = PN' at *
 generalize prF L n = PF at *
 generalize pathN n J = PP at *
 generalize zq5 0 n = BB at *
 clear hct hok hX hZ hZt hXb hZb hd hL hs
 have hdl : PP.length = d + 1 := hPl
 clear hPl
 have hG := Grew.refl w
 have ft : True := trivial
 have fs : True := trivial
 have fr : True := trivial
 go_enter Tryz.func23, Tryz.ntmps23
 go_wp2_with fail
 replace ft : objAt (((w.alloc (.cells #[.slice (some ⟨g, 0, none⟩) m c] 30)).alloc (.cells (ints .u8 32 (s)) 24)).alloc (.cells #[.slice none 0 0] 30)) (w.heap.size) = some (.cells #[.slice (some ⟨g, 0, none⟩) m c] 30) := by exact zqc
 replace fs : objAt (((w.alloc (.cells #[.slice (some ⟨g, 0, none⟩) m c] 30)).alloc (.cells (ints .u8 32 (s)) 24)).alloc (.cells #[.slice none 0 0] 30)) (w.heap.size + 1) = some (.cells (ints .u8 32 (s)) 24) := by exact zqc
 replace fr : objAt (((w.alloc (.cells #[.slice (some ⟨g, 0, none⟩) m c] 30)).alloc (.cells (ints .u8 32 (s)) 24)).alloc (.cells #[.slice none 0 0] 30)) (w.heap.size + 1 + 1) = some (.cells #[.slice none 0 0] 30) := by exact zqc
 replace hG : Below w.heap.size w (((w.alloc (.cells #[.slice (some ⟨g, 0, none⟩) m c] 30)).alloc (.cells (ints .u8 32 (s)) 24)).alloc (.cells #[.slice none 0 0] 30)) := by exact zqe
 generalize ((w.alloc (.cells #[.slice (some ⟨g, 0, none⟩) m c] 30)).alloc (.cells (ints .u8 32 (s)) 24)).alloc (.cells #[.slice none 0 0] 30) = w1 at *
 have lft := zqa ft
 have lfs := zqa fs
 have lfr := zqa fr
 go_wp2_with fail
 (refine (c1 _).mono ?_; rintro e w2 ⟨rfl, hb⟩; replace ft : objAt w2 (w.heap.size) = some (.cells #[.slice (some ⟨g, 0, none⟩) m c] 30) := zqb hb (by exact zqc); have lft := zqa ft; replace fs : objAt w2 (w.heap.size + 1) = some (.cells (ints .u8 32 (s)) 24) := zqb hb (by exact zqc); have lfs := zqa fs; replace fr : objAt w2 (w.heap.size + 1 + 1) = some (.cells #[.slice none 0 0] 30) := zqb hb (by exact zqc); have lfr := zqa fr; replace hG : Below w.heap.size w w2 := Grew.trans (by exact zqe) hb; clear hb)
 go_wp2_with fail
 refine (c2 _).mono ?_
 rintro e w3 ⟨oP, kP, rfl, hP, hb⟩
 replace ft : objAt w3 (w.heap.size) = some (.cells #[.slice (some ⟨g, 0, none⟩) m c] 30) := zqb hb ft
 replace lft := zqa ft
 replace fs : objAt w3 (w.heap.size + 1) = some (.cells (ints .u8 32 (s)) 24) := zqb hb fs
 replace lfs := zqa fs
 replace fr : objAt w3 (w.heap.size + 1 + 1) = some (.cells #[.slice none 0 0] 30) := zqb hb fr
 replace lfr := zqa fr
 replace hG : Below w.heap.size w w3 := Grew.trans hG hb
 have HP : Hid (NdsAt w3 oP PP) := hP
 rw [hdl]
 clear hP hb c2
 have hdi : (d : Int) ≤ 10 := by omega
 go_wp2_with fail
 refine zqhk (fun k => k == 3 || k == 4) (fun k => match k with | 3 => fun u => KSl d u | 4 => fun u => KOkS (d + 1) u | _ => fun _ => True) (fun k => match k with | 3 => fun u w => KAt d Z u w | 4 => fun u w => KOkAt (d + 1) X u w | _ => fun _ _ => True) (fun k => match k with | 3 => .slice none d 0 | 4 => .tuple #[.slice none (d + 1) 0, .bool true] | _ => undef) (fun i hi => ?_) (by kernel_rfl) (by kernel_rfl) ?_
 ·simp only [Bool.or_eq_true, beq_iff_eq] at hi
  rcases hi with rfl | rfl
  ·exact ⟨none, 0, rfl⟩
  ·exact ⟨none, 0, rfl⟩
 (first | refine zqn rfl ?_ | (refine zql rfl ?_; apply Exists.intro))
 (first | refine zqn rfl ?_ | (refine zql rfl ?_; apply Exists.intro))
 (first | refine zqn rfl ?_ | (refine zql rfl ?_; apply Exists.intro))
 refine zql rfl ⟨undef, ?_⟩
 refine zql rfl ⟨undef, ?_⟩
 (first | refine zqn rfl ?_ | (refine zql rfl ?_; apply Exists.intro))
 (first | refine zqn rfl ?_ | (refine zql rfl ?_; apply Exists.intro))
 (first | refine zqn rfl ?_ | (refine zql rfl ?_; apply Exists.intro))
 (first | refine zqn rfl ?_ | (refine zql rfl ?_; apply Exists.intro))
 (first | refine zqn rfl ?_ | (refine zql rfl ?_; apply Exists.intro))
 refine zqbp ?_
 intro γ gv hsv hinj hbase
 obtain ⟨o3, k3, e3⟩ := hsv 3 rfl
 obtain ⟨o4, k4, e4⟩ := hsv 4 rfl
 (repeat (first | (refine zqab rfl ?_; ((first | go_big_quiet_skip | (go_big_quiet_want; go_big_quiet_op; go_big_quiet_on)); refine wpQuiet_nil ?_)) | ((first | refine zqv rfl (fun _ => rfl) ?_ | ((try simp only [Nat.zero_add, Nat.reduceAdd]); apply zqaw zqi; (focus rfl); (focus (first | exact zqq _ | exact zqr _ _ | exact zqo _ | rfl)); (focus (exact zqm))) | ((try simp only [Nat.zero_add, Nat.reduceAdd]); apply zqac _ _ zqi; (focus rfl); (focus (intro W; (first | exact zqam _ | exact zqag _ | exact zqan _ | exact zqaf _ | exact zq3 _ | exact zq2 _))); (focus (first | exact zq1 _ _ _ | exact zqad _ _ | rfl)); (focus (exact zqm))) | ((try simp only [Nat.zero_add, Nat.reduceAdd]); apply zqah zqi; (focus rfl); (focus (intro W; simp only [List.map_toArray, List.map_cons, List.map_nil]; first | fail)); (focus (exact zqm))) | (apply zqao; (focus rfl); (focus rfl); (focus rfl); (focus (intro W hC hF; go_big_quiet_want; go_big_quiet_op; (first | go_big_quiet_on | (apply Exists.intro; refine ⟨fun _ => ?_, ?_⟩; (focus (fail)); go_big_quiet_on)); exact wpQuiet_nil rfl)); (focus (first | exact fun _ => ⟨rfl, rfl⟩ | exact fun h => absurd h (by decide))))); ((first | go_big_quiet_skip | (go_big_quiet_want; go_big_quiet_op; go_big_quiet_on)); refine wpQuiet_nil ?_)) | refine zqu rfl (fun _ => rfl) ?_ | ((try simp only [Nat.zero_add, Nat.reduceAdd]); apply zqae (zq4 (hbase _)); (focus rfl); (focus rfl); (focus rfl); (focus (first | exact zqq _ | exact zqr _ _ | exact zqo _ | rfl)); rotate_left 3; (focus (exact zqbi)); rotate_right 3; (focus kernel_rfl); (focus (first | exact zqf _ _ _ | rfl)); (focus (first | exact zq6 _ _ _ | exact zqaj _ _ _ _ | kernel_rfl)); (focus (decide +kernel)); (focus (exact zqm)))))
 refine rel_callv #[.agg #[.slice (some ⟨g, 0, none⟩) m c], .int .i64 (J : Int)] (enters_of Tryz.func21 (by kernel_rfl) rfl) rfl e3 rfl rfl rfl rfl (zqbo (stab_kat _ _ _)) (by first | kernel_rfl | simp [go_sem]) ?_ ?_
 ·intro W hC hF
  obtain ⟨mm, rfl⟩ := hC
  refine (c3 _ (Grew.more hG mm)).mono ?_
  rintro e w9 ⟨oa, cc, rfl, hK, hb9⟩
  exact ⟨_, rfl, ⟨oa, cc, rfl⟩, fun oa2 c2 e2 => by cases e2; exact hK, hb9⟩
 ((first | go_big_quiet_skip | (go_big_quiet_want; go_big_quiet_op; go_big_quiet_on)); refine wpQuiet_nil ?_)
 refine rel_callv #[.agg (ints .u8 32 s), .slice o3 d k3] (enters_of Tryz.func26 (by kernel_rfl) rfl) rfl e4 rfl rfl rfl rfl (fits_one (stab_kokat _ _ _) (stab_kat _ _ _) rfl rfl (zqbo (stab_kokat _ _ _))) (by first | kernel_rfl | simp [go_sem]) ?_ ?_
 ·intro W hC hF
  obtain ⟨mm, rfl⟩ := hC
  have hK3 : K32At (more w3 mm) o3 d Z := known hF (List.mem_cons_self ..) (by decide +kernel) o3 k3 rfl
  refine (c4 o3 k3 _ hK3 (hTT.out.later (Grew.more hG mm))).mono ?_
  rintro e w9 ⟨oa, cc, rfl, _, hK, hb9⟩
  exact ⟨_, rfl, ⟨oa, cc, rfl⟩, fun oa2 c2 e2 => by cases e2; exact hK, hb9⟩
 ((first | go_big_quiet_skip | (go_big_quiet_want; go_big_quiet_op; go_big_quiet_on)); refine wpQuiet_nil ?_)
 (repeat (first | (refine zqab rfl ?_; ((first | go_big_quiet_skip | (go_big_quiet_want; go_big_quiet_op; go_big_quiet_on)); refine wpQuiet_nil ?_)) | ((first | refine zqv rfl (fun _ => rfl) ?_ | ((try simp only [Nat.zero_add, Nat.reduceAdd]); apply zqaw zqi; (focus rfl); (focus (first | exact zqq _ | exact zqr _ _ | exact zqo _ | rfl)); (focus (exact zqm))) | ((try simp only [Nat.zero_add, Nat.reduceAdd]); apply zqac _ _ zqi; (focus rfl); (focus (intro W; (first | exact zqam _ | exact zqag _ | exact zqan _ | exact zqaf _ | exact zq3 _ | exact zq2 _))); (focus (first | exact zq1 _ _ _ | exact zqad _ _ | rfl)); (focus (exact zqm))) | ((try simp only [Nat.zero_add, Nat.reduceAdd]); apply zqah zqi; (focus rfl); (focus (intro W; simp only [List.map_toArray, List.map_cons, List.map_nil]; first | fail)); (focus (exact zqm))) | (apply zqao; (focus rfl); (focus rfl); (focus rfl); (focus (intro W hC hF; go_big_quiet_want; go_big_quiet_op; (first | go_big_quiet_on | (apply Exists.intro; refine ⟨fun _ => ?_, ?_⟩; (focus (fail)); go_big_quiet_on)); exact wpQuiet_nil rfl)); (focus (first | exact fun _ => ⟨rfl, rfl⟩ | exact fun h => absurd h (by decide))))); ((first | go_big_quiet_skip | (go_big_quiet_want; go_big_quiet_op; go_big_quiet_on)); refine wpQuiet_nil ?_)) | refine zqu rfl (fun _ => rfl) ?_ | ((try simp only [Nat.zero_add, Nat.reduceAdd]); apply zqae (zq4 (hbase _)); (focus rfl); (focus rfl); (focus rfl); (focus (first | exact zqq _ | exact zqr _ _ | exact zqo _ | rfl)); rotate_left 3; (focus (exact zqbi)); rotate_right 3; (focus kernel_rfl); (focus (first | exact zqf _ _ _ | rfl)); (focus (first | exact zq6 _ _ _ | exact zqaj _ _ _ _ | kernel_rfl)); (focus (decide +kernel)); (focus (exact zqm)))))
 (refine zqbs ?_; rintro _ ⟨mq, rfl⟩ hF; simp only [List.forall_mem_cons] at hF; obtain ⟨f4, f3, -⟩ := hF)
 have HK4 : Hid (K32At (more w3 mq) o4 (d + 1) X) := f4 o4 k4 rfl
 replace ft := zqk mq ft
 replace fs := zqk mq fs
 replace fr := zqk mq fr
 replace hG : Below w.heap.size w (more w3 mq) := Grew.more hG mq
 have HP4 : Hid (NdsAt (more w3 mq) oP PP) := HP.out.later (zqj w3 mq)
 clear f3 f4 hinj hbase hsv e3 e4 HP lft lfs lfr c3 c4
 generalize more w3 mq = w4 at *
 clear γ gv
 have lft := zqa ft
 have lfs := zqa fs
 have lfr := zqa fr
 have hw4 : w.heap.size + 1 + 1 < w4.heap.size := zqa fr
 have hd0 : ¬ ((d : Int) + 1 = 0) := by omega
 have cC := cloneP_any g m c PF w4 (by omega) (by omega) (HR.out.later hG)
 go_wp2_with fail
 refine cC.mono ?_
 rintro e w5 ⟨g2, c2, rfl, hg2, hR2, hb5⟩
 have HR2 : Hid (Row64 w5 g2 m PF) := hR2
 clear cC hR2 hd0
 go_wp2_with fail
 go_loopw [39, 12, 13] (fun i _ _ wr => ∃ (k : Nat) (G : Nat → Nat → Int), k ≤ d + 1 ∧ i = .int .i64 k ∧ Below w4.heap.size w4 wr ∧ Hid (Row64 wr g2 m G) ∧ Hid (RO k G)) (fun i _ _ _ => d + 1 - (intOf i).toNat)
 case atStart => exact ⟨0, PF, by omega, rfl, hb5, HR2, hrep0⟩
 case round =>
  clear HR2 hb5 lft lfs lfr
  obtain ⟨k, G, hk, rfl, hM, HRG, hRO⟩ := hrel
  replace ft := zqb hM ft
  replace fs := zqb hM fs
  replace fr := zqb hM fr
  have hGr : Below w.heap.size w wr := Grew.trans hG hM
  have lft := zqa ft
  have lfs := zqa fs
  have lfr := zqa fr
  by_cases hlt : k < d + 1
  ·obtain ⟨u, hu⟩ : ∃ u, PP[k]? = some u := ⟨_, List.getElem?_eq_getElem (by omega)⟩
   obtain ⟨i, hi, hib, cI⟩ := c5.out k u hu
   have hX := hXv.out k u hu
   have hnx := fun h => hrepN.out k i G u h hu hib
   have cO := c6 k
   have hcell : ∃ gC o, oP = some ⟨gC, o, none⟩ ∧ gC < wr.heap.size ∧ cellOf (objAt wr gC) (o + k * 2) = some (.int .i64 u.f) ∧ cellOf (objAt wr gC) (o + k * 2 + 1) = some (.int .i64 u.s) := by
    rcases HP4.out.later hM with h0 | ⟨g', o', e, hg', hl⟩
    ·subst h0; simp at hdl
    ·obtain ⟨l1, l2⟩ := hl k u hu
     rw [Nat.mul_comm] at l1 l2
     exact ⟨g', o', e, hg', l1, l2⟩
   obtain ⟨gC, oo, rfl, hgC, l1, l2⟩ := hcell
   obtain ⟨a4, rfl⟩ := HK4.out.addr (by omega)
   have hi1 : (k : Int) < (d : Int) + 1 := by omega
   have hi0 : (0 : Int) ≤ (k : Int) := by omega
   have hii1 : (i : Int) < (m : Int) := by omega
   have hii0 : (0 : Int) ≤ (i : Int) := by omega
   clear c5 hXv hrepN c6 hu hib hrepE
   go_wp2_with fail
   have fv : objAt (wr.alloc (.cells #[.int .i64 (u.f : Int), .int .i64 (u.s : Int)] 26)) wr.heap.size = some (.cells #[.int .i64 (u.f : Int), .int .i64 (u.s : Int)] 26) := zqh _ _ _ rfl
   have ft4 : objAt (wr.alloc (.cells #[.int .i64 (u.f : Int), .int .i64 (u.s : Int)] 26)) w.heap.size = some (.cells #[.slice (some ⟨g, 0, none⟩) m c] 30) := zqp _ ft
   have hM4 : Below w4.heap.size w4 (wr.alloc (.cells #[.int .i64 (u.f : Int), .int .i64 (u.s : Int)] 26)) := Grew.alloc hM _
   have HRG4 : Hid (Row64 (wr.alloc (.cells #[.int .i64 (u.f : Int), .int .i64 (u.s : Int)] 26)) g2 m G) := HRG.out.later (Grew.alloc (Grew.refl wr) _)
   clear ft lft fs lfs fr lfr hGr hM HRG l1 l2 hgC
   generalize wr.alloc (.cells #[.int .i64 (u.f : Int), .int .i64 (u.s : Int)] 26) = w6 at *
   generalize wr.heap.size = gv at *
   have lft := zqa ft4
   have lfv := zqa fv
   have lK := fun q : More => HK4.out.loadK hlt (Grew.more hM4 q)
   ((first | (with_reducible refine zqz 11 (by kernel_rfl) (by kernel_rfl) (by kernel_rfl) (by kernel_rfl) (by kernel_rfl) ?_) | refine zqy 11 (by kernel_rfl) (by kernel_rfl) (by kernel_rfl) (by kernel_rfl) (by kernel_rfl) ?_); simp only [List.take_succ_cons, List.take_zero]; (repeat (first | go_big_quiet_skip | (go_big_quiet_want; go_big_quiet_op; first | go_big_quiet_on | (apply Exists.intro; refine ⟨fun _ => ?_, ?_⟩; (focus (first | (with_reducible exact Calls.of_more (c1 _)) | (with_reducible exact Calls.of_more (cI _)) | (with_reducible exact Calls.of_more (cO _)))); go_big_quiet_on)))); refine wpQuiet_nil ?_; rintro _ ⟨mq, rfl⟩)
   obtain ⟨cs, hst, hR7⟩ := (HRG4.out.later (zqj w6 mq)).store hi (keysF (X k) (pubF (X k)))
   rw [hX] at hR7
   have HR7 : Hid (Row64 ((more w6 mq).setRow g2 cs) g2 m (updR G i (PN' u))) := hR7
   have hM7 : Below w4.heap.size w4 ((more w6 mq).setRow g2 cs) := Grew.setRow (Grew.more hM4 mq) _ _ hg2
   clear hR7 HRG4 lK hX
   (refine zqaa (i := 11) (fuel := 0) (by kernel_rfl) rfl ?_; intro K hK; go_simp; refine hK _ _ ?_; clear hK K)
   (refine wpAny_done (by kernel_rfl) ?_ _)
   go_wp2
   go_roundw
   case rel => first | exact ⟨k + 1, _, by omega, by go_num, hM7, HR7, hnx hRO.out⟩ | ((repeat' apply Exists.intro) <;> first | exact ⟨⟨k + 1, _, by omega, by go_num, hM7, HR7, hnx hRO.out⟩, rfl⟩ | exact undef)
   case measure => (simp [intOf] <;> omega)
  ·obtain rfl : k = d + 1 := by omega
   have HE : Hid (Row64 wr g2 m PF') := HRG.out.congr (fun i hi => hrepE.out G hRO.out i hi)
   clear HRG hRO c5 hXv hrepN c6 hrepE
   go_wp2
   refine zqa6 rfl _ 30 #[.slice (some ⟨g2, 0, none⟩) m c2] (0, 0) _ _ rfl rfl (by exact zqc) Tryz.underlying30 rfl (by kernel_rfl) rfl ⟨g2, c2, rfl, HE.out.by (zqal _ _ _ _ (by omega)), by exact zqe⟩
theorem zqmz (S P : Nat → Nat → Int) (g m c n : Nat) (j : Int) (s : Nat → Int) (w : World) (hm : m + 1 = 2 * n) (h1 : 1 ≤ n) (hn : n ≤ 1024) (hj : ¬ (0 ≤ j ∧ j < n)) (hj0 : -9223372036854775808 ≤ j) (hj1 : j ≤ 9223372036854775807) (hs : Bytes 32 s) (hR : Row64 w g m (fun j => keysF (S j) (P j))) (hT : Tabs w) :
  Calls Tryz.prog 23 #[.agg #[.slice (some ⟨g, 0, none⟩) m c], .int .i64 j, .agg (ints .u8 32 s)] w fun e w' => e = .returned (.tuple #[.agg #[.slice none 0 0], .bool false]) ∧ Below w.heap.size w w' := by
 have HR : Hid (Row64 w g m (fun j => keysF (S j) (P j))) := hR
 have hTT : Hid (Tabs w) := hT
 clear hR hT
 have hv : ¬ (1 ≤ (n : Int) ∧ (n : Int) ≤ 1024 ∧ 0 ≤ j ∧ j < n) := fun h => hj ⟨h.2.2.1, h.2.2.2⟩
 have c1 := fun W : World => zqn2 (some ⟨g, 0, none⟩) m c n W hm hn
 have c2 : ∀ W : World, Calls Tryz.prog 53 #[.int .i64 (n : Int), .int .i64 j] W (zqf5 W []) := fun W => by
  have := (zqpu (n : Int) j W hj0 hj1).mono (R' := zqf5 W (pathI n j)) fun e w' ⟨oa, c, e1, _, h2, h3⟩ => ⟨oa, c, e1, h2, h3⟩
  rw [zqk7 hv] at this
  exact this
 obtain ⟨Z, hZ⟩ : ∃ Z, cpF P n (zqa7 n j) = Z := ⟨_, rfl⟩
 have c3 : ∀ W : World, Below w.heap.size w W → Calls Tryz.prog 21 #[.agg #[.slice (some ⟨g, 0, none⟩) m c], .int .i64 j] W (zqde W 0 Z) := fun W hb => by
  have := zqdi S P g m c n j W hm h1 hn hj0 hj1 (HR.out.later hb)
  rw [hZ, zqge hv] at this
  exact this
 obtain ⟨X, hX⟩ : ∃ X, zqci s Z = X := ⟨_, rfl⟩
 have c4 : ∀ (oa : Option Addr) (cc : Nat) (W : World), K32At W oa 0 Z → Tabs W → Calls Tryz.prog 26 #[.agg (ints .u8 32 s), .slice oa 0 cc] W fun e w' => ∃ oa c, e = .returned (.tuple #[.slice oa 1 c, .bool true]) ∧ 1 ≤ c ∧ K32At w' oa 1 X ∧ Below W.heap.size W w' := fun oa cc W hK h => by
  rw [← hX]
  exact zqkw (zqg5 s Z oa 0 cc W hs (by omega) (fun i hi => by omega) hK h) rfl
 clear hZ hX hs hv hj
 have hG := Grew.refl w
 have ft : True := trivial
 have fs : True := trivial
 have fr : True := trivial
 go_enter Tryz.func23, Tryz.ntmps23
 go_wp2_with fail
 replace ft : objAt (((w.alloc (.cells #[.slice (some ⟨g, 0, none⟩) m c] 30)).alloc (.cells (ints .u8 32 (s)) 24)).alloc (.cells #[.slice none 0 0] 30)) (w.heap.size) = some (.cells #[.slice (some ⟨g, 0, none⟩) m c] 30) := by exact zqc
 replace fs : objAt (((w.alloc (.cells #[.slice (some ⟨g, 0, none⟩) m c] 30)).alloc (.cells (ints .u8 32 (s)) 24)).alloc (.cells #[.slice none 0 0] 30)) (w.heap.size + 1) = some (.cells (ints .u8 32 (s)) 24) := by exact zqc
 replace fr : objAt (((w.alloc (.cells #[.slice (some ⟨g, 0, none⟩) m c] 30)).alloc (.cells (ints .u8 32 (s)) 24)).alloc (.cells #[.slice none 0 0] 30)) (w.heap.size + 1 + 1) = some (.cells #[.slice none 0 0] 30) := by exact zqc
 replace hG : Below w.heap.size w (((w.alloc (.cells #[.slice (some ⟨g, 0, none⟩) m c] 30)).alloc (.cells (ints .u8 32 (s)) 24)).alloc (.cells #[.slice none 0 0] 30)) := by exact zqe
 generalize ((w.alloc (.cells #[.slice (some ⟨g, 0, none⟩) m c] 30)).alloc (.cells (ints .u8 32 (s)) 24)).alloc (.cells #[.slice none 0 0] 30) = w1 at *
 have lft := zqa ft
 have lfs := zqa fs
 have lfr := zqa fr
 go_wp2_with fail
 (refine (c1 _).mono ?_; rintro e w2 ⟨rfl, hb⟩; replace ft : objAt w2 (w.heap.size) = some (.cells #[.slice (some ⟨g, 0, none⟩) m c] 30) := zqb hb (by exact zqc); have lft := zqa ft; replace fs : objAt w2 (w.heap.size + 1) = some (.cells (ints .u8 32 (s)) 24) := zqb hb (by exact zqc); have lfs := zqa fs; replace fr : objAt w2 (w.heap.size + 1 + 1) = some (.cells #[.slice none 0 0] 30) := zqb hb (by exact zqc); have lfr := zqa fr; replace hG : Below w.heap.size w w2 := Grew.trans (by exact zqe) hb; clear hb)
 go_wp2_with fail
 refine (c2 _).mono ?_
 rintro e w3 ⟨oP, kP, rfl, hP, hb⟩
 replace ft : objAt w3 (w.heap.size) = some (.cells #[.slice (some ⟨g, 0, none⟩) m c] 30) := zqb hb ft
 replace lft := zqa ft
 replace fs : objAt w3 (w.heap.size + 1) = some (.cells (ints .u8 32 (s)) 24) := zqb hb fs
 replace lfs := zqa fs
 replace fr : objAt w3 (w.heap.size + 1 + 1) = some (.cells #[.slice none 0 0] 30) := zqb hb fr
 replace lfr := zqa fr
 replace hG : Below w.heap.size w w3 := Grew.trans hG hb
 clear hP hb c2
 go_wp2_with fail
 refine zqhk (fun k => k == 3 || k == 4) (fun k => match k with | 3 => fun u => KSl 0 u | 4 => fun u => KOkS 1 u | _ => fun _ => True) (fun k => match k with | 3 => fun u w => KAt 0 Z u w | 4 => fun u w => KOkAt 1 X u w | _ => fun _ _ => True) (fun k => match k with | 3 => .slice none 0 0 | 4 => .tuple #[.slice none 1 0, .bool true] | _ => undef) (fun i hi => ?_) (by kernel_rfl) (by kernel_rfl) ?_
 ·simp only [Bool.or_eq_true, beq_iff_eq] at hi
  rcases hi with rfl | rfl
  ·exact ⟨none, 0, rfl⟩
  ·exact ⟨none, 0, rfl⟩
 (first | refine zqn rfl ?_ | (refine zql rfl ?_; apply Exists.intro))
 (first | refine zqn rfl ?_ | (refine zql rfl ?_; apply Exists.intro))
 (first | refine zqn rfl ?_ | (refine zql rfl ?_; apply Exists.intro))
 refine zql rfl ⟨undef, ?_⟩
 refine zql rfl ⟨undef, ?_⟩
 (first | refine zqn rfl ?_ | (refine zql rfl ?_; apply Exists.intro))
 (first | refine zqn rfl ?_ | (refine zql rfl ?_; apply Exists.intro))
 (first | refine zqn rfl ?_ | (refine zql rfl ?_; apply Exists.intro))
 (first | refine zqn rfl ?_ | (refine zql rfl ?_; apply Exists.intro))
 (first | refine zqn rfl ?_ | (refine zql rfl ?_; apply Exists.intro))
 refine zqbp ?_
 intro γ gv hsv hinj hbase
 obtain ⟨o3, k3, e3⟩ := hsv 3 rfl
 obtain ⟨o4, k4, e4⟩ := hsv 4 rfl
 (repeat (first | (refine zqab rfl ?_; ((first | go_big_quiet_skip | (go_big_quiet_want; go_big_quiet_op; go_big_quiet_on)); refine wpQuiet_nil ?_)) | ((first | refine zqv rfl (fun _ => rfl) ?_ | ((try simp only [Nat.zero_add, Nat.reduceAdd]); apply zqaw zqi; (focus rfl); (focus (first | exact zqq _ | exact zqr _ _ | exact zqo _ | rfl)); (focus (exact zqm))) | ((try simp only [Nat.zero_add, Nat.reduceAdd]); apply zqac _ _ zqi; (focus rfl); (focus (intro W; (first | exact zqam _ | exact zqag _ | exact zqan _ | exact zqaf _ | exact zq3 _ | exact zq2 _))); (focus (first | exact zq1 _ _ _ | exact zqad _ _ | rfl)); (focus (exact zqm))) | ((try simp only [Nat.zero_add, Nat.reduceAdd]); apply zqah zqi; (focus rfl); (focus (intro W; simp only [List.map_toArray, List.map_cons, List.map_nil]; first | fail)); (focus (exact zqm))) | (apply zqao; (focus rfl); (focus rfl); (focus rfl); (focus (intro W hC hF; go_big_quiet_want; go_big_quiet_op; (first | go_big_quiet_on | (apply Exists.intro; refine ⟨fun _ => ?_, ?_⟩; (focus (fail)); go_big_quiet_on)); exact wpQuiet_nil rfl)); (focus (first | exact fun _ => ⟨rfl, rfl⟩ | exact fun h => absurd h (by decide))))); ((first | go_big_quiet_skip | (go_big_quiet_want; go_big_quiet_op; go_big_quiet_on)); refine wpQuiet_nil ?_)) | refine zqu rfl (fun _ => rfl) ?_ | ((try simp only [Nat.zero_add, Nat.reduceAdd]); apply zqae (zq4 (hbase _)); (focus rfl); (focus rfl); (focus rfl); (focus (first | exact zqq _ | exact zqr _ _ | exact zqo _ | rfl)); rotate_left 3; (focus (exact zqbi)); rotate_right 3; (focus kernel_rfl); (focus (first | exact zqf _ _ _ | rfl)); (focus (first | exact zq6 _ _ _ | exact zqaj _ _ _ _ | kernel_rfl)); (focus (decide +kernel)); (focus (exact zqm)))))
 refine rel_callv #[.agg #[.slice (some ⟨g, 0, none⟩) m c], .int .i64 j] (enters_of Tryz.func21 (by kernel_rfl) rfl) rfl e3 rfl rfl rfl rfl (zqbo (stab_kat _ _ _)) (by first | kernel_rfl | simp [go_sem]) ?_ ?_
 ·intro W hC hF
  obtain ⟨mm, rfl⟩ := hC
  refine (c3 _ (Grew.more hG mm)).mono ?_
  rintro e w9 ⟨oa, cc, rfl, hK, hb9⟩
  exact ⟨_, rfl, ⟨oa, cc, rfl⟩, fun oa2 c2 e2 => by cases e2; exact hK, hb9⟩
 ((first | go_big_quiet_skip | (go_big_quiet_want; go_big_quiet_op; go_big_quiet_on)); refine wpQuiet_nil ?_)
 refine rel_callv #[.agg (ints .u8 32 s), .slice o3 0 k3] (enters_of Tryz.func26 (by kernel_rfl) rfl) rfl e4 rfl rfl rfl rfl (fits_one (stab_kokat _ _ _) (stab_kat _ _ _) rfl rfl (zqbo (stab_kokat _ _ _))) (by first | kernel_rfl | simp [go_sem]) ?_ ?_
 ·intro W hC hF
  obtain ⟨mm, rfl⟩ := hC
  have hK3 : K32At (more w3 mm) o3 0 Z := known hF (List.mem_cons_self ..) (by decide +kernel) o3 k3 rfl
  refine (c4 o3 k3 _ hK3 (hTT.out.later (Grew.more hG mm))).mono ?_
  rintro e w9 ⟨oa, cc, rfl, _, hK, hb9⟩
  exact ⟨_, rfl, ⟨oa, cc, rfl⟩, fun oa2 c2 e2 => by cases e2; exact hK, hb9⟩
 ((first | go_big_quiet_skip | (go_big_quiet_want; go_big_quiet_op; go_big_quiet_on)); refine wpQuiet_nil ?_)
 (repeat (first | (refine zqab rfl ?_; ((first | go_big_quiet_skip | (go_big_quiet_want; go_big_quiet_op; go_big_quiet_on)); refine wpQuiet_nil ?_)) | ((first | refine zqv rfl (fun _ => rfl) ?_ | ((try simp only [Nat.zero_add, Nat.reduceAdd]); apply zqaw zqi; (focus rfl); (focus (first | exact zqq _ | exact zqr _ _ | exact zqo _ | rfl)); (focus (exact zqm))) | ((try simp only [Nat.zero_add, Nat.reduceAdd]); apply zqac _ _ zqi; (focus rfl); (focus (intro W; (first | exact zqam _ | exact zqag _ | exact zqan _ | exact zqaf _ | exact zq3 _ | exact zq2 _))); (focus (first | exact zq1 _ _ _ | exact zqad _ _ | rfl)); (focus (exact zqm))) | ((try simp only [Nat.zero_add, Nat.reduceAdd]); apply zqah zqi; (focus rfl); (focus (intro W; simp only [List.map_toArray, List.map_cons, List.map_nil]; first | fail)); (focus (exact zqm))) | (apply zqao; (focus rfl); (focus rfl); (focus rfl); (focus (intro W hC hF; go_big_quiet_want; go_big_quiet_op; (first | go_big_quiet_on | (apply Exists.intro; refine ⟨fun _ => ?_, ?_⟩; (focus (fail)); go_big_quiet_on)); exact wpQuiet_nil rfl)); (focus (first | exact fun _ => ⟨rfl, rfl⟩ | exact fun h => absurd h (by decide))))); ((first | go_big_quiet_skip | (go_big_quiet_want; go_big_quiet_op; go_big_quiet_on)); refine wpQuiet_nil ?_)) | refine zqu rfl (fun _ => rfl) ?_ | ((try simp only [Nat.zero_add, Nat.reduceAdd]); apply zqae (zq4 (hbase _)); (focus rfl); (focus rfl); (focus rfl); (focus (first | exact zqq _ | exact zqr _ _ | exact zqo _ | rfl)); rotate_left 3; (focus (exact zqbi)); rotate_right 3; (focus kernel_rfl); (focus (first | exact zqf _ _ _ | rfl)); (focus (first | exact zq6 _ _ _ | exact zqaj _ _ _ _ | kernel_rfl)); (focus (decide +kernel)); (focus (exact zqm)))))
 (refine zqbs ?_; rintro _ ⟨mq, rfl⟩ hF; simp only [List.forall_mem_cons] at hF; obtain ⟨f4, f3, -⟩ := hF)
 replace fr := zqk mq fr
 replace hG : Below w.heap.size w (more w3 mq) := Grew.more hG mq
 clear f3 f4 hinj hbase hsv e3 e4 lft lfs lfr c3 c4 ft fs
 generalize more w3 mq = w4 at *
 clear γ gv
 have lfr := zqa fr
 go_wp2
 refine zqa6 rfl _ 30 #[.slice none 0 0] (0, 0) _ _ rfl rfl (by exact zqc) Tryz.underlying30 rfl (by kernel_rfl) rfl ⟨rfl, by exact zqe⟩
end Go.Proofs.YtconieddcjpbjaaGreatDoor
namespace Go.Proofs.YtconieddcjpbjaaGreatDoor
open Go.RowKit
set_option linter.unusedVariables false
set_option linter.unusedSimpArgs false
attribute [local go_sem] Oper.semAt_some
theorem cells_kept {W W' : World} {b B : Nat} {cs : Array Value} {t : TypeId} {fr : Nat × Nat} {row : Option Nat} (h : objAt W b = some (.cells cs t fr)) (hg : W.grownBy W' row) (hr : ∀ r, row = some r → B ≤ r ∧ ∃ o : Obj, W.heap[r]? = some o ∧ o.isCells = false) : objAt W' b = objAt W b := by
 refine hg.block b (zqa h) fun e => ?_
 obtain ⟨_, o, ho, hc⟩ := hr b e.symm
 unfold objAt at h
 rw [h] at ho
 cases ho
 cases hc
theorem zqq3 {W W1 : World} {B P : Nat} {cs : Array Value} {t : TypeId} {fr : Nat × Nat} (c : Array Value) (hP : objAt W P = some (.cells cs t fr)) (hb : Below W.heap.size W W1) : KeepsFrom B W (W1.setRow P c) :=
 ⟨by rw [zqap]; exact hb.size, fun k o _ hk ho => by
  have hne : k ≠ P := fun e => by
   subst e
   unfold objAt at hP
   rw [hP] at hk
   cases hk
   cases ho
  exact (zqal W1 P k c hne).trans ((hb.block k (Array.getElem?_eq_some_iff.1 hk).1).trans hk)⟩
theorem zqmh {w : World} {g m : Nat} {F : Nat → Nat → Int} (h : Row64 w g m F) : ∃ cs, objAt w g = some (.cells cs 39 (0, 0)) := by
 obtain ⟨cs, h, _⟩ := h
 exact ⟨cs, h⟩
theorem Below.setRow9 {n : Nat} {X Y : World} (h : Below n X Y) (g : Nat) (cs : Array Value) (hg : n ≤ g) : Below n X (Y.setRow g cs) :=
 h.trans ⟨rfl, rfl, rfl, by rw [zqap]; exact Nat.le_refl _, fun k hk => zqal Y g k cs (by omega)⟩
theorem zqmb {P : Program} {fn : Func} {tmps : Array Value} {w : World} {p q : Tmp} {ty : TypeId} (h : fn.results = #[.cell p ty, .tmp q]) (g : Nat) (t : TypeId) (cs : Array Value) (fr : Nat × Nat) (d : TypeDesc) (v : Value)
  (hp : tmps.getD p undef = .pointer (some ⟨g, 0, none⟩)) (hq : tmps.getD q undef = v) (hg : objAt w g = some (.cells cs t fr))
  (hu : P.underlying ty = some d) (hd : (match d with | .struct _ | .array _ _ => true | _ => false) = true) (hi : (P.info? ty).map (·.size) = some cs.size) : (results fn tmps).run P w = .ok (.tuple #[.agg cs, v]) w := by
 have hp' : tmps[p]?.getD undef = .pointer (some ⟨g, 0, none⟩) := by simpa using hp
 have hq' : tmps[q]?.getD undef = v := by simpa using hq
 unfold objAt at hg
 simp [results, h, hp', hq', asAddr, run_loadVar_row w g t ty cs fr d hg hu hd hi]
def newR (L : Nat → Nat → Int) (G : Nat → Nat → Int) (v : Nd) (i : Nat) : Nat → Int :=
 if v.s = 1 then keysF (L v.f) (pubF (L v.f)) else keysF (upF (G (i + 1)) (fun k => G (i + 2 * leftN v.s) (k + 32))) (pubF (upF (G (i + 1)) (fun k => G (i + 2 * leftN v.s) (k + 32))))
theorem zqna {a b : Nat → Int} (ha : Bytes 32 a) (hb : Bytes 32 b) : Bytes 64 (keysF a b) := fun i hi => by
 unfold keysF
 split
 ·exact ha i (by omega)
 ·exact hb _ (by omega)
theorem zqxb {L : Nat → Nat → Int} {G : Nat → Nat → Int} {v : Nd} {i : Nat} (h : v.s = 1 → Bytes 32 (L v.f)) : Bytes 64 (newR L G v i) := by
 unfold newR
 split
 ·rename_i e
  exact zqna (h e) (zqfd _)
 ·exact zqna (zqhz _ _) (zqfd _)
theorem zqx8 (L : Nat → Nat → Int) {n i : Nat} {v : Nd} (h0 : 1 ≤ n) (hv : (zq5 0 n)[i]? = some v) (G : Nat → Nat → Int) (hG : 2 ≤ v.s → G (i + 1) = prF L n (i + 1) ∧ G (i + 2 * leftN v.s) = prF L n (i + 2 * leftN v.s)) : newR L G v i = prF L n i := by
 have hb := zqcw 0 n v (List.mem_of_getElem? hv)
 have hs := hb.2.2.2 h0
 unfold newR
 by_cases e : v.s = 1
 ·rw [if_pos e]
  have hv' : (zq5 0 n)[i]? = some ⟨v.f, 1⟩ := by rw [hv]; cases v; simp only at e; rw [e]
  unfold prF
  rw [zqi6 L hv']
 ·rw [if_neg e]
  obtain ⟨a, b⟩ := hG (by omega)
  rw [a, b]
  have hq : (fun k => prF L n (i + 2 * leftN v.s) (k + 32)) = pubF (treeF L n (i + 2 * leftN v.s)) := by
   funext k
   unfold prF keysF
   rw [if_neg (by omega), show k + 32 - 32 = k by omega]
  rw [hq]
  have hu : ∀ q, upF (prF L n (i + 1)) q = upF (treeF L n (i + 1)) q := fun q => upF_first (fun j hj => by unfold prF keysF; rw [if_pos hj]) q
  rw [hu, ← zqr8 L hv (by omega)]
  rfl
attribute [local irreducible] nodeF zqce oneF macF shaF strOf keyV shV pubV upF upOK pubF
theorem zqfi (L : Nat → Nat → Int) (oa : Option Addr) (n m c : Nat) (w : World) (hm : m + 1 = 2 * n) (h2 : 2 ≤ n) (hn : n ≤ 1024) (hL : ∀ i, i < n → Bytes 32 (L i)) (hK : K32At w oa n L) (hT : Tabs w) :
  Calls Tryz.prog 9 #[.slice oa n c] w fun e w' => ∃ g c2, e = .returned (.tuple #[.agg #[.slice (some ⟨g, 0, none⟩) m c2], .bool true]) ∧ Row64 w' g m (prF L n) ∧ Below w.heap.size w w' := by
 have HK : Hid (K32At w oa n L) := hK
 have hTT : Hid (Tabs w) := hT
 obtain ⟨ad, rfl⟩ := hK.addr (by omega)
 clear hK hT
 have h1 : 1 ≤ n := by omega
 have hlen : (zq5 0 n).length = m := by rw [zqav 0 n h1]; omega
 have cA : ∀ W : World, Calls Tryz.prog 39 #[.int .i64 (n : Int)] W (zqf5 W (zq5 0 n)) := fun W => by
  have := zqts (n : Int) W
  rw [zqec h1 hn] at this
  exact this
 have hNv : Hid (∀ i v, (zq5 0 n)[i]? = some v → 1 ≤ v.s ∧ v.f + v.s ≤ n ∧ v.s ≤ 1024 ∧ (2 ≤ v.s → i + 1 < (zq5 0 n).length ∧ i + 2 * leftN v.s < (zq5 0 n).length)) := fun i v hv => by
  have hb := zqcw 0 n v (List.mem_of_getElem? hv)
  refine ⟨hb.2.2.2 h1, by omega, by omega, fun h => ?_⟩
  obtain ⟨a, b⟩ := zqm5 0 n i v hv h
  exact ⟨(List.getElem?_eq_some_iff.1 a).1, (List.getElem?_eq_some_iff.1 b).1⟩
 have hNt : Hid (∀ i v G, (zq5 0 n)[i]? = some v → (2 ≤ v.s → G (i + 1) = prF L n (i + 1) ∧ G (i + 2 * leftN v.s) = prF L n (i + 2 * leftN v.s)) → newR L G v i = prF L n i) := fun i v G hv h => zqx8 L h1 hv G h
 have hm2 : m ≤ 2048 := by omega
 generalize prF L n = PF at *
 generalize zq5 0 n = NN at *
 subst hlen
 have hi2 : (2 : Int) ≤ (n : Int) := by omega
 have hi3 : (n : Int) ≤ 1024 := by omega
 refine (callsIn_wide (n := 5)).1 ?_
 refine callsIn_of_wp_marks Tryz.func9 rfl trivial ?_
 simp only [Tryz.ntmps9, List.size_toArray, List.length_cons, List.length_nil, Nat.reduceAdd, Nat.reduceSub, Array.replicate_succ, Array.replicate_zero, List.push_toArray, List.append_toArray, List.nil_append, List.cons_append]
 gi_wp2_with fail
 have fl : objAt ((w.alloc (.cells #[.slice (some ad) n c] 22)).alloc (.cells #[.slice none 0 0] 30)) w.heap.size = some (.cells #[.slice (some ad) n c] 22) := zqp _ (zqh _ _ _ rfl)
 have fr : objAt ((w.alloc (.cells #[.slice (some ad) n c] 22)).alloc (.cells #[.slice none 0 0] 30)) (w.heap.size + 1) = some (.cells #[.slice none 0 0] 30) := zqh _ _ _ (by simp)
 have hG : Below w.heap.size w ((w.alloc (.cells #[.slice (some ad) n c] 22)).alloc (.cells #[.slice none 0 0] 30)) := Grew.alloc (Grew.alloc (Grew.refl w) _) _
 generalize (w.alloc (.cells #[.slice (some ad) n c] 22)).alloc (.cells #[.slice none 0 0] 30) = w0 at *
 refine ⟨trivial, (callsIn_wide.2 (cA _)).mono ?_⟩
 rintro e w2 ⟨oN, kN, rfl, hN, hb⟩
 replace fl := zqb hb fl
 replace fr := zqb hb fr
 have lw2 := zqa fr
 replace hG : Below w.heap.size w w2 := Grew.trans hG hb
 have HN : Hid (NdsAt w2 oN NN) := hN
 have flw := fl
 have frw := fr
 have hGw := hG
 obtain ⟨gN, oo, rfl, hgN⟩ : ∃ gN o, oN = some ⟨gN, o, none⟩ ∧ gN < w2.heap.size := by
  rcases hN with h0 | ⟨g', o', e, hg', _⟩
  ·subst h0; simp at hm; omega
  ·exact ⟨g', o', e, hg'⟩
 clear hN hb cA
 obtain ⟨w3, hmk, hR0, hw3⟩ := make_pairs w2 NN.length (by omega)
 have HR0 : Hid (Row64 w3 w2.heap.size NN.length (fun _ => zqd)) := hR0
 have hz3 : w3.heap.size = w2.heap.size + 1 := by rw [hw3]; simp
 have hb3 : Below w2.heap.size w2 w3 := by rw [hw3]; exact Grew.alloc (Grew.refl w2) _
 clear hR0 hw3
 gi_wp2_with fail
 replace fl := zqb hb3 fl
 replace fr := zqb hb3 fr
 replace hG : Below w.heap.size w w3 := Grew.trans hG hb3
 refine ⟨trivial, (callsIn_wide.2 (backward_any _ _ _ _)).mono ?_⟩
 rintro e w4 ⟨rfl, rfl⟩
 gi_wp2_with fail
 have fp : objAt ((w3.alloc (.cells #[.slice (some ⟨w2.heap.size, 0, none⟩) NN.length NN.length] 28)).alloc (.cells #[.slice (some ⟨gN, oo, none⟩) NN.length kN] 75)) (w2.heap.size + 1) = some (.cells #[.slice (some ⟨w2.heap.size, 0, none⟩) NN.length NN.length] 28) := zqp _ (zqh _ _ _ hz3.symm)
 have fn : objAt ((w3.alloc (.cells #[.slice (some ⟨w2.heap.size, 0, none⟩) NN.length NN.length] 28)).alloc (.cells #[.slice (some ⟨gN, oo, none⟩) NN.length kN] 75)) (w2.heap.size + 1 + 1) = some (.cells #[.slice (some ⟨gN, oo, none⟩) NN.length kN] 75) := zqh _ _ _ (by simp [hz3])
 have hb4 : Below w2.heap.size w2 ((w3.alloc (.cells #[.slice (some ⟨w2.heap.size, 0, none⟩) NN.length NN.length] 28)).alloc (.cells #[.slice (some ⟨gN, oo, none⟩) NN.length kN] 75)) := Grew.alloc (Grew.alloc hb3 _) _
 have HR4 : Hid (Row64 ((w3.alloc (.cells #[.slice (some ⟨w2.heap.size, 0, none⟩) NN.length NN.length] 28)).alloc (.cells #[.slice (some ⟨gN, oo, none⟩) NN.length kN] 75)) w2.heap.size NN.length (fun _ => zqd)) := HR0.out.later (Grew.alloc (Grew.alloc (Grew.refl w3) _) _)
 have hz4 : ((w3.alloc (.cells #[.slice (some ⟨w2.heap.size, 0, none⟩) NN.length NN.length] 28)).alloc (.cells #[.slice (some ⟨gN, oo, none⟩) NN.length kN] 75)).heap.size = w2.heap.size + 3 := by simp [hz3]
 replace fl := zqp (.cells #[.slice (some ⟨gN, oo, none⟩) NN.length kN] 75) (zqp (.cells #[.slice (some ⟨w2.heap.size, 0, none⟩) NN.length NN.length] 28) fl)
 replace fr := zqp (.cells #[.slice (some ⟨gN, oo, none⟩) NN.length kN] 75) (zqp (.cells #[.slice (some ⟨w2.heap.size, 0, none⟩) NN.length NN.length] 28) fr)
 clear HR0 hmk hb3 hz3
 generalize (w3.alloc (.cells #[.slice (some ⟨w2.heap.size, 0, none⟩) NN.length NN.length] 28)).alloc (.cells #[.slice (some ⟨gN, oo, none⟩) NN.length kN] 75) = w4 at *
 have HN4 : NdsAt w4 (some ⟨gN, oo, none⟩) NN := HN.out.later hb4
 refine wpIn_rangeFunc_ownH rfl (by decide) (gf := 73) (lb := #[.pointer (some ⟨w2.heap.size + 1 + 1, 0, none⟩)]) rfl trivial (enters_of Tryz.func73 (by kernel_rfl) rfl)
  (back_stops () (w2.heap.size + 1 + 1) w2.heap.size gN oo kN NN 4 (by decide) (by omega) hgN w4 (by omega) fn HN4) kpB_t (kpB_b (by omega)) (Below.refl _ _) (fun _ => rfl)
  (fun pre W => Below w2.heap.size w2 W ∧ objAt W (w2.heap.size + 1) = some (.cells #[.slice (some ⟨w2.heap.size, 0, none⟩) NN.length NN.length] 28) ∧ w2.heap.size + 1 + 1 < W.heap.size ∧ ∃ G, Row64 W w2.heap.size NN.length G ∧ (∀ i, i < NN.length → Bytes 64 (G i)) ∧ (pre = itA NN.length pre.length → ∀ i, NN.length - pre.length ≤ i → i < NN.length → G i = PF i))
  (fun _ _ _ => False)
  (fun pre W W' row hs hg hr => ⟨(ownFrom_below (β := Unit) (Nat.le_refl _) (by omega)) () W W' row hs.1 hg hr, (cells_kept hs.2.1 hg hr).trans hs.2.1, Nat.lt_of_lt_of_le hs.2.2.1 hg.size, by
   obtain ⟨_, _, _, G, h3, h4, h5⟩ := hs
   obtain ⟨cs, hc⟩ := zqmh h3
   exact ⟨G, h3.by (cells_kept hc hg hr), h4, h5⟩⟩)
  (fun _ _ _ _ _ hs _ _ => hs)
  ⟨hb4, fp, by omega, fun _ => zqd, HR4.out, fun i hi j hj => ⟨Int.le_refl 0, by show (0 : Int) ≤ 255; decide⟩, fun _ i h1 h2 => by simp at h1; omega⟩
  (fun x a' W => ∃ Bv, w2.heap.size + 1 + 1 < Bv ∧ objAt W Bv = some (.cells #[.int .i64 ((ndAt NN x.1).f : Int), .int .i64 ((ndAt NN x.1).s : Int)] 26) ∧ a' = { tmps := #[Value.slice (some ad) n c, Value.pointer (some ⟨w.heap.size, 0, none⟩), Value.pointer (some ⟨w.heap.size + 1, 0, none⟩), Value.bool false, Value.slice (some ⟨gN, oo, none⟩) NN.length kN, Value.pointer (some ⟨w2.heap.size + 1, 0, none⟩), .int .i64 (x.1 : Int), .pointer (some ⟨Bv, 0, none⟩), undef, Value.slice (some ad) n c, Value.int .i64 (n : Int), Value.bool (decide ((n : Int) < 2)), Value.bool (decide ((n : Int) < 2)), Value.slice (some ad) n c, Value.int .i64 (n : Int), Value.bool (decide (1024 < (n : Int))), Value.bool (decide ((n : Int) < 2) || decide (1024 < (n : Int))), undef, Value.slice (some ad) n c, Value.int .i64 (n : Int), Value.slice (some ⟨gN, oo, none⟩) NN.length kN, Value.slice (some ⟨gN, oo, none⟩) NN.length kN, Value.int .i64 (NN.length : Int), Value.slice (some ⟨w2.heap.size, 0, none⟩) NN.length NN.length, Value.slice (some ⟨gN, oo, none⟩) NN.length kN, Value.func (Fn.func 73) #[] #[Value.pointer (some ⟨w2.heap.size + 1 + 1, 0, none⟩)], .int .i64 (x.1 : Int), .agg #[.int .i64 ((ndAt NN x.1).f : Int), .int .i64 ((ndAt NN x.1).s : Int)], undef, undef, undef, undef, undef, undef, undef, undef, undef, undef, undef, undef, undef, undef, undef, undef, undef, undef, undef, undef, undef, undef, undef, undef, undef, undef, undef, undef, undef, undef, undef, undef, undef], defers := [] })
  (fun x a' _ W W' row hs hg hr => by
   obtain ⟨Bv, h1, h2, h3⟩ := hs
   exact ⟨Bv, h1, (cells_kept h2 hg hr).trans h2, h3⟩)
  ?assign ?body ?done ?stop
 case assign =>
  rintro l pre x W K ⟨hb, hp, hsz, G, hR, hGB, hGp⟩ hK
  gi_wp2
  exact hK _ _ ((KeepsOthers.alloc _ _).from _) ⟨(Below.refl w2.heap.size W).alloc hb.size _, fun _ _ _ e => zqp _ e⟩ ⟨Grew.alloc hb _, zqp _ hp, by simp; omega, G, hR.later (Grew.alloc (Grew.refl W) _), hGB, hGp⟩ ⟨W.heap.size, hsz, zqh _ _ _ rfl, rfl⟩
 case body =>
  rintro l pre ⟨i, hi⟩ a' W hl - ⟨hb, hp, hsz, G, hR, hGB, hGp⟩ ⟨Bv, hBv, fv, rfl⟩ hpl
  obtain ⟨v, hv⟩ : ∃ v, NN[i]? = some v := ⟨_, List.getElem?_eq_getElem hi⟩
  simp only [zqf3 hv] at fv ⊢
  obtain ⟨v1, v2, v3, v4⟩ := hNv.out i v hv
  obtain ⟨cs0, hPc⟩ := zqmh hR
  have HR : Hid (Row64 W w2.heap.size NN.length G) := hR
  have fl2 := zqb hb flw
  have hGW : Below w.heap.size w W := Grew.trans hGw hb
  have lfl := zqa fl2
  have lfv := zqa fv
  have lp := zqa hp
  have hi1 : (i : Int) < (NN.length : Int) := by omega
  have hi0 : (0 : Int) ≤ (i : Int) := by omega
  have hf1 : (v.f : Int) < (n : Int) := by omega
  have hf0 : (0 : Int) ≤ (v.f : Int) := by omega
  have hEND : Hid (∀ W' : World, Below w2.heap.size w2 W' → objAt W' (w2.heap.size + 1) = some (.cells #[.slice (some ⟨w2.heap.size, 0, none⟩) NN.length NN.length] 28) → w2.heap.size + 1 + 1 < W'.heap.size → Row64 W' w2.heap.size NN.length (updR G i (newR L G v i)) →
    Below w2.heap.size w2 W' ∧ objAt W' (w2.heap.size + 1) = some (.cells #[.slice (some ⟨w2.heap.size, 0, none⟩) NN.length NN.length] 28) ∧ w2.heap.size + 1 + 1 < W'.heap.size ∧ ∃ G, Row64 W' w2.heap.size NN.length G ∧ (∀ i, i < NN.length → Bytes 64 (G i)) ∧ (pre ++ [⟨i, hi⟩] = itA NN.length (pre ++ [(⟨i, hi⟩ : BkT NN.length)]).length → ∀ j, NN.length - (pre ++ [(⟨i, hi⟩ : BkT NN.length)]).length ≤ j → j < NN.length → G j = PF j)) := fun W' q1 q2 q3 q4 => ⟨q1, q2, q3, _, q4, fun i' hi' => by
   unfold updR
   split
   ·exact zqxb fun e => hL _ (by omega)
   ·exact hGB i' hi', fun hpre j h1 h2 => by
   obtain ⟨r1, r2⟩ := itA_next hpl hpre
   simp only at r2
   have hp := hGp r1
   rw [List.length_append, show [(⟨i, hi⟩ : BkT NN.length)].length = 1 from rfl] at h1
   unfold updR
   split
   ·rename_i e
    subst e
    exact hNt.out j v G hv fun h => ⟨hp _ (by omega) (by have := v4 h; omega), hp _ (by have := zqb5 h; omega) (by have := v4 h; omega)⟩
   ·exact hp j (by omega) h2⟩
  clear hR hl
  by_cases e1 : v.s = 1
  ·have e1i : (v.s : Int) = 1 := by omega
   have hnr : newR L G v i = keysF (L v.f) (pubF (L v.f)) := by unfold newR; rw [if_pos e1]
   have cO := fun W : World => of_pub (L v.f) W (hL v.f (by omega))
   have lK := fun q : More => HK.out.loadK (show v.f < n by omega) (Grew.more hGW q)
   rw [e1i] at fv
   gi_wp2
   (refine wpIn_tail_round 9 (by kernel_rfl) (by kernel_rfl) (by rintro ⟨_, _, h⟩; exact h) (by kernel_rfl) (by kernel_rfl) (by kernel_rfl) (by kernel_rfl) ?_; simp only [List.take_succ_cons, List.take_zero]; (repeat (first | go_big_quiet_skip | (go_big_quiet_want; go_big_quiet_op; first | go_big_quiet_on | (apply Exists.intro; refine ⟨fun _ => ?_, ?_⟩; (focus (first | (with_reducible exact Calls.of_more (cO _)))); go_big_quiet_on)))); refine wpQuiet_nil ?_; rintro _ ⟨mq, rfl⟩)
   obtain ⟨cs, hst, hR7⟩ := (HR.out.later (zqj W mq)).store hi (keysF (L v.f) (pubF (L v.f)))
   have HR7 : Hid (Row64 ((more W mq).setRow w2.heap.size cs) w2.heap.size NN.length (updR G i (newR L G v i))) := by rw [hnr]; exact hR7
   have HB7 : Hid (Below W.heap.size W (more W mq)) := zqj W mq
   have HP7 : Hid (objAt ((more W mq).setRow w2.heap.size cs) (w2.heap.size + 1) = some (.cells #[.slice (some ⟨w2.heap.size, 0, none⟩) NN.length NN.length] 28)) := zqg _ _ (zqk mq hp) (by omega)
   have HW7 : Hid (Below w2.heap.size w2 ((more W mq).setRow w2.heap.size cs)) := Grew.setRow (Grew.more hb mq) _ _ (Nat.le_refl _)
   clear hR7 lK hnr
   (refine zqaa (i := 9) (fuel := 0) (by kernel_rfl) rfl ?_; intro K hK; go_simp; refine hK _ _ ?_; clear hK K)
   (refine wpAny_done (by kernel_rfl) ?_ _)
   gi_wp2
   exact ⟨zqq3 cs hPc HB7.out, ⟨Below.setRow9 ((HB7.out).mono hb.size) _ _ (Nat.le_refl _), fun cs' t' fr' e => zqg _ _ (zqb HB7.out e) (by omega)⟩, hEND.out _ HW7.out HP7.out (by rw [zqap]; have := HB7.out.size; omega) HR7.out⟩
  ·have h2s : 2 ≤ v.s := by omega
   have e1i : ¬ ((v.s : Int) = 1) := by omega
   obtain ⟨v5, v6⟩ := v4 h2s
   have hnr : newR L G v i = keysF (upF (G (i + 1)) (fun k => G (i + 2 * leftN v.s) (k + 32))) (pubF (upF (G (i + 1)) (fun k => G (i + 2 * leftN v.s) (k + 32)))) := by unfold newR; rw [if_neg e1]
   have cl := fun W : World => zqrq (v.s : Int) W (by omega)
   rw [show ((v.s : Int)).toNat = v.s by omega] at cl
   have cU := fun (W : World) (h : Tabs W) => zqvf (G (i + 1)) (G (i + 2 * leftN v.s)) W (hGB _ v5) (hGB _ v6) h
   have hlb := zqb5 h2s
   gi_wp2_with fail
   refine ⟨trivial, (CallsIn.inRound l (callsIn_wide.2 (cl _))).mono ?_⟩
   rintro e W2 ⟨rfl, hbL⟩
   replace fv := zqb hbL fv
   replace hp := zqb hbL hp
   replace fl2 := zqb hbL fl2
   replace hGW : Below w.heap.size w W2 := Grew.trans hGW hbL
   have hb2 : Below w2.heap.size w2 W2 := Grew.trans hb hbL
   have HRL : Hid (Row64 W2 w2.heap.size NN.length G) := HR.out.later hbL
   have lfl := zqa fl2
   have lfv := zqa fv
   have lp := zqa hp
   have HBL : Hid (Below W.heap.size W W2) := hbL
   generalize newR L G v i = NR at *
   generalize upF (G (i + 1)) (fun k => G (i + 2 * leftN v.s) (k + 32)) = U at *
   generalize leftN v.s = M at *
   have ht1 : ((i : Int) + 1).toNat = i + 1 := by omega
   have ht2 : ((i : Int) + 2 * (M : Int)).toNat = i + 2 * M := by omega
   have hj1 : (i : Int) + 1 < (NN.length : Int) := by omega
   have hj2 : (i : Int) + 2 * (M : Int) < (NN.length : Int) := by omega
   have hj3 : (0 : Int) ≤ (i : Int) + 1 := by omega
   have hj4 : (0 : Int) ≤ (i : Int) + 2 * (M : Int) := by omega
   have lP1 := fun q : More => (HRL.out.later (zqj W2 q)).load v5
   have lP2 := fun q : More => (HRL.out.later (zqj W2 q)).load v6
   clear hbL cl HR
   gi_wp2_with fail
   (refine wpIn_tail_round 13 (by kernel_rfl) (by kernel_rfl) (by rintro ⟨_, _, h⟩; exact h) (by kernel_rfl) (by kernel_rfl) (by kernel_rfl) (by kernel_rfl) ?_; simp only [List.take_succ_cons, List.take_zero]; (repeat (first | go_big_quiet_skip | (go_big_quiet_want; go_big_quiet_op; first | go_big_quiet_on | (apply Exists.intro; refine ⟨fun _ => ?_, ?_⟩; (focus (first | (with_reducible exact Calls.of_more (cU _ (hTT.out.later (Grew.trans hGW (zqj W2 _))))))); go_big_quiet_on)))); refine wpQuiet_nil ?_; rintro _ ⟨mq, rfl⟩)
   obtain ⟨cs, hst, hR7⟩ := (HRL.out.later (zqj W2 mq)).store hi (keysF U (pubF U))
   have HR7 : Hid (Row64 ((more W2 mq).setRow w2.heap.size cs) w2.heap.size NN.length (updR G i NR)) := by rw [hnr]; exact hR7
   have HB7 : Hid (Below W.heap.size W (more W2 mq)) := Grew.more HBL.out mq
   have HP7 : Hid (objAt ((more W2 mq).setRow w2.heap.size cs) (w2.heap.size + 1) = some (.cells #[.slice (some ⟨w2.heap.size, 0, none⟩) NN.length NN.length] 28)) := zqg _ _ (zqk mq hp) (by omega)
   have HW7 : Hid (Below w2.heap.size w2 ((more W2 mq).setRow w2.heap.size cs)) := Grew.setRow (Grew.more hb2 mq) _ _ (Nat.le_refl _)
   clear hR7 lP1 lP2 hnr
   (refine zqaa (i := 13) (fuel := 0) (by kernel_rfl) rfl ?_; intro K hK; go_simp; refine hK _ _ ?_; clear hK K)
   (refine wpAny_done (by kernel_rfl) ?_ _)
   gi_wp2
   exact ⟨zqq3 cs hPc HB7.out, ⟨Below.setRow9 ((HB7.out).mono hb.size) _ _ (Nat.le_refl _), fun cs' t' fr' e => zqg _ _ (zqb HB7.out e) (by omega)⟩, hEND.out _ HW7.out HP7.out (by rw [zqap]; have := HB7.out.size; omega) HR7.out⟩
 case done =>
  rintro D xs W hD rfl ⟨hb, hp, hsz, G, hR, hGB, hGp⟩ hKD
  have fr2 := zqb hb frw
  have HE : Hid (Row64 W w2.heap.size NN.length PF) := hR.congr fun i hi => hGp (by rw [itA_len _ (Nat.le_refl _)]) i (by rw [itA_len _ (Nat.le_refl _)]; omega) hi
  have hGW : Below w.heap.size w W := Grew.trans hGw hb
  have lfr := zqa fr2
  have lp := zqa hp
  clear hR hGB hGp
  gi_wp2
  have hKD' : (W.setRow (w.heap.size + 1) #[.slice (some ⟨w2.heap.size, 0, none⟩) NN.length NN.length]).heap[D]? = some (.deferred (some [])) := (zqal W (w.heap.size + 1) D _ (by omega)).trans hKD
  have hp2 : objAt ((W.setRow (w.heap.size + 1) #[.slice (some ⟨w2.heap.size, 0, none⟩) NN.length NN.length]).putObj D (.deferred none)) (w.heap.size + 1) = some (.cells #[.slice (some ⟨w2.heap.size, 0, none⟩) NN.length NN.length] 30) := (World.putObj_heap_other (by omega)).trans (zqt _ fr2)
  have hE2 : objAt ((W.setRow (w.heap.size + 1) #[.slice (some ⟨w2.heap.size, 0, none⟩) NN.length NN.length]).putObj D (.deferred none)) w2.heap.size = objAt W w2.heap.size := (World.putObj_heap_other (by omega)).trans (zqal _ _ _ _ (by omega))
  refine ⟨by simp, .inl ⟨_, _, rfl, run_takeDeferred hKD', ?_⟩⟩
  exact ⟨_, zqmb rfl _ _ _ (0, 0) _ _ rfl rfl hp2 Tryz.underlying30 rfl (by kernel_rfl), w2.heap.size, _, rfl, HE.out.by hE2, (Grew.setRow hGW _ _ (by omega)).trans (belowK_b (w := w) (Nat.le_refl _) _ D _ _ (by omega) hKD' rfl rfl)⟩
 case stop =>
  rintro D c pre W _ _ h _
  exact h.elim
end Go.Proofs.YtconieddcjpbjaaGreatDoor
namespace Go.Proofs.YtconieddcjpbjaaGreatDoor
open Go.RowKit
set_option linter.unusedVariables false
set_option linter.unusedSimpArgs false
theorem zqsr (oa : Option Addr) (n c : Nat) (w : World) (hn : n < 2) :
  Calls Tryz.prog 9 #[.slice oa n c] w fun e w' => e = .returned (.tuple #[.agg #[.slice none 0 0], .bool false]) ∧ Below w.heap.size w w' := by
 have hn2 : (n : Int) < 2 := by omega
 have hG := Grew.refl w
 have fl : True := trivial
 have fr : True := trivial
 go_enter Tryz.func9, Tryz.ntmps9
 go_wp2_with fail
 replace fl : objAt ((w.alloc (.cells #[.slice oa n c] 22)).alloc (.cells #[.slice none 0 0] 30)) (w.heap.size) = some (.cells #[.slice oa n c] 22) := by exact zqc
 replace fr : objAt ((w.alloc (.cells #[.slice oa n c] 22)).alloc (.cells #[.slice none 0 0] 30)) (w.heap.size + 1) = some (.cells #[.slice none 0 0] 30) := by exact zqc
 replace hG : Below w.heap.size w ((w.alloc (.cells #[.slice oa n c] 22)).alloc (.cells #[.slice none 0 0] 30)) := by exact zqe
 generalize (w.alloc (.cells #[.slice oa n c] 22)).alloc (.cells #[.slice none 0 0] 30) = w1 at *
 have lfl := zqa fl
 have lfr := zqa fr
 go_wp2
 refine zqa6 rfl _ 30 #[.slice none 0 0] (0, 0) _ _ rfl rfl (by exact zqc) Tryz.underlying30 rfl (by kernel_rfl) rfl ⟨rfl, by exact zqe⟩
end Go.Proofs.YtconieddcjpbjaaGreatDoor
