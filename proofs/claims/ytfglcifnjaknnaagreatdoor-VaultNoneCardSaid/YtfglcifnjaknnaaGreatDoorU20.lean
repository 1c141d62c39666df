/- U20 -/
import Derived.Test.YtfglcifnjaknnaaGreatDoorU19
import Derived.Test.YtfglcifnjaknnaaGreatDoorB17
import Derived.Test.YtfglcifnjaknnaaGreatDoorC16
import Derived.Test.YtfglcifnjaknnaaGreatDoorL13
import Derived.Test.YtfglcifnjaknnaaGreatDoorQ13
import Derived.Test.YtfglcifnjaknnaaGreatDoorQ11
import Derived.Test.YtfglcifnjaknnaaGreatDoorR11
set_option linter.unusedVariables false
set_option linter.unusedSimpArgs false
set_option maxRecDepth 100000
set_option maxHeartbeats 4000000
namespace Go.Proofs.YtfglcifnjaknnaaGreatDoor
open Go.RowKit Go.Extern
attribute [local go_sem high] zqfk
def UpAt (w : World) (v : Value) (s l : Int) (n : Nat) (P : Nat -> Nat -> Int) (t : Nat -> Int) : Prop := ∃ oa c, v = .agg (uvC s l (.slice oa n c) t) /\ K32At w oa n P
theorem UpAt.later {w w' : World} {v : Value} {s l : Int} {n : Nat} {P : Nat -> Nat -> Int} {t : Nat -> Int} (h : UpAt w v s l n P t) (hb : Below w.heap.size w w') : UpAt w' v s l n P t := by
 obtain ⟨oa, c, e, hp⟩ := h;exact ⟨oa, c, e, hp.later hb⟩
end Go.Proofs.YtfglcifnjaknnaaGreatDoor
namespace Go.Proofs.YtfglcifnjaknnaaGreatDoor
open Go.RowKit Go.Extern
theorem zq0c {s l : Int} {b : Value} {t t' : Nat -> Int} (h : ∀ i, i < 32 -> t i = t' i) : uvC s l b t = uvC s l b t' := by
 unfold uvC;rw [zqba h]
theorem UpAt.congr {w : World} {v : Value} {s l : Int} {n : Nat} {P P' : Nat -> Nat -> Int} {t t' : Nat -> Int} (h : UpAt w v s l n P t) (hP : ∀ j, j < n -> ∀ i, i < 32 -> P j i = P' j i) (ht : ∀ i, i < 32 -> t i = t' i) : UpAt w v s l n P' t' := by
 obtain ⟨oa, c, rfl, hp⟩ := h;exact ⟨oa, c, by rw [zq0c ht], hp.congr2 hP⟩
theorem UpAt.zero {w : World} {v : Value} {P P' : Nat -> Nat -> Int} {t : Nat -> Int} (h : UpAt w v 0 0 0 P t) : UpAt w v 0 0 0 P' t := by
 obtain ⟨oa, c, rfl, -⟩ := h;exact ⟨oa, c, rfl, .inl rfl⟩
attribute [local go_sem high] zqfk
end Go.Proofs.YtfglcifnjaknnaaGreatDoor
namespace Go.Proofs.YtfglcifnjaknnaaGreatDoor
open Go.RowKit Go.Extern
@[go_sem high] theorem zrmi (w : World) : (Instr.makeSlice 44 (.int .i64 1) (.int .i64 1)).run Tryz.prog w = .ok (.slice (some ⟨w.heap.size, 0, none⟩) 1 1) (w.alloc (.cells (ints .u8 32 zqd) 29)) := by kernel_rfl
theorem zqsv (aw : ∀ (w : World), Tabs w -> EtAt w -> Calls Tryz.prog 139 #[] w (Rt w (.bool true))) (w : World) (hT : Tabs w) (hE : EtAt w) :
  Calls Tryz.prog 103 #[] w (Rt w (.bool true)) := by
 go_enter Tryz.func103, Tryz.ntmps103
 go_wp2_with fail;refine (aw _ hT hE).mono ?_
 rintro e w2 ⟨rfl, hb⟩;go_wp2;go_ret;exact ⟨rfl, hb⟩
theorem zqsc (aw : ∀ (w : World), Tabs w -> EtAt w -> Calls Tryz.prog 103 #[] w (Rt w (.bool true))) (w : World) (hT : Tabs w) (hE : EtAt w) :
  Calls Tryz.prog 75 #[] w (Rt w (.bool true)) := by
 have hz := zq91 0 0 1 (fun _ => zqd) zqd;have cB := fun (g : Nat) (W : World) (h : K32At W (some ⟨g, 0, none⟩) 1 (fun _ => zqd)) => zqxa 0 0 (some ⟨g, 0, none⟩) 1 1 zqd (fun _ => zqd) W (by decide) (by decide) h (fun _ _ => zqi2) zqi2 (by decide) (by decide);generalize uB 0 0 1 (fun _ => zqd) zqd = Z at *
 go_enter Tryz.func75, Tryz.ntmps75
 have hK : K32At (w.alloc (.cells (ints .u8 32 zqd) 29)) (some ⟨w.heap.size, 0, none⟩) 1 (fun _ => zqd) := zqy1 (zqg _ _ _ rfl) (by decide);have hG : Below w.heap.size w (w.alloc (.cells (ints .u8 32 zqd) 29)) := Grew.alloc (Grew.refl _) _;go_wp2_with fail;refine (cB _ _ hK).mono ?_
 rintro e w1 ⟨rfl, hb⟩;replace hG := Grew.trans hG hb;go_wp2_with fail;refine (aw _ (hT.later hG) (hE.later hG)).mono ?_
 rintro e w2 ⟨rfl, hb⟩;replace hG := Grew.trans hG hb;have hz2 : (Z.size : Int) = 73 := by omega
 go_wp2;go_ret;exact ⟨rfl, hG⟩
end Go.Proofs.YtfglcifnjaknnaaGreatDoor
namespace Go.Proofs.YtfglcifnjaknnaaGreatDoor
open Go.ChangeShapes Go.WideShapes Go.ChangeAt Go.RowKit
theorem one_of {α : Type} (l : List α) (k : Nat) (h : k < l.length) : (l.drop k).take 1 = [l[k]] := by
 rw [List.drop_eq_getElem_cons h]
 rfl
end Go.Proofs.YtfglcifnjaknnaaGreatDoor
