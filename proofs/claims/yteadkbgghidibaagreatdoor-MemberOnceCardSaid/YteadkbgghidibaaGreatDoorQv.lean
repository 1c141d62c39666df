/- Qv -/
import Derived.Test.YteadkbgghidibaaGreatDoorQq
import Derived.Test.YteadkbgghidibaaGreatDoorWm
namespace Go.Proofs.YteadkbgghidibaaGreatDoor
namespace Mc
open Go.RowKit
set_option linter.unusedVariables false
set_option linter.unusedSimpArgs false
noncomputable def KT (f : FuncId) : Prop := ∀ w : World, Tabs w → EtAt w → Calls Tryz.prog f #[] w fun e w' => e = .returned (.bool true) ∧ Below w.heap.size w w'
noncomputable def awL (l : List FuncId) : Caller := fun t ys H n => match t with
 | .f f => match mem f l with
  | true => match ys with
   | [] => some (.V (.bool true), H, n)
   | _ => none
  | false => none
 | .y _ => none
theorem awL_ok {w0 : World} (hT : Tabs w0) (hE : EtAt w0) {l : List FuncId} (hl : ∀ f ∈ l, KT f) : CallOk Tryz.prog (From w0) (awL l) := fun t ys H n r h hlt s w hC hI => by
 unfold awL at h
 split at h
 ·rename_i f
  split at h
  ·rename_i hf
   split at h
   ·cases h
    refine Calls.mono (hl f ((mem_iff f l).1 hf) w (hT.later hC.1) (hE.later hC.1)) ?_
    rintro e w' ⟨rfl, hb⟩
    exact ⟨s, by simp only [A.den], AdvF.grow hI hb⟩
   ·cases h
  ·cases h
 ·cases h
theorem aw10_KT : KT 265 := fun w hT _ => aw10 w hT
noncomputable def orcs : Caller := orBoth (oneC 176 (labO [115, 97, 112, 119, 111, 111, 100, 32, 110, 111, 100, 101])) <| orBoth (oneC 79 (labO [115, 97, 112, 119, 111, 111, 100, 32, 108, 101, 97, 102])) <|
 orBoth (oneC 149 (labO [115, 97, 112, 119, 111, 111, 100, 32, 116, 97, 103])) <| orBoth (oneC 148 stO) <| orBoth (oneC 147 paO) <| orBoth (oneC 94 maO) <|
 orBoth (oneC 44 baO) <| orBoth (oneC 78 shO) <| orBoth orcE <| orBoth (orcM 60) <| orBoth (orcM 61) <| orBoth orcB orcJ
theorem orcs_ok {w0 : World} (hT : Tabs w0) (hE : EtAt w0) : CallOk Tryz.prog (From w0) orcs := by
 have h : ∀ s w n, From w0 s w n → Tabs w := fun s w n hC => hT.later hC.1
 exact orBoth_ok (nodeO_ok h) <| orBoth_ok (leafO_ok h) <| orBoth_ok (tagO_ok h) <| orBoth_ok (stO_ok h) <| orBoth_ok (paO_ok h) <| orBoth_ok (maO_ok h) <| orBoth_ok baO_ok <| orBoth_ok shO_ok <| orBoth_ok (orcE_ok hE) <| orBoth_ok (orcM_ok cloK) <| orBoth_ok (orcM_ok cloU) <| orBoth_ok orcB_ok orcJ_ok
noncomputable def callW (l : List FuncId) : Caller := runFn Tryz.prog (orBoth (awL l) orcs) (drawR Tryz.prog) 5000 60
theorem callW_ok {w0 : World} (hT : Tabs w0) (hE : EtAt w0) {l : List FuncId} (hl : ∀ f ∈ l, KT f) : CallOk Tryz.prog (From w0) (callW l) :=
 runFn_ok (from_stab w0) (orBoth_ok (awL_ok hT hE hl) (orcs_ok hT hE)) (fun call C hc N => drawR_ok (by kernel_rfl) hc N) 60
noncomputable def isT : Option Q3 → Bool
 | some (.V (.bool b), _, _) => b
 | _ => false
theorem run_true {l : List FuncId} {f : FuncId} (hl : ∀ f ∈ l, KT f) (h : isT (callW l (.f f) [] .l ⟨0, fun _ => false⟩) = true) : KT f := fun w hT hE => by
 cases hr : callW l (.f f) [] .l ⟨0, fun _ => false⟩ with
 | none => rw [hr] at h; cases h
 | some r =>
  rw [hr] at h
  obtain ⟨a, H, n⟩ := r
  unfold isT at h
  split at h
  ·rename_i ob b e
   cases e
   subst h
   exact run_top (callW_ok hT hE hl) hr rfl
  ·cases h
theorem KT.one {f : FuncId} (h : KT f) : ∀ g ∈ [f], KT g := fun g hg => by rw [List.mem_singleton.1 hg]; exact h
end Mc
end Go.Proofs.YteadkbgghidibaaGreatDoor
