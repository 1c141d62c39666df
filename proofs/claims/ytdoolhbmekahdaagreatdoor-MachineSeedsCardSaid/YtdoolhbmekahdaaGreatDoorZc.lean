/- Zc -/
import Derived.Test.YtdoolhbmekahdaaGreatDoorXx
import Derived.Test.YtdoolhbmekahdaaGreatDoorXq
import Derived.Test.YtdoolhbmekahdaaGreatDoorSk
import Derived.Test.YtdoolhbmekahdaaGreatDoorCt
namespace Go.Proofs.YtdoolhbmekahdaaGreatDoor
namespace Mc
set_option maxRecDepth 1000000
theorem aw23_KT : KT 279 := run_true aw22_KT.one (by decide +kernel)
theorem aw24_KT : KT 233 := run_true aw23_KT.one (by decide +kernel)
end Mc
end Go.Proofs.YtdoolhbmekahdaaGreatDoor
namespace Go.Proofs.YtdoolhbmekahdaaGreatDoor
namespace Mc
open Go.RowKit
set_option linter.unusedVariables false
set_option linter.unusedSimpArgs false
noncomputable def entV (s : Sg) (es : List (Int × A)) : List (Int × Value) := es.map fun e => (e.1, e.2.den s)
theorem mapD_V (s : Sg) (es : List (Int × A)) : mapD s .u32 es = mapV (entV s es) := by
 simp only [mapD, mapV, entV, List.map_map]
 rfl
theorem entV_keys (s : Sg) (es : List (Int × A)) : (entV s es).map (·.1) = es.map (·.1) := by
 simp only [entV, List.map_map]
 rfl
noncomputable def lenA : A → Option Nat
 | .C _ _ l _ => some l
 | .D _ _ _ l => some l
 | .V v => match v with
  | .slice _ l _ => some l
  | _ => none
 | _ => none
theorem lenA_ok {a : A} {l : Nat} (h : lenA a = some l) (s : Sg) : ∃ oa c, a.den s = .slice oa l c := by
 unfold lenA at h
 split at h
 ·cases h; exact ⟨_, _, by simp only [A.den]; rfl⟩
 ·cases h; exact ⟨_, _, by simp only [A.den]; rfl⟩
 ·split at h
  ·cases h; exact ⟨_, _, by simp only [A.den]; rfl⟩
  ·cases h
 ·cases h
noncomputable def lensA : List (Int × A) → Option Nat
 | [] => some 0
 | e :: r => match lenA e.2, lensA r with
  | some l, some m => some (l + m)
  | _, _ => none
theorem lensA_ok (s : Sg) : ∀ (es : List (Int × A)) (t : Nat), lensA es = some t → (∀ e ∈ entV s es, ∃ a l c, e.2 = .slice a l c) ∧ sumL (fun _ => false) (entV s es) = t
 | [], t, h => by cases h; exact ⟨(fun e he => absurd he (List.not_mem_nil)), rfl⟩
 | e :: r, t, h => by
  unfold lensA at h
  split at h
  ·rename_i l m h1 h2
   cases h
   obtain ⟨oa, c, h3⟩ := lenA_ok h1 s
   obtain ⟨h4, h5⟩ := lensA_ok s r m h2
   refine ⟨fun x hx => ?_, ?_⟩
   ·rcases List.mem_cons.1 hx with rfl | hx
    ·exact ⟨oa, l, c, h3⟩
    ·exact h4 x hx
   ·show (if (fun _ => false) (Lit.int .u32 e.1) = true then 0 else lenV (e.2.den s)) + sumL (fun _ => false) (entV s r) = l + m
    rw [h5, h3]
    simp [lenV]
  ·cases h
noncomputable def offM (H : Tr O) (x : A) : Option (Nat × Nat × List (Int × A)) := match x with
 | .P g 0 => match H.get g with
  | some (.R [.M m] t (0, 0)) => match getM Tryz.prog H m with
   | some (es, k, q) => match Nat.beq t 153 && Nat.beq k 71 && decide (q = .u32) && incr (es.map (·.1)) with
    | true => some (g, m, es)
    | false => none
   | none => none
  | _ => none
 | _ => none
theorem offM_ok {s : Sg} {w : World} {H : Tr O} {n : Nm} {x : A} {g m : Nat} {es : List (Int × A)} (hI : Inv Tryz.prog s w H n) (h : offM H x = some (g, m, es)) : x = .P g 0 ∧ objAt w (s.a g) = some (.cells #[.map (some (s.a m))] 153) ∧ w.ownsMap Tryz.prog 71 hV (s.a m) es.length (mapV (entV s es)) ∧ incr ((entV s es).map (·.1)) = true := by
 unfold offM at h
 split at h
 ·split at h
  ·rename_i hk
   split at h
   ·rename_i hm
    split at h
    ·rename_i hc
     cases h
     simp only [Bool.and_eq_true, decide_eq_true_eq] at hc
     obtain ⟨⟨⟨h1, h2⟩, rfl⟩, h4⟩ := hc
     obtain rfl := Nat.eq_of_beq_eq_true h1
     obtain rfl := Nat.eq_of_beq_eq_true h2
     obtain ⟨h5, -⟩ := getM_ok hI hm
     rw [mapD_V] at h5
     have h6 : objAt w (s.a g) = _ := hI.ok _ _ hk
     refine ⟨rfl, ?_, h5, by rw [entV_keys]; exact h4⟩
     rw [h6]
     simp [A.den]
    ·cases h
   ·cases h
  ·cases h
 ·cases h
noncomputable def orcW : Caller := fun t ys H n => match t with
 | .f f => match Nat.beq f 181 with
  | true => match ys with
   | [x] => match offM H x with
    | some (_, _, es) => match lensA es with
     | some z => match Nat.blt z 1000000 with
      | true => some (.V (.int .i64 z), H, n)
      | false => none
     | none => none
    | none => none
   | _ => none
  | false => none
 | .y _ => none
theorem orcW_ok {C : Sg → World → Nm → Prop} : CallOk Tryz.prog C orcW := fun t ys H n r h hl s w hC hI => by
 unfold orcW at h
 split at h
 ·rename_i f
  split at h
  ·rename_i hf
   obtain rfl := Nat.eq_of_beq_eq_true hf
   split at h
   ·rename_i x
    split at h
    ·rename_i g m es ho
     split at h
     ·rename_i z hz
      split at h
      ·rename_i hlt
       cases h
       rw [Nat.blt_eq] at hlt
       obtain ⟨rfl, h1, h2, h3⟩ := offM_ok hI ho
       obtain ⟨h4, h5⟩ := lensA_ok s es z hz
       unfold TgOk
       simp only [List.map_cons, List.map_nil, A.den]
       refine Calls.mono (waiting_any (s.a g) (s.a m) es.length (entV s es) w h1 h2 (nodup_lt (incr_lt _ h3)) h4 (by omega)) ?_
       rintro e w' ⟨rfl, hb⟩
       exact ⟨s, by rw [h5], AdvF.grow hI hb⟩
      ·cases h
     ·cases h
    ·cases h
   ·cases h
  ·cases h
 ·cases h
noncomputable def orcN : Caller := fun t ys H n => match t with
 | .f f => match Nat.beq f 173 with
  | true => match ys with
   | [x] => match offM H x with
    | some (_, _, es) => match Nat.blt es.length 13 && Nat.blt (n.c + 1) (2 ^ mx), es with
     | true, _ :: _ => some (.D n.c 0 0 es.length, H.set mx n.c (some (.B (es.map fun e => .V (.int .u32 e.1)) 71)), n.nx)
     | _, _ => none
    | none => none
   | _ => none
  | false => none
 | .y _ => none
theorem srt_B {w : World} {g : Nat} {ks : List Int} (h : SrtAt w g ks.toArray) : ∃ cur z, objAt w g = some (.cells cur 71 z) ∧ ks.length ≤ cur.size ∧ cur.toList.take ks.length = ks.map (Value.int .u32) := by
 obtain ⟨cur, h1, h2, h3⟩ := h
 rw [List.size_toArray] at h2 h3
 refine ⟨cur, _, h1, h2, List.ext_getElem? fun i => ?_⟩
 rw [List.getElem?_take, List.getElem?_map]
 by_cases hi : i < ks.length
 ·rw [if_pos hi, Array.getElem?_toList, h3 i hi, List.getElem?_eq_getElem hi]
  simp [hi]
 ·rw [if_neg hi, List.getElem?_eq_none (by omega)]
  rfl
theorem orcN_ok {C : Sg → World → Nm → Prop} : CallOk Tryz.prog C orcN := fun t ys H n r h hl s w hC hI => by
 unfold orcN at h
 split at h
 ·rename_i f
  split at h
  ·rename_i hf
   obtain rfl := Nat.eq_of_beq_eq_true hf
   split at h
   ·rename_i x
    split at h
    ·rename_i g m es ho
     split at h
     ·rename_i e0 r0 hc
      cases h
      simp only [Bool.and_eq_true, Nat.blt_eq] at hc
      obtain ⟨rfl, h1, h2, h3⟩ := offM_ok hI ho
      unfold TgOk
      simp only [List.map_cons (f := A.den s), List.map_nil (f := A.den s), A.den]
      refine Calls.mono (names_any (s.a g) (s.a m) _ (entV s (e0 :: r0)) w h1 h2 h3 (by simp [entV]) (by simpa [entV] using hc.1)) ?_
      rintro e w' ⟨g', c, rfl, q1, q2, hb⟩
      rw [entV_keys] at q2
      refine ⟨s.add n g' c, ?_, Adv.new hI hc.2 ?_ ?_ q1 hb.os hb.tape hb.output hb.size fun b hlt => hb.block b hlt⟩
      ·simp only [A.den, (s.add_new n g' c).1, (s.add_new n g' c).2, entV, List.length_map, Nat.sub_zero]
      ·simp only [O.lt, List.all_map]
       exact List.all_eq_true.2 fun a ha => rfl
      ·obtain ⟨cur, z, p1, p2, p3⟩ := srt_B q2
       rw [List.length_map] at p2 p3
       refine ⟨cur, z, by rw [(s.add_new n g' c).1]; exact p1, by rw [List.length_map]; exact p2, ?_⟩
       rw [List.length_map, p3, List.map_map, List.map_map]
       exact List.map_congr_left fun e he => by simp only [Function.comp, A.den]
     ·cases h
    ·cases h
   ·cases h
  ·cases h
 ·cases h
noncomputable def lnb : List Nat → List Nat → Bool
 | [], [] => true
 | a :: k, b :: q => match Nat.beq a b with
  | true => lnb k q
  | false => false
 | _, _ => false
theorem lnb_iff : ∀ k q : List Nat, lnb k q = true ↔ k = q
 | [], [] => by simp [lnb]
 | [], b :: q => by simp [lnb]
 | a :: k, [] => by simp [lnb]
 | a :: k, b :: q => by
  unfold lnb
  cases h : Nat.beq a b with
  | true => rw [Nat.eq_of_beq_eq_true h, lnb_iff k q]; simp
  | false =>
   have : a ≠ b := fun e => by rw [e, show Nat.beq b b = true from Nat.beq_refl b] at h; cases h
   simp [this]
noncomputable def saO (ys : List A) (_ : Tr O) : Option A := match ys with
 | [a, b] => withKey a fun k => withKey b fun q => some (.V (.bool (lnb k q)))
 | _ => none
theorem saO_ok {C : Sg → World → Nm → Prop} : CallOk Tryz.prog C (oneC 325 saO) :=
 one_ok fun s w H n ys a hC hI h => by
  unfold saO at h
  split at h
  ·obtain ⟨k, h, k2, k3, k4⟩ := withKey_ok s h
   obtain ⟨q, h, q2, q3, q4⟩ := withKey_ok s h
   cases h
   have hs : same 32 (fnL k) (fnL q) = lnb k q := by
    rw [Bool.eq_iff_iff, same_iff, lnb_iff]
    exact ⟨fun h => by rw [← k4, ← q4, strOf_congr h], fun h i _ => by rw [h]⟩
   have := same_any (fnL k) (fnL q) w k3 q3
   rw [hs] at this
   simp only [List.map_cons, List.map_nil, A.den]
   rw [k2, q2]
   exact this
  ·cases h
noncomputable def callG (l : List FuncId) : Caller := runFn Tryz.prog (orBoth (awL l) (orBoth (oneC 325 saO) (orBoth orcW (orBoth orcN orcs)))) (drawR Tryz.prog) 5000 60
theorem callG_ok {w0 : World} (hT : Tabs w0) (hE : EtAt w0) {l : List FuncId} (hl : ∀ f ∈ l, KT f) : CallOk Tryz.prog (From w0) (callG l) :=
 runFn_ok (from_stab w0) (orBoth_ok (awL_ok hT hE hl) (orBoth_ok saO_ok (orBoth_ok orcW_ok (orBoth_ok orcN_ok (orcs_ok hT hE))))) (fun call C hc N => drawR_ok (by kernel_rfl) hc N) 60
theorem run_trueG {l : List FuncId} {f : FuncId} (hl : ∀ f ∈ l, KT f) (h : isT (callG l (.f f) [] .l ⟨0, fun _ => false⟩) = true) : KT f := fun w hT hE => by
 cases hr : callG l (.f f) [] .l ⟨0, fun _ => false⟩ with
 | none => rw [hr] at h; cases h
 | some r =>
  rw [hr] at h
  obtain ⟨a, H, n⟩ := r
  unfold isT at h
  split at h
  ·rename_i ob b e
   cases e
   subst h
   exact run_top (callG_ok hT hE hl) hr rfl
  ·cases h
end Mc
end Go.Proofs.YtdoolhbmekahdaaGreatDoor
namespace Go.Proofs.YtdoolhbmekahdaaGreatDoor
namespace Mc
set_option maxRecDepth 1000000
theorem aw25_KT : KT 148 := run_trueG aw24_KT.one (by decide +kernel)
end Mc
end Go.Proofs.YtdoolhbmekahdaaGreatDoor
namespace Go.Proofs.YtdoolhbmekahdaaGreatDoor
namespace Mc
set_option maxRecDepth 1000000
theorem aw26_KT : KT 69 := run_trueG aw25_KT.one (by decide +kernel)
end Mc
end Go.Proofs.YtdoolhbmekahdaaGreatDoor
