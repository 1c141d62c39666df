/- Mq -/
import Derived.Test.YtdoolhbmekahdaaGreatDoorZc
import Derived.Lib.Bytealg
import Derived.Test.YtdoolhbmekahdaaGreatDoorMo
set_option maxRecDepth 100000
set_option maxHeartbeats 4000000
namespace Go.Proofs.YtdoolhbmekahdaaGreatDoor
namespace Mc
open Go.RowKit
set_option linter.unusedVariables false
set_option linter.unusedSimpArgs false
noncomputable def cntL (c : UInt8) : List UInt8 → Nat
 | [] => 0
 | a :: l => match Nat.beq a.toNat c.toNat with
  | true => cntL c l + 1
  | false => cntL c l
theorem beq_u8 {a c : UInt8} (h : Nat.beq a.toNat c.toNat = true) : a = c := UInt8.toNat_inj.1 (Nat.eq_of_beq_eq_true h)
theorem nbeq_u8 {a c : UInt8} (h : Nat.beq a.toNat c.toNat = false) : a ≠ c := fun e => by
 subst e
 rw [show Nat.beq a.toNat a.toNat = true from Nat.beq_refl _] at h
 cases h
theorem cntL_eq (c : UInt8) : ∀ l, Lib.countByte l c = cntL c l
 | [] => rfl
 | a :: l => by
  have ih := cntL_eq c l
  unfold Lib.countByte at ih ⊢
  rw [List.count_cons, ih]
  simp only [cntL]
  cases h : Nat.beq a.toNat c.toNat with
  | true => simp [beq_u8 h]
  | false => simp [nbeq_u8 h]
noncomputable def idxL (c : UInt8) : List UInt8 → Nat → Int
 | [], _ => -1
 | a :: l, k => match Nat.beq a.toNat c.toNat with
  | true => .ofNat k
  | false => idxL c l (k + 1)
theorem idxL_eq (c : UInt8) : ∀ l (k : Nat), idxL c l k = if Lib.indexByte l c = -1 then -1 else Lib.indexByte l c + k
 | [], k => by simp [idxL, Lib.indexByte]
 | a :: l, k => by
  have ih := idxL_eq c l (k + 1)
  have hge := Lib.indexByte_ge l c
  simp only [idxL, Lib.indexByte]
  cases h : Nat.beq a.toNat c.toNat with
  | true => simp [beq_u8 h]
  | false =>
   have hne : (a == c) = false := by simp [nbeq_u8 h]
   simp only [hne, ih]
   by_cases e : Lib.indexByte l c = -1
   ·simp [e]
   ·have e2 : (Lib.indexByte l c == -1) = false := by simp [e]
    have e3 : Lib.indexByte l c + 1 ≠ -1 := by omega
    simp [e, e2, e3]
    omega
theorem one_letter {b : ByteArray} {c : UInt8} (h : b.data.toList = [c]) : b = ⟨#[c]⟩ := by
 obtain ⟨d⟩ := b
 have : d = #[c] := by rw [← Array.toArray_toList (xs := d)]; simp only at h; rw [h]
 rw [this]
noncomputable def cntO (ys : List A) (_ : Tr O) : Option A := match ys with
 | [.V (.string s), .V (.string b)] => match b.data.toList with
  | [c] => frcN (cntL c s.data.toList) fun k => some (.V (.int .i64 (.ofNat k)))
  | _ => none
 | _ => none
theorem cntO_ok {C : Sg → World → Nm → Prop} : CallOk Tryz.prog C (oneC 121 cntO) :=
 one_ok fun s w H n ys a hC hI h => by
  unfold cntO at h
  split at h
  ·rename_i t b
   split at h
   ·rename_i c hb
    rw [frcN_eq] at h
    cases h
    rw [one_letter hb]
    simp only [List.map_cons, List.map_nil, A.den]
    refine (Tryz.strings_Count_one t c w).mono ?_
    rintro e w' ⟨rfl, rfl⟩
    exact ⟨by rw [cntL_eq]; rfl, Grew.refl _⟩
   ·cases h
  ·cases h
noncomputable def idxO (ys : List A) (_ : Tr O) : Option A := match ys with
 | [.V (.string s), .V (.string b)] => match b.data.toList with
  | [c] => some (.V (.int .i64 (idxL c s.data.toList 0)))
  | _ => none
 | _ => none
theorem idxO_ok {C : Sg → World → Nm → Prop} : CallOk Tryz.prog C (oneC 122 idxO) :=
 one_ok fun s w H n ys a hC hI h => by
  unfold idxO at h
  split at h
  ·rename_i t b
   split at h
   ·rename_i c hb
    cases h
    rw [one_letter hb]
    simp only [List.map_cons, List.map_nil, A.den]
    refine (Tryz.strings_Index_one t c w).mono ?_
    rintro e w' ⟨rfl, rfl⟩
    refine ⟨?_, Grew.refl _⟩
    rw [idxL_eq]
    split
    ·rename_i e; rw [e]
    ·rw [show ((0 : Nat) : Int) = 0 from rfl, Int.add_zero]
   ·cases h
  ·cases h
noncomputable def jnA (b : List UInt8) : List ByteArray → List UInt8
 | [] => []
 | a :: r => match r with
  | [] => a.data.toList
  | _ :: _ => a.data.toList ++ (b ++ jnA b r)
theorem jnA_eq (b : List UInt8) : ∀ r : List ByteArray, Lib.join (r.map (·.data.toList)) b = jnA b r
 | [] => rfl
 | [a] => by simp [jnA, Lib.join_one]
 | a :: x :: r => by
  have ih := jnA_eq b (x :: r)
  simp only [jnA]
  simp only [jnA] at ih
  rw [← ih]
  simp [Lib.join, List.intercalate]
theorem join_gen (oa : Option Addr) (c : Nat) (r : List ByteArray) (b : ByteArray) (W : World) (hS : StrsAt W oa r.length fun j => r.getD j ByteArray.empty) (hc : r.length ≤ c) (hn : r.length ≤ 1000000) (hl : (jnA b.data.toList r).length ≤ 1000000) :
  Calls Tryz.prog 18 #[.slice oa r.length c, .string b] W fun e w' => e = .returned (.string ⟨(jnA b.data.toList r).toArray⟩) ∧ Below W.heap.size W w' := by
 cases hr : r with
 | nil =>
  refine (Tryz.strings_Join_none oa c b W).mono ?_
  rintro e w' ⟨rfl, rfl⟩
  exact ⟨rfl, Grew.refl _⟩
 | cons r0 r1 =>
  rw [← hr]
  have hpos : 0 < r.length := by rw [hr]; simp
  rcases hS with h | ⟨ad, rfl, hcell⟩
  ·omega
  ·have h0 := hcell W (Grew.refl W) 0 hpos
   have hspot : ad.spot = none := by
    have e : ad.add 0 = ad := by simp [Addr.add]
    rw [e] at h0
    unfold World.cell? at h0
    split at h0
    ·split at h0
     ·cases h0
     ·rename_i hs
      cases hx : ad.spot with
      | none => rfl
      | some z => rw [hx] at hs; simp at hs
    ·cases h0
   obtain ⟨bk, o, sp⟩ := ad
   simp only at hspot
   subst hspot
   have hj := Tryz.strings_Join bk o c r b W (fun j x hx => by
    have hjn : j < r.length := by
     rcases Nat.lt_or_ge j r.length with h | h
     ·exact h
     ·rw [List.getElem?_eq_none h] at hx; cases hx
    have := hcell W (Grew.refl W) j hjn
    have e : (⟨bk, o, none⟩ : Addr).add j = ⟨bk, o + j, none⟩ := by unfold Addr.add; split <;> simp_all
    rw [e] at this
    simp only [List.getD_eq_getElem?_getD, hx, Option.getD_some] at this
    exact this) (by
    have := cell_lt h0
    have e : (⟨bk, o, none⟩ : Addr).add 0 = ⟨bk, o, none⟩ := by simp [Addr.add]
    rw [e] at this
    exact this) (by omega) (by omega) (by rw [jnA_eq]; omega)
   refine hj.mono ?_
   rintro e w' ⟨rfl, hb⟩
   exact ⟨by rw [jnA_eq], hb⟩
noncomputable def orcK : Caller := fun t ys H n => match t with
 | .f f => match Nat.beq f 18 with
  | true => match ys with
   | [x, .V (.string b)] => match textsOf H x with
    | some r => match Nat.ble r.length 1000000 && Nat.ble (jnA b.data.toList r).length 1000000 with
     | true => some (.V (.string ⟨(jnA b.data.toList r).toArray⟩), H, n)
     | false => none
    | none => none
   | _ => none
  | false => none
 | .y _ => none
theorem orcK_ok {C : Sg → World → Nm → Prop} : CallOk Tryz.prog C orcK := fun t ys H n r h hl s w hC hI => by
 unfold orcK at h
 split at h
 ·rename_i f
  split at h
  ·rename_i hf
   obtain rfl := Nat.eq_of_beq_eq_true hf
   split at h
   ·rename_i x b
    split at h
    ·rename_i r hr
     split at h
     ·rename_i hsz
      cases h
      rw [Bool.and_eq_true, Nat.ble_eq, Nat.ble_eq] at hsz
      obtain ⟨oa, c, h1, h2, h3⟩ := textsOf_ok hI hr
      unfold TgOk
      simp only [List.map_cons, List.map_nil, A.den, h1]
      refine Calls.mono (join_gen oa c r b w h3 h2 hsz.1 hsz.2) ?_
      rintro e w' ⟨rfl, hbw⟩
      exact ⟨s, rfl, AdvF.grow hI hbw⟩
     ·cases h
    ·cases h
   ·cases h
  ·cases h
 ·cases h
end Mc
end Go.Proofs.YtdoolhbmekahdaaGreatDoor
namespace Go.Proofs.YtdoolhbmekahdaaGreatDoor
namespace Mc
open Go.RowKit
set_option linter.unusedVariables false
set_option linter.unusedSimpArgs false
noncomputable def fndL (w : List UInt8) : Nat → List (List UInt8) → Nat
 | k, [] => k
 | k, a :: l => match tbeq a w with
  | true => k
  | false => fndL w (k + 1) l
theorem tbeq_refl : ∀ l, tbeq l l = true
 | [] => rfl
 | a :: l => by
  simp only [tbeq]
  rw [show Nat.beq a.toNat a.toNat = true from Nat.beq_refl _]
  exact tbeq_refl l
theorem fndL_eq (s : ByteArray) : ∀ l k, fndL s.data.toList k (l.map (·.data.toList)) = firstL s l k
 | [], k => rfl
 | a :: l, k => by
  have ih := fndL_eq s l (k + 1)
  simp only [List.map_cons, fndL, firstL]
  cases h : tbeq a.data.toList s.data.toList with
  | true =>
   have e := tbeq_eq _ _ h
   have : a = s := by
    obtain ⟨a⟩ := a
    obtain ⟨s⟩ := s
    have e2 : a = s := Array.toList_inj.1 e
    rw [e2]
   rw [if_pos this]
  | false =>
   have : a ≠ s := fun e => by rw [e, tbeq_refl] at h; cases h
   rw [if_neg this]
   exact ih
noncomputable def opfO (ys : List A) (_ : Tr O) : Option A := match ys with
 | [.V (.string s)] => frcN (fndL s.data.toList 0 (nmL.map (·.data.toList))) fun k => match Nat.blt k 14 with
  | true => some (.T [.V (.int .u8 (.ofNat k)), .V (.bool true)])
  | false => some (.T [.V (.int .u8 0), .V (.bool false)])
 | _ => none
theorem opfO_ok {w0 : World} (hN : NmAt w0) : CallOk Tryz.prog (From w0) (oneC 40 opfO) :=
 one_ok fun s w H n ys a hC hI h => by
  unfold opfO at h
  split at h
  ·rename_i t
   rw [frcN_eq, fndL_eq, ← opI_list] at h
   have hc := opOf_any t w (hN.later hC.1)
   simp only [List.map_cons, List.map_nil, A.den]
   split at h
   ·rename_i hlt
    rw [Nat.blt_eq] at hlt
    cases h
    rw [show opU t = (opI t : Int) from if_pos hlt, show opB t = true from decide_eq_true hlt] at hc
    simp only [A.den, List.map_cons, List.map_nil]
    exact hc
   ·rename_i hlt
    cases h
    have hge : ¬ opI t < 14 := fun e => by rw [← Nat.blt_eq, hlt] at e; cases e
    rw [show opU t = 0 from if_neg hge, show opB t = false from decide_eq_false hge] at hc
    simp only [A.den, List.map_cons, List.map_nil]
    exact hc
  ·cases h
noncomputable def KN (f : FuncId) : Prop := ∀ w : World, Tabs w → EtAt w → NmAt w → Calls Tryz.prog f #[] w fun e w' => e = .returned (.bool true) ∧ Below w.heap.size w w'
theorem awN_ok {w0 : World} (hT : Tabs w0) (hE : EtAt w0) (hN : NmAt w0) {l : List FuncId} (hl : ∀ f ∈ l, KN f) : CallOk Tryz.prog (From w0) (awL l) := fun t ys H n r h hlt s w hC hI => by
 unfold awL at h
 split at h
 ·rename_i f
  split at h
  ·rename_i hf
   split at h
   ·cases h
    refine Calls.mono (hl f ((mem_iff f l).1 hf) w (hT.later hC.1) (hE.later hC.1) (hN.later hC.1)) ?_
    rintro e w' ⟨rfl, hb⟩
    exact ⟨s, by simp only [A.den], AdvF.grow hI hb⟩
   ·cases h
  ·cases h
 ·cases h
noncomputable def callN (l : List FuncId) : Caller := runFn Tryz.prog (orBoth (awL l) (orBoth orcK (orBoth (oneC 121 cntO) (orBoth (oneC 122 idxO) (orBoth (oneC 40 opfO) (orBoth (oneC 325 saO) (orBoth orcW (orBoth orcN orcs)))))))) (drawR Tryz.prog) 5000 60
theorem callN_ok {w0 : World} (hT : Tabs w0) (hE : EtAt w0) (hN : NmAt w0) {l : List FuncId} (hl : ∀ f ∈ l, KN f) : CallOk Tryz.prog (From w0) (callN l) :=
 runFn_ok (from_stab w0) (orBoth_ok (awN_ok hT hE hN hl) (orBoth_ok orcK_ok (orBoth_ok cntO_ok (orBoth_ok idxO_ok (orBoth_ok (opfO_ok hN) (orBoth_ok saO_ok (orBoth_ok orcW_ok (orBoth_ok orcN_ok (orcs_ok hT hE))))))))) (fun call C hc N => drawR_ok (by kernel_rfl) hc N) 60
theorem run_trueN {l : List FuncId} {f : FuncId} (hl : ∀ f ∈ l, KN f) (h : isT (callN l (.f f) [] .l ⟨0, fun _ => false⟩) = true) : KN f := fun w hT hE hN => by
 cases hr : callN l (.f f) [] .l ⟨0, fun _ => false⟩ with
 | none => rw [hr] at h; cases h
 | some r =>
  rw [hr] at h
  obtain ⟨a, H, n⟩ := r
  unfold isT at h
  split at h
  ·rename_i ob b e
   cases e
   subst h
   exact run_top (callN_ok hT hE hN hl) hr rfl
  ·cases h
theorem KN.one {f : FuncId} (h : KN f) : ∀ g ∈ [f], KN g := fun g hg => by rw [List.mem_singleton.1 hg]; exact h
set_option maxRecDepth 1000000
theorem aw27_KN : KN 15 := run_trueN (KN.one fun w hT hE _ => aw26_KT w hT hE) (by decide +kernel)
theorem aw28_KN : KN 4 := run_trueN aw27_KN.one (by decide +kernel)
end Mc
end Go.Proofs.YtdoolhbmekahdaaGreatDoor
