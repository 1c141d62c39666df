/- Xs -/
import Derived.Test.YtdoolhbmekahdaaGreatDoorXi
import Derived.Test.YtdoolhbmekahdaaGreatDoorE15
import Derived.Test.YtdoolhbmekahdaaGreatDoorBw
import Derived.Test.YtdoolhbmekahdaaGreatDoorMa
set_option maxRecDepth 100000
set_option maxHeartbeats 4000000
namespace Go.Proofs.YtdoolhbmekahdaaGreatDoor
namespace Mc
open Go.RowKit
set_option linter.unusedVariables false
set_option linter.unusedSimpArgs false
noncomputable def From (w0 : World) (s : Sg) (w : World) (n : Nm) : Prop := Below w0.heap.size w0 w ∧ ∀ k, n.has k = true → w0.heap.size ≤ s.a k
theorem from_stab {P : Program} (w0 : World) : StabC P (From w0) := by
 refine ⟨fun s w G n hI ⟨hb, hn⟩ s' w' G' n' k n'' hsub hsub2 => ⟨⟨k.os.trans hb.os, k.tape.trans hb.tape, k.output.trans hb.output, Nat.le_trans hb.size k.size, fun b hlt => ?_⟩, fun j hj => ?_⟩, fun s w n k y ⟨hb, hn⟩ hk => ⟨⟨hb.os, hb.tape, hb.output, ?_, fun b hlt => ?_⟩, hn⟩⟩
 ·refine (k.fr b (Nat.lt_of_lt_of_le hlt hb.size) fun j o hj e => ?_).trans (hb.block b hlt)
  have := hn j (hI.lt j o hj).1
  omega
 ·rcases k.news j (hsub2 j hj) with h1 | h1 | ⟨i, h1, h2⟩
  ·rw [(k.ext j h1).1]; exact hn j h1
  ·exact Nat.le_trans hb.size h1
  ·rw [← h2]; exact hn i h1
 ·rw [World.putObj_size]; exact hb.size
 ·have := hn k hk
  rw [World.putObj_heap_other (by omega)]
  exact hb.block b hlt
theorem AdvF.grow {P : Program} {s : Sg} {w w' : World} {G : Nat → Option O} {n : Nm} (hI : InvF P s w G n) (hb : Below w.heap.size w w') : AdvF P s w G n s w' G n :=
 ⟨fun _ _ => ⟨rfl, rfl⟩, hI.world fun k o hk => hb.block _ (O.here (hI.ok k o hk)), Nat.le_refl _, fun _ h => h, fun _ h => .inl h, fun _ h => .inl h, fun k o hk => .inr ⟨o, hk⟩, hb.os, hb.tape, hb.output, hb.size, fun b hb' _ => hb.block b hb', fun k o hk => .inr ⟨k, o, hk, rfl⟩⟩
theorem run_top {P : Program} {w0 : World} {fns : Caller} (hc : CallOk P (From w0) fns) {f : FuncId} {r : Q3} (hr : fns (.f f) [] .l ⟨0, fun _ => false⟩ = some r) {b : Bool} (hb : r.1 = .V (.bool b)) : Calls P f #[] w0 fun e w' => e = .returned (.bool b) ∧ Below w0.heap.size w0 w' := by
 have hl : ∀ {k o}, (Tr.l : Tr O).get k = some o → False := fun {k o} h => by rw [Tr.get_l] at h; cases h
 have hI : Inv P ⟨fun _ => 0, fun _ => 0⟩ w0 .l ⟨0, fun _ => false⟩ := ⟨fun k o hk => (hl hk).elim, fun k o hk => (hl hk).elim, fun j k o o' hj => (hl hj).elim, fun _ _ => rfl⟩
 refine Calls.mono (hc (.f f) [] .l _ r hr rfl _ w0 ⟨Below.refl _ _, fun k hk => absurd (Nm.has_lt hk) (Nat.not_lt_zero _)⟩ hI) ?_
 rintro e w' ⟨s', rfl, k⟩
 refine ⟨by rw [hb]; simp only [A.den], k.below (Nat.le_refl _) fun j o hj => (hl hj).elim⟩
noncomputable def chnA (H : Tr O) : Nat → A → Option (List ByteArray × Int)
 | 0, _ => none
 | k + 1, a => match a with
  | .V (.iface t (.int .i64 x)) => match Nat.beq t 51 with
   | true => some ([], x)
   | false => none
  | .I t (.V (.int .i64 x)) => match Nat.beq t 51 with
   | true => some ([], x)
   | false => none
  | .I t (.P g 0) => match H.get g with
   | some (.R [.V (.string b), u] t' (0, 0)) => match Nat.beq t 60 && Nat.beq t' 62, chnA H k u with
    | true, some (l, x) => some (b :: l, x)
    | _, _ => none
   | _ => none
  | _ => none
theorem chnA_ok {P : Program} {s : Sg} {w : World} {H : Tr O} {n : Nm} (hI : Inv P s w H n) : ∀ (k : Nat) (a : A) (l : List ByteArray) (x : Int), chnA H k a = some (l, x) → Chn w l (.iface 51 (.int .i64 x)) (a.den s)
 | 0, _, _, _, h => by cases h
 | k + 1, a, l, x, h => by
  unfold chnA at h
  split at h
  ·split at h
   ·rename_i ht
    cases h
    rw [Nat.eq_of_beq_eq_true ht]
    simp only [A.den]
    rfl
   ·cases h
  ·split at h
   ·rename_i ht
    cases h
    rw [Nat.eq_of_beq_eq_true ht]
    simp only [A.den]
    rfl
   ·cases h
  ·rename_i t g
   split at h
   ·rename_i ob b u t' hg
    split at h
    ·rename_i l' x' hc hr
     cases h
     rw [Bool.and_eq_true] at hc
     rw [Nat.eq_of_beq_eq_true hc.1]
     have hobj : objAt w (s.a g) = _ := hI.ok _ _ hg
     rw [Nat.eq_of_beq_eq_true hc.2] at hobj
     simp only [A.den]
     exact ⟨s.a g, u.den s, rfl, by rw [hobj]; simp [A.den], chnA_ok hI k u _ _ hr⟩
    ·cases h
   ·cases h
  ·cases h
noncomputable def orcE : Caller := fun t ys H n => match t with
 | .f f => match Nat.beq f 280 with
  | true => match ys with
   | [v, .V (.int .i64 e0)] => match chnA H 70 v with
    | some (_, x) => some (.V (.bool (decide (x = e0))), H, n)
    | none => none
   | _ => none
  | false => match Nat.beq f 48 with
   | true => match ys with
    | [v] => match chnA H 70 v with
     | some (_, x) => some (.V (.int .i64 x), H, n)
     | none => none
    | _ => none
   | false => none
 | .y _ => none
theorem orcE_ok {w0 : World} (hE : EtAt w0) : CallOk Tryz.prog (From w0) orcE := fun t ys H n r h hl s w hC hI => by
 unfold orcE at h
 split at h
 ·rename_i f
  split at h
  ·rename_i hf
   obtain rfl := Nat.eq_of_beq_eq_true hf
   split at h
   ·rename_i v e0
    split at h
    ·rename_i ol l x hc
     cases h
     unfold TgOk
     simp only [List.map_cons, List.map_nil, A.den]
     refine Calls.mono (Is_e x e0 l (v.den s) w (chnA_ok hI _ _ _ _ hc)) ?_
     rintro e w' ⟨rfl, rfl⟩
     exact ⟨s, rfl, AdvF.refl hI⟩
    ·cases h
   ·cases h
  ·split at h
   ·rename_i hf
    obtain rfl := Nat.eq_of_beq_eq_true hf
    split at h
    ·rename_i v
     split at h
     ·rename_i ol l x hc
      cases h
      unfold TgOk
      simp only [List.map_cons, List.map_nil, A.den]
      refine Calls.mono (Code_e x l (v.den s) w (hE.later hC.1) (chnA_ok hI _ _ _ _ hc)) ?_
      rintro e w' ⟨rfl, hb⟩
      exact ⟨s, rfl, AdvF.grow hI hb⟩
     ·cases h
    ·cases h
   ·cases h
 ·cases h
noncomputable def orcB : Caller := fun t ys H n => match t with
 | .f f => match Nat.beq f 77 with
  | true => match ys with
   | [.P k 0] => match H.get k with
    | some (.R [c, x] t (0, 0)) => match Nat.beq t 80 with
     | true => match c with
      | .V (.pointer none) => match Nat.blt n.c (2 ^ mx) && A.lt n dp x && n.has k with
       | true => some (.T [], H.set mx k (some (.R [.P k 0, x] t (0, 0))), n)
       | false => none
      | .P j 0 => match Nat.beq j k with
       | true => some (.T [], H, n)
       | false => none
      | _ => none
     | false => none
    | _ => none
   | _ => none
  | false => none
 | .y _ => none
theorem orcB_ok {C : Sg → World → Nm → Prop} : CallOk Tryz.prog C orcB := fun t ys H n r h hl s w hC hI => by
 unfold orcB at h
 split at h
 ·rename_i f
  split at h
  ·rename_i hf
   obtain rfl := Nat.eq_of_beq_eq_true hf
   split at h
   ·rename_i k
    split at h
    ·rename_i oo c x t hk
     split at h
     ·rename_i ht
      obtain rfl := Nat.eq_of_beq_eq_true ht
      have hobj : objAt w (s.a k) = _ := hI.ok _ _ hk
      have hheap : w.heap[s.a k]? = some (.cells #[c.den s, x.den s] 80 (0, 0)) := by
       have : objAt w (s.a k) = some (.cells #[c.den s, x.den s] 80 (0, 0)) := by rw [hobj]; rfl
       exact this
      unfold TgOk
      simp only [List.map_cons, List.map_nil, A.den]
      split at h
      ·split at h
       ·rename_i hc
        cases h
        simp only [Bool.and_eq_true, Nat.blt_eq] at hc
        simp only [A.den] at hheap
        refine Calls.mono (bw_fresh (s.a k) w (by simp [World.cell?, hheap]) (by simp [World.shape?, hheap]) (by simp [World.frozen?, hheap])) ?_
        rintro e w' ⟨rfl, rfl⟩
        refine ⟨s, by simp [A.den], Adv.put hI hc.1.1 hk ?_ ?_ rfl rfl rfl (by simp [World.setCell]) fun b hb hne => ?_⟩
        ·simp only [O.lt, List.all_cons, List.all_nil, A.lt, dp, Bool.and_true, Bool.and_eq_true]
         exact ⟨hc.2, hc.1.2⟩
        ·show objAt _ _ = _
         unfold objAt World.setCell
         simp only [Array.getElem?_modify, hheap]
         simp [A.den]
        ·unfold World.setCell
         simp only [Array.getElem?_modify]
         rw [if_neg (fun e => hne e.symm)]
       ·cases h
      ·rename_i j
       split at h
       ·rename_i hj
        cases h
        rw [Nat.eq_of_beq_eq_true hj] at hheap
        simp only [A.den] at hheap
        refine Calls.mono (bw_used (s.a k) w (by simp [World.cell?, hheap])) ?_
        rintro e w' ⟨rfl, rfl⟩
        exact ⟨s, by simp [A.den], AdvF.refl hI⟩
       ·cases h
      ·cases h
     ·cases h
    ·cases h
   ·cases h
  ·cases h
 ·cases h
noncomputable def strsA : List A → Option (List ByteArray)
 | [] => some []
 | .V (.string b) :: l => match strsA l with
  | some r => some (b :: r)
  | none => none
 | _ => none
theorem strsA_ok (s : Sg) : ∀ (l : List A) (r : List ByteArray), strsA l = some r → l.map (A.den s) = r.map Value.string
 | [], r, h => by cases h; rfl
 | a :: l, r, h => by
  unfold strsA at h
  split at h
  ·rename_i e; cases e
  ·rename_i b l' e
   cases e
   split at h
   ·rename_i r' hr
    cases h
    rw [List.map_cons, List.map_cons, strsA_ok s l r' hr]
    simp only [A.den]
   ·cases h
  ·cases h
noncomputable def textsOf (H : Tr O) (x : A) : Option (List ByteArray) := match cellsOf H 1 x with
 | some (_, _, _, xs) => match x with
  | .C _ _ l c => match Nat.ble l c with
   | true => strsA xs
   | false => none
  | .D k 0 0 l => match H.get k with
   | some (.U _ _ _ l') => match Nat.beq l' l with
    | true => strsA xs
    | false => none
   | _ => none
  | _ => none
 | none => none
theorem textsOf_ok {P : Program} {s : Sg} {w : World} {H : Tr O} {n : Nm} {x : A} {r : List ByteArray} (hI : Inv P s w H n) (h : textsOf H x = some r) : ∃ oa c, x.den s = .slice oa r.length c ∧ r.length ≤ c ∧ StrsAt w oa r.length fun j => r.getD j ByteArray.empty := by
 unfold textsOf at h
 split at h
 ·rename_i k o l xs hc
  obtain ⟨⟨c, h1⟩, h2, h3⟩ := cellsOf_ok hI hc
  have fin : strsA xs = some r → l ≤ c → ∃ oa c, x.den s = .slice oa r.length c ∧ r.length ≤ c ∧ StrsAt w oa r.length fun j => r.getD j ByteArray.empty := fun hs hle => by
   have h4 := strsA_ok s xs r hs
   have h5 : r.length = l := by
    have := congrArg List.length h4
    simp only [List.length_map] at this
    omega
   refine ⟨_, c, by rw [h5]; exact h1, by omega, .inr ⟨_, rfl, fun w' hb j hj => ?_⟩⟩
   have h6 := h3 j (.string (r.getD j ByteArray.empty)) (by rw [h4, List.getElem?_map, List.getElem?_eq_getElem hj, List.getD_eq_getElem?_getD, List.getElem?_eq_getElem hj]; rfl)
   rw [addr_add] at h6 ⊢
   have hlt : s.a k < w.heap.size := by
    refine Decidable.byContradiction fun hn => ?_
    have : w.heap[s.a k]? = none := Array.getElem?_eq_none (by omega)
    simp [World.cell?, this] at h6
   rw [← h6]
   simp only [World.cell?, hb.block _ hlt]
  split at h
  ·rename_i k' o' l' c'
   split at h
   ·rename_i hle
    rw [Nat.ble_eq] at hle
    simp only [A.den] at h1
    injection h1 with e1 e2 e3
    exact fin h (by omega)
   ·cases h
  ·rename_i k' l'
   split at h
   ·rename_i cs te sz l'' hk
    split at h
    ·rename_i hl
     obtain ⟨-, q2⟩ := hI.ok _ _ hk
     have hl' := Nat.eq_of_beq_eq_true hl
     simp only [A.den] at h1
     injection h1 with e1 e2 e3
     rcases q2 with ⟨q2, -⟩ | ⟨g, cap, cur, e4, -, -, q5, -⟩
     ·cases q2
     ·injection e4 with _ _ e5
      exact fin h (by omega)
    ·cases h
   ·cases h
  ·cases h
 ·cases h
noncomputable def catA (r : List ByteArray) : List UInt8 := (r.map fun b => b.data.toList).flatten
theorem catA_ok (r : List ByteArray) : catS (fun j => r.getD j ByteArray.empty) r.length = ⟨(catA r).toArray⟩ := by
 have h := cat_list (fun j => r.getD j ByteArray.empty) r.length
 have e : ((List.range r.length).map fun j => (r.getD j ByteArray.empty).data.toList) = r.map fun b => b.data.toList := by
  apply List.ext_getElem?
  intro j
  rw [List.getElem?_map, List.getElem?_map]
  by_cases hj : j < r.length
  ·rw [List.getElem?_range hj, List.getElem?_eq_getElem hj]
   simp [List.getD_eq_getElem?_getD, List.getElem?_eq_getElem hj]
  ·rw [List.getElem?_eq_none (by simp; omega), List.getElem?_eq_none (by omega)]
   rfl
 rw [e] at h
 have h2 : (catS (fun j => r.getD j ByteArray.empty) r.length).data = (catA r).toArray := by
  rw [← Array.toArray_toList (xs := (catS (fun j => r.getD j ByteArray.empty) r.length).data), h]
  rfl
 rw [← h2]
noncomputable def orcJ : Caller := fun t ys H n => match t with
 | .f f => match Nat.beq f 18 with
  | true => match ys with
   | [x, .V (.string b)] => match b.data.toList with
    | [] => match textsOf H x with
     | some r => match Nat.ble ((catA r).length + r.length) 1000000 with
      | true => some (.V (.string ⟨(catA r).toArray⟩), H, n)
      | false => none
     | none => none
    | _ => none
   | _ => none
  | false => none
 | .y _ => none
theorem orcJ_ok {C : Sg → World → Nm → Prop} : CallOk Tryz.prog C orcJ := fun t ys H n r h hl s w hC hI => by
 unfold orcJ at h
 split at h
 ·rename_i f
  split at h
  ·rename_i hf
   obtain rfl := Nat.eq_of_beq_eq_true hf
   split at h
   ·rename_i x b
    split at h
    ·rename_i bl hb
     split at h
     ·rename_i ot r hr
      split at h
      ·rename_i hsz
       cases h
       rw [Nat.ble_eq] at hsz
       have hb' : b = ⟨#[]⟩ := by
        obtain ⟨d⟩ := b
        have : d = #[] := by rw [← Array.toArray_toList (xs := d)]; simp only at hb; rw [hb]
        rw [this]
       obtain ⟨oa, c, h1, h2, h3⟩ := textsOf_ok hI hr
       have hcat := catA_ok r
       unfold TgOk
       simp only [List.map_cons, List.map_nil, A.den, h1, hb']
       refine Calls.mono (join_any oa r.length c _ w h3 h2 ?_) ?_
       ·rw [hcat]
        show (catA r).toArray.size + _ ≤ _
        rw [List.size_toArray]
        omega
       ·rintro e w' ⟨rfl, hbw⟩
        exact ⟨s, by rw [hcat], AdvF.grow hI hbw⟩
      ·cases h
     ·cases h
    ·cases h
   ·cases h
  ·cases h
 ·cases h
noncomputable def orBoth (a b : Caller) : Caller := fun t ys H n => match a t ys H n with
 | some r => some r
 | none => b t ys H n
theorem orBoth_ok {P : Program} {C : Sg → World → Nm → Prop} {a b : Caller} (ha : CallOk P C a) (hb : CallOk P C b) : CallOk P C (orBoth a b) := fun t ys H n r h hl s w hC hI => by
 unfold orBoth at h
 split at h
 ·rename_i r' hr
  cases h
  exact ha t ys H n _ hr hl s w hC hI
 ·exact hb t ys H n r h hl s w hC hI
end Mc
end Go.Proofs.YtdoolhbmekahdaaGreatDoor
