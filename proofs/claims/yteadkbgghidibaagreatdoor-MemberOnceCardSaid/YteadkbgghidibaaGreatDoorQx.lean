/- Qx -/
import Derived.Test.YteadkbgghidibaaGreatDoorQq
namespace Go.Proofs.YteadkbgghidibaaGreatDoor
namespace Mc
open Go.RowKit
set_option linter.unusedVariables false
set_option linter.unusedSimpArgs false
noncomputable def chkS (t : K) : Nat → List A → Bool
 | i, [] => Nat.beq i 32
 | i, .S u j :: r => match Nat.beq i j with
  | true => match K.beq t u with
   | true => chkS t (i + 1) r
   | false => false
  | false => false
 | _, _ => false
theorem chkS_ok (t : K) : ∀ (l : List A) (i : Nat), chkS t i l = true → i + l.length = 32 ∧ l = (List.range l.length).map fun j => A.S t (i + j)
 | [], i, h => by
  have h : Nat.beq i 32 = true := h
  exact ⟨by rw [Nat.eq_of_beq_eq_true h]; rfl, rfl⟩
 | a :: r, i, h => by
  cases a <;> first | (cases h; done) | skip
  rename_i u j
  unfold chkS at h
  split at h
  ·rename_i e1
   split at h
   ·rename_i e2
    obtain ⟨h1, h2⟩ := chkS_ok t r (i + 1) h
    rw [← Nat.eq_of_beq_eq_true e1, ← K.beq_eq _ _ e2]
    refine ⟨by rw [List.length_cons]; omega, ?_⟩
    rw [List.length_cons, List.range_succ_eq_map, List.map_cons, List.map_map]
    congr 1
    conv => lhs; rw [h2]
    exact List.map_congr_left fun j _ => by simp only [Function.comp]; congr 1; omega
   ·cases h
  ·cases h
noncomputable def litN (l : List Nat) : Nat := List.rec 0 (fun a _ ih => Nat.add a (Nat.mul 256 ih)) l
theorem litN_cons (a : Nat) (l : List Nat) : litN (a :: l) = a + 256 * litN l := rfl
theorem litN_get : ∀ (l : List Nat), (∀ b ∈ l, b < 256) → ∀ j, litN l / 256 ^ j % 256 = l.getD j 0
 | [], _, j => by simp [litN]
 | a :: l, h, 0 => by
  rw [litN_cons]
  have := h a (by simp)
  simp
  omega
 | a :: l, h, j + 1 => by
  rw [litN_cons, Nat.pow_succ, Nat.mul_comm (256 ^ j) 256, ← Nat.div_div_eq_div_mul]
  have := h a (by simp)
  rw [show (a + 256 * litN l) / 256 = litN l by omega, litN_get l (fun b hb => h b (by simp [hb])) j]
  simp
noncomputable def symG (a : A) : Option K := match a with
 | .G (.S t 0 :: r) => match chkS t 1 r with
  | true => some t
  | false => none
 | _ => none
noncomputable def symK (a : A) : Option K := match symG a with
 | some t => some t
 | none => match keyA a with
  | some l => some (.lit (litN l))
  | none => none
theorem row_S (s : Sg) (t : K) : (A.G ((List.range 32).map (A.S t))).den s = .agg (ints .u8 32 (kV s.k t)) := by
 simp only [A.den]
 congr 1
 apply Array.ext_getElem?
 intro i
 by_cases hi : i < 32
 ·rw [ints_get _ _ _ _ hi, List.getElem?_toArray, List.getElem?_map, List.getElem?_map, List.getElem?_range hi]
  simp only [Option.map_some, A.den]
 ·rw [Array.getElem?_eq_none (by simp; omega), Array.getElem?_eq_none (by rw [ints_size]; omega)]
noncomputable def keyS (t : K) : A := .G ((List.range 32).map (A.S t))
theorem symK_ok (s : Sg) {a : A} {t : K} (h : symK a = some t) : a.den s = .agg (ints .u8 32 (kV s.k t)) := by
 unfold symK at h
 split at h
 ·rename_i t' hg
  cases h
  unfold symG at hg
  split at hg
  ·rename_i u r
   split at hg
   ·rename_i hc
    cases hg
    obtain ⟨h1, h2⟩ := chkS_ok t r 1 hc
    have h3 : (A.S t 0 :: r) = (List.range 32).map (A.S t) := by
     have h4 : r.length = 31 := by omega
     rw [h4] at h2
     rw [h2, show (32 : Nat) = 31 + 1 from rfl, List.range_succ_eq_map, List.map_cons, List.map_map]
     congr 1 <;> exact List.map_congr_left fun j _ => by simp only [Function.comp]; congr 1; omega
    rw [h3]
    exact row_S s t
   ·cases hg
  ·cases hg
 ·split at h
  ·rename_i l hl
   cases h
   obtain ⟨h1, h2, h3⟩ := keyA_ok s hl
   have hb : ∀ b ∈ l, b < 256 := fun b hb => by
    rw [← h3] at hb
    unfold bl at hb
    obtain ⟨u, -, rfl⟩ := List.mem_map.1 hb
    exact u.toNat_lt
   have e : ints .u8 32 (fnL l) = ints .u8 32 (kV s.k (.lit (litN l))) := ints_congr fun j hj => by
    rw [kV_lit s.k _ j hj, litN_get l hb j]
    rfl
   rw [h1, e]
  ·cases h
theorem keyS_den (s : Sg) (t : K) : (keyS t).den s = .agg (ints .u8 32 (kV s.k t)) := row_S s t
noncomputable def labS (f : Nat) (ys : List A) (_ : Tr O) : Option A := match ys with
 | [a] => match symK a with
  | some t => some (keyS (.u f t))
  | none => none
 | _ => none
theorem labS_ok {C : Sg → World → Nm → Prop} {f : FuncId} (q : Nat) (hT : ∀ s w n, C s w n → Tabs w)
  (hc : ∀ (z : Nat → Int) (W : World), Bytes 32 z → Tabs W → Calls Tryz.prog f #[.agg (ints .u8 32 z)] W fun e w' => e = .returned (.agg (ints .u8 32 (labF q z))) ∧ Below W.heap.size W w') : CallOk Tryz.prog C (oneC f (labS q)) :=
 one_ok fun s w H n ys a hC hI h => by
  unfold labS at h
  split at h
  ·split at h
   ·rename_i v t ht
    cases h
    simp only [List.map_cons, List.map_nil]
    rw [symK_ok s ht, keyS_den, kV_u]
    exact hc _ w (kV_bytes _ _) (hT _ _ _ hC)
   ·cases h
  ·cases h
noncomputable def stS (ys : List A) (_ : Tr O) : Option A := match ys with
 | [a, b, c] => match symK a, symK b, symK c with
  | some x, some y, some z => some (keyS (.st x y z))
  | _, _, _ => none
 | _ => none
theorem stS_ok {C : Sg → World → Nm → Prop} (hT : ∀ s w n, C s w n → Tabs w) : CallOk Tryz.prog C (oneC 148 stS) :=
 one_ok fun s w H n ys a hC hI h => by
  unfold stS at h
  split at h
  ·split at h
   ·rename_i a b c x y z h1 h2 h3
    cases h
    simp only [List.map_cons, List.map_nil]
    rw [symK_ok s h1, symK_ok s h2, symK_ok s h3, keyS_den, kV_st]
    exact stageC _ _ _ w (kV_bytes _ _) (kV_bytes _ _) (kV_bytes _ _) (hT _ _ _ hC)
   ·cases h
  ·cases h
noncomputable def baS (ys : List A) (_ : Tr O) : Option A := match ys with
 | [a] => match symK a with
  | some t => some (keyS (.ba t))
  | none => none
 | _ => none
theorem baS_ok {C : Sg → World → Nm → Prop} : CallOk Tryz.prog C (oneC 44 baS) :=
 one_ok fun s w H n ys a hC hI h => by
  unfold baS at h
  split at h
  ·split at h
   ·rename_i v t ht
    cases h
    simp only [List.map_cons, List.map_nil]
    rw [symK_ok s ht, keyS_den, kV_ba]
    exact base_pub _ w (kV_bytes _ _)
   ·cases h
  ·cases h
noncomputable def shS (ys : List A) (_ : Tr O) : Option A := match ys with
 | [a, b] => match symK a, symK b with
  | some t, some (.ba m) => some (.T [keyS (.sh t m), .V (.bool true)])
  | _, _ => none
 | _ => none
theorem shS_ok {C : Sg → World → Nm → Prop} : CallOk Tryz.prog C (oneC 78 shS) :=
 one_ok fun s w H n ys a hC hI h => by
  unfold shS at h
  split at h
  ·split at h
   ·rename_i a b t m h1 h2
    cases h
    have e : (A.T [keyS (.sh t m), .V (.bool true)]).den s = .tuple #[.agg (ints .u8 32 (keyV (twoV (kV s.k t) (kV s.k m)))), .bool true] := by
     simp only [A.den, List.map_cons, List.map_nil]
     rw [keyS_den, kV_sh]
    simp only [List.map_cons, List.map_nil]
    rw [symK_ok s h1, symK_ok s h2, e, kV_ba]
    exact shared_two _ _ w (kV_bytes _ _) (kV_bytes _ _)
   ·cases h
  ·cases h
noncomputable def saS (ys : List A) (_ : Tr O) : Option A := match ys with
 | [a, b] => match symK a, symK b with
  | some t, some m => match K.same t m with
   | true => some (.V (.bool true))
   | false => none
  | _, _ => none
 | _ => none
theorem saS_ok {C : Sg → World → Nm → Prop} : CallOk Tryz.prog C (oneC 118 saS) :=
 one_ok fun s w H n ys a hC hI h => by
  unfold saS at h
  split at h
  ·split at h
   ·rename_i a b t m h1 h2
    split at h
    ·rename_i hs
     cases h
     have e : kV s.k t = kV s.k m := kV_same s.k hs
     simp only [List.map_cons, List.map_nil]
     rw [symK_ok s h1, symK_ok s h2, e]
     have := same_any (kV s.k m) (kV s.k m) w (kV_bytes _ _) (kV_bytes _ _)
     rw [same_refl] at this
     simp only [A.den]
     exact this
    ·cases h
   ·cases h
  ·cases h
noncomputable def cutS (t : K) : Nat → Nat → List Bt → Option (List Bt)
 | 0, _, l => some l
 | f + 1, i, b :: r => match b with
  | .s u j => match Nat.beq i j with
   | true => match K.beq t u with
    | true => cutS t f (i + 1) r
    | false => none
   | false => none
  | .b _ => none
 | _ + 1, _, [] => none
theorem cutS_ok (t : K) : ∀ (f i : Nat) (l r : List Bt), cutS t f i l = some r → l = ((List.range f).map fun j => Bt.s t (i + j)) ++ r
 | 0, i, l, r, h => by cases h; rfl
 | f + 1, i, [], r, h => by cases h
 | f + 1, i, b :: l, r, h => by
  cases b with
  | b x => cases h
  | s u j =>
   unfold cutS at h
   simp only at h
   split at h
   ·rename_i e1
    split at h
    ·rename_i e2
     have ih := cutS_ok t f (i + 1) l r h
     rw [← Nat.eq_of_beq_eq_true e1, ← K.beq_eq _ _ e2, ih, List.range_succ_eq_map, List.map_cons, List.map_map]
     simp only [List.cons_append]
     congr 2
     exact List.map_congr_left fun j _ => by simp only [Function.comp]; congr 1; omega
    ·cases h
   ·cases h
noncomputable def tk : Nat → List Bt → Option K
 | 0, _ => none
 | f + 1, l => match l with
  | [] => some .te
  | .b x :: r => match tk f r with
   | some k => some (.tc x.toNat k)
   | none => none
  | .s t 0 :: r => match cutS t 31 1 r with
   | some r' => match tk f r' with
    | some k => some (.tw t k)
    | none => none
   | none => none
  | _ => none
theorem bsz_app (s : Sg) (a b : List Bt) : bsz s (a ++ b) = bsz s a ++ bsz s b := by
 apply Go.WideShapes.bytes_inj
 rw [ByteArray.toList_data_append, bsz_list, bsz_list, bsz_list, List.map_append]
theorem bsz_key (s : Sg) (t : K) : bsz s ((List.range 32).map (Bt.s t)) = strOf 32 (kV s.k t) := by
 apply Go.WideShapes.bytes_inj
 have h := strOf_list 32 (kV s.k t)
 rw [ByteArray.toList_eq] at h
 rw [h, bsz_list, List.map_map]
 exact List.map_congr_left fun j _ => by simp only [Function.comp, Bt.den]
theorem tk_ok (s : Sg) : ∀ (f : Nat) (l : List Bt) (x : K), tk f l = some x → bsz s l = tV s.k x
 | 0, _, _, h => by cases h
 | f + 1, l, x, h => by
  unfold tk at h
  split at h
  ·cases h; rw [tV_te]; rfl
  ·rename_i b r
   split at h
   ·rename_i k hk
    cases h
    rw [tV_tc, ← tk_ok s f r k hk, show (Bt.b b :: r) = [Bt.b b] ++ r from rfl, bsz_app]
    congr 1
    show (⟨[b].toArray⟩ : ByteArray) = ⟨#[UInt8.ofNat b.toNat]⟩
    rw [UInt8.ofNat_toNat]
   ·cases h
  ·rename_i t r
   split at h
   ·rename_i r' hr
    split at h
    ·rename_i k hk
     cases h
     have h1 := cutS_ok t 31 1 r r' hr
     rw [tV_tw, ← tk_ok s f r' k hk, ← bsz_key, ← bsz_app]
     congr 1
     rw [h1, show (32 : Nat) = 31 + 1 from rfl, List.range_succ_eq_map, List.map_cons, List.map_map, List.cons_append]
     congr 2 <;> exact List.map_congr_left fun j _ => by simp only [Function.comp]; congr 1; omega
    ·cases h
   ·cases h
  ·cases h
noncomputable def txts : List A → Option (List (List Bt))
 | [] => some []
 | a :: l => match txt a, txts l with
  | some x, some y => some (x :: y)
  | _, _ => none
theorem txts_ok (s : Sg) : ∀ (l : List A) (r : List (List Bt)), txts l = some r → l.map (A.den s) = r.map fun b => Value.string (bsz s b)
 | [], r, h => by cases h; rfl
 | a :: l, r, h => by
  unfold txts at h
  split at h
  ·rename_i x y h1 h2
   cases h
   rw [List.map_cons, List.map_cons, txts_ok s l y h2, txt_ok h1 s]
  ·cases h
noncomputable def partsS (H : Tr O) (x : A) : Option (List (List Bt)) := match cellsOf H 1 x with
 | some (_, _, _, xs) => match x with
  | .C _ _ l c => match Nat.ble l c with
   | true => txts xs
   | false => none
  | .D k 0 0 l => match H.get k with
   | some (.U _ _ _ l') => match Nat.beq l' l with
    | true => txts xs
    | false => none
   | _ => none
  | _ => none
 | none => none
theorem partsS_ok {P : Program} {s : Sg} {w : World} {H : Tr O} {n : Nm} {x : A} {r : List (List Bt)} (hI : Inv P s w H n) (h : partsS H x = some r) : ∃ oa c, x.den s = .slice oa r.length c ∧ r.length ≤ c ∧ StrsAt w oa r.length fun j => bsz s (r.getD j []) := by
 unfold partsS at h
 split at h
 ·rename_i k o l xs hc
  obtain ⟨⟨c, h1⟩, h2, h3⟩ := cellsOf_ok hI hc
  have fin : txts xs = some r → l ≤ c → ∃ oa c, x.den s = .slice oa r.length c ∧ r.length ≤ c ∧ StrsAt w oa r.length fun j => bsz s (r.getD j []) := fun hs hle => by
   have h4 := txts_ok s xs r hs
   have h5 : r.length = l := by
    have := congrArg List.length h4
    simp only [List.length_map] at this
    omega
   refine ⟨_, c, by rw [h5]; exact h1, by omega, .inr ⟨_, rfl, fun w' hb j hj => ?_⟩⟩
   have h6 := h3 j (.string (bsz s (r.getD j []))) (by rw [h4, List.getElem?_map, List.getElem?_eq_getElem hj, List.getD_eq_getElem?_getD, List.getElem?_eq_getElem hj]; rfl)
   rw [addr_add] at h6 ⊢
   have hlt : s.a k < w.heap.size := by
    refine Decidable.byContradiction fun hn => ?_
    have : w.heap[s.a k]? = none := Array.getElem?_eq_none (by omega)
    simp [World.cell?, this] at h6
   rw [← h6]
   simp only [World.cell?, hb.block _ hlt]
  split at h
  ·rename_i k' o' l' c'
   split at h
   ·rename_i hle
    rw [Nat.ble_eq] at hle
    simp only [A.den] at h1
    injection h1 with e1 e2 e3
    exact fin h (by omega)
   ·cases h
  ·rename_i k' l'
   split at h
   ·rename_i cs te sz l'' hk
    split at h
    ·rename_i hl
     obtain ⟨-, q2⟩ := hI.ok _ _ hk
     have hl' := Nat.eq_of_beq_eq_true hl
     simp only [A.den] at h1
     injection h1 with e1 e2 e3
     rcases q2 with ⟨q2, -⟩ | ⟨g, cap, cur, e4, -, -, q5, -⟩
     ·cases q2
     ·injection e4 with _ _ e5
      exact fin h (by omega)
    ·cases h
   ·cases h
  ·cases h
 ·cases h
theorem cat_flat (s : Sg) (r : List (List Bt)) : catS (fun j => bsz s (r.getD j [])) r.length = bsz s r.flatten := by
 apply Go.WideShapes.bytes_inj
 rw [cat_list, bsz_list, List.map_flatten]
 congr 1
 apply List.ext_getElem?
 intro j
 rw [List.getElem?_map, List.getElem?_map]
 by_cases hj : j < r.length
 ·rw [List.getElem?_range hj, List.getElem?_eq_getElem hj]
  simp [List.getD_eq_getElem?_getD, List.getElem?_eq_getElem hj, bsz_list]
 ·rw [List.getElem?_eq_none (by simp; omega), List.getElem?_eq_none (by omega)]
  rfl
noncomputable def paS (ys : List A) (_ : Tr O) : Option A := match ys with
 | [a, b] => match symK a, txt b with
  | some x, some l => match Nat.ble l.length 100000, tk 5000 l with
   | true, some y => some (keyS (.pa x y))
   | _, _ => none
  | _, _ => none
 | _ => none
theorem paS_ok {C : Sg → World → Nm → Prop} (hT : ∀ s w n, C s w n → Tabs w) : CallOk Tryz.prog C (oneC 147 paS) :=
 one_ok fun s w H n ys a hC hI h => by
  unfold paS at h
  split at h
  ·split at h
   ·rename_i a b x l h1 h2
    split at h
    ·rename_i y hl hy
     cases h
     rw [Nat.ble_eq] at hl
     simp only [List.map_cons, List.map_nil]
     rw [symK_ok s h1, txt_ok h2 s, keyS_den, kV_pa, ← tk_ok s 5000 l y hy]
     exact pastC _ _ w (kV_bytes _ _) (by rw [bsz_size]; exact hl) (hT _ _ _ hC)
    ·cases h
   ·cases h
  ·cases h
noncomputable def maS (ys : List A) (H : Tr O) : Option A := match ys with
 | [a, b] => match txt a, partsS H b with
  | some k, some r => match Nat.ble k.length 1000000 && Nat.ble (r.flatten.length + r.length) 1000000, tk 5000 k, tk 5000 r.flatten with
   | true, some x, some y => some (keyS (.ma x y))
   | _, _, _ => none
  | _, _ => none
 | _ => none
theorem maS_ok {C : Sg → World → Nm → Prop} (hT : ∀ s w n, C s w n → Tabs w) : CallOk Tryz.prog C (oneC 94 maS) :=
 one_ok fun s w H n ys a hC hI h => by
  unfold maS at h
  split at h
  ·split at h
   ·rename_i a b k r h1 h2
    split at h
    ·rename_i x y hl hx hy
     cases h
     rw [Bool.and_eq_true, Nat.ble_eq, Nat.ble_eq] at hl
     obtain ⟨oa, c, q1, q2, q3⟩ := partsS_ok hI h2
     have hcat := cat_flat s r
     simp only [List.map_cons, List.map_nil]
     rw [txt_ok h1 s, q1, keyS_den, kV_ma, ← tk_ok s 5000 k x hx, ← tk_ok s 5000 _ y hy, ← hcat]
     refine macS_any (bsz s k) oa r.length c _ w (by rw [bsz_size]; omega) ?_ (by omega) q3 (hT _ _ _ hC)
     rw [hcat, bsz_size]
     omega
    ·cases h
   ·cases h
  ·cases h
noncomputable def joS (ys : List A) (H : Tr O) : Option A := match ys with
 | [x, .V (.string b)] => match b.data.toList, partsS H x with
  | [], some r => match Nat.ble (r.flatten.length + r.length) 1000000 with
   | true => some (mkT r.flatten)
   | false => none
  | _, _ => none
 | _ => none
theorem joS_ok {C : Sg → World → Nm → Prop} : CallOk Tryz.prog C (oneC 128 joS) :=
 one_ok fun s w H n ys a hC hI h => by
  unfold joS at h
  split at h
  ·split at h
   ·rename_i x b _ _ r hb hr
    split at h
    ·rename_i hl
     cases h
     rw [Nat.ble_eq] at hl
     have hb' : b = ⟨#[]⟩ := by
      obtain ⟨d⟩ := b
      have : d = #[] := by rw [← Array.toArray_toList (xs := d)]; simp only at hb; rw [hb]
      rw [this]
     obtain ⟨oa, c, q1, q2, q3⟩ := partsS_ok hI hr
     have hcat := cat_flat s r
     simp only [List.map_cons, List.map_nil]
     rw [q1, mkT_den, ← hcat]
     simp only [A.den, hb']
     refine join_any oa r.length c _ w q3 q2 ?_
     rw [hcat, bsz_size]
     omega
    ·cases h
   ·cases h
  ·cases h
theorem labF_0 (z : Nat → Int) : labF 0 z = nodeF z := by simp only [labF]
theorem labF_1 (z : Nat → Int) : labF 1 z = leafF z := by simp only [labF]
theorem labF_2 (z : Nat → Int) : labF 2 z = tagF z := by simp [labF]
noncomputable def orcY : Caller := orBoth (oneC 118 saS) <| orBoth (oneC 176 (labS 0)) <| orBoth (oneC 79 (labS 1)) <| orBoth (oneC 149 (labS 2)) <| orBoth (oneC 148 stS) <| orBoth (oneC 147 paS) <| orBoth (oneC 94 maS) <|
 orBoth (oneC 44 baS) <| orBoth (oneC 78 shS) (oneC 128 joS)
theorem orcY_ok {w0 : World} (hT : Tabs w0) : CallOk Tryz.prog (From w0) orcY := by
 have h : ∀ s w n, From w0 s w n → Tabs w := fun s w n hC => hT.later hC.1
 unfold orcY
 exact orBoth_ok saS_ok <| orBoth_ok (labS_ok 0 h fun z W h1 h2 => by rw [labF_0]; exact nodeC z W h1 h2) <| orBoth_ok (labS_ok 1 h fun z W h1 h2 => by rw [labF_1]; exact leafC z W h1 h2) <| orBoth_ok (labS_ok 2 h fun z W h1 h2 => by rw [labF_2]; exact tagC z W h1 h2) <| orBoth_ok (stS_ok h) <| orBoth_ok (paS_ok h) <| orBoth_ok (maS_ok h) <| orBoth_ok baS_ok <| orBoth_ok shS_ok joS_ok
end Mc
end Go.Proofs.YteadkbgghidibaaGreatDoor
