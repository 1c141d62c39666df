/- Xq -/
import Derived.Test.YtdoolhbmekahdaaGreatDoorXp
import Derived.Test.YtdoolhbmekahdaaGreatDoorXs
import Derived.Test.YtdoolhbmekahdaaGreatDoorQ9
import Derived.Test.YtdoolhbmekahdaaGreatDoorDh
import Derived.Shelf.SlMaps.Clone
import Derived.Test.YtdoolhbmekahdaaGreatDoorWm
set_option maxRecDepth 100000
set_option maxHeartbeats 4000000
namespace Go.Proofs.YtdoolhbmekahdaaGreatDoor
namespace Mc
open Go.RowKit
set_option linter.unusedVariables false
set_option linter.unusedSimpArgs false
noncomputable def bytA : List A → Option (List Nat)
 | [] => some []
 | .V (.int .u8 (.ofNat b)) :: l => match Nat.blt b 256, bytA l with
  | true, some r => some (b :: r)
  | _, _ => none
 | _ => none
noncomputable def fnL (l : List Nat) : Nat → Int := fun i => ((l.getD i 0 : Nat) : Int)
theorem bytA_ok (s : Sg) : ∀ (cs : List A) (l : List Nat), bytA cs = some l → cs.map (A.den s) = l.map (fun (b : Nat) => Value.int .u8 (b : Int)) ∧ ∀ b ∈ l, b < 256
 | [], l, h => by cases h; exact ⟨rfl, fun b hb => by cases hb⟩
 | a :: cs, l, h => by
  unfold bytA at h
  split at h
  ·rename_i e; cases e
  ·rename_i b cs' e
   cases e
   split at h
   ·rename_i r hb hr
    cases h
    rw [Nat.blt_eq] at hb
    obtain ⟨h1, h2⟩ := bytA_ok s _ r hr
    refine ⟨?_, fun c hc => ?_⟩
    ·rw [List.map_cons, List.map_cons, h1]
     simp only [A.den]
     rfl
    ·rcases List.mem_cons.1 hc with rfl | hc
     ·exact hb
     ·exact h2 c hc
   ·cases h
  ·cases h
noncomputable def keyA (a : A) : Option (List Nat) := match (match a with
  | .G cs => bytA cs
  | .V (.agg c) => bytA (c.toList.map A.V)
  | _ => none) with
 | some l => match Nat.beq l.length 32 with
  | true => some l
  | false => none
 | none => none
theorem keyA_ok (s : Sg) {a : A} {l : List Nat} (h : keyA a = some l) : a.den s = .agg (ints .u8 32 (fnL l)) ∧ Bytes 32 (fnL l) ∧ bl (strOf 32 (fnL l)) = l := by
 have main : ∀ cs : List A, bytA cs = some l → Nat.beq l.length 32 = true → cs.map (A.den s) = (ints .u8 32 (fnL l)).toList ∧ Bytes 32 (fnL l) ∧ bl (strOf 32 (fnL l)) = l := fun cs hb hq => by
  have hq := Nat.eq_of_beq_eq_true hq
  obtain ⟨h1, h2⟩ := bytA_ok s cs l hb
  have hB : Bytes 32 (fnL l) := fun i hi => by
   unfold fnL
   rw [List.getD_eq_getElem?_getD, List.getElem?_eq_getElem (by omega)]
   have := h2 l[i] (List.getElem_mem _)
   simp only [Option.getD_some]
   omega
  have hl : bl (strOf 32 (fnL l)) = l := by
   rw [bl_str 32 _ hB]
   apply List.ext_getElem?
   intro i
   rw [List.getElem?_map]
   by_cases hi : i < 32
   ·rw [List.getElem?_range hi, List.getElem?_eq_getElem (by omega)]
    simp only [Option.map_some, fnL, List.getD_eq_getElem?_getD]
    rw [List.getElem?_eq_getElem (by omega)]
    rfl
   ·rw [List.getElem?_eq_none (by simpa using hi), List.getElem?_eq_none (by omega)]
    rfl
  refine ⟨?_, hB, hl⟩
  rw [h1, key_is _ l hB hl]
 unfold keyA at h
 split at h
 ·rename_i ol l' hm
  split at h
  ·rename_i hq
   cases h
   split at hm
   ·rename_i cs
    obtain ⟨h1, h2, h3⟩ := main cs hm hq
    refine ⟨?_, h2, h3⟩
    simp only [A.den]
    rw [h1, Array.toArray_toList]
   ·rename_i c
    obtain ⟨h1, h2, h3⟩ := main _ hm hq
    refine ⟨?_, h2, h3⟩
    rw [V_den] at h1
    simp only [A.den]
    rw [← Array.toArray_toList (xs := c), h1, Array.toArray_toList]
   ·cases hm
  ·cases h
 ·cases h
noncomputable def keyC (l : List Nat) : A := .G (l.map fun b => .V (.int .u8 (.ofNat b)))
theorem keyC_den (s : Sg) {f : Nat → Int} {l : List Nat} (hf : Bytes 32 f) (h : bl (strOf 32 f) = l) : (keyC l).den s = .agg (ints .u8 32 f) := by
 have e : (l.map fun b => A.V (.int .u8 (.ofNat b))).map (A.den s) = l.map fun (b : Nat) => Value.int .u8 (b : Int) := by
  rw [List.map_map]
  exact List.map_congr_left fun b _ => by
   show (A.V (.int .u8 (.ofNat b))).den s = _
   simp only [A.den]
   rfl
 have e2 : (keyC l).den s = .agg ((l.map fun b => A.V (.int .u8 (.ofNat b))).map (A.den s)).toArray := by
  unfold keyC
  simp only [A.den]
 rw [e2, e, key_is f l hf h]
noncomputable def oneC (f : FuncId) (g : List A → Tr O → Option A) : Caller := fun t ys H n => match t with
 | .f k => match Nat.beq k f with
  | true => match g ys H with
   | some a => some (a, H, n)
   | none => none
  | false => none
 | .y _ => none
theorem one_ok {P : Program} {C : Sg → World → Nm → Prop} {f : FuncId} {g : List A → Tr O → Option A} (h : ∀ (s : Sg) (w : World) (H : Tr O) (n : Nm) (ys : List A) (a : A), C s w n → Inv P s w H n → g ys H = some a → Calls P f (ys.map (A.den s)).toArray w fun e w' => e = .returned (a.den s) ∧ Below w.heap.size w w') : CallOk P C (oneC f g) := fun t ys H n r hr hl s w hC hI => by
 unfold oneC at hr
 split at hr
 ·rename_i k
  split at hr
  ·rename_i hk
   obtain rfl := Nat.eq_of_beq_eq_true hk
   split at hr
   ·rename_i a ha
    cases hr
    refine Calls.mono (h s w H n ys a hC hI ha) ?_
    rintro e w' ⟨rfl, hb⟩
    exact ⟨s, rfl, AdvF.grow hI hb⟩
   ·cases hr
  ·cases hr
 ·cases hr
noncomputable def withKey (a : A) (f : List Nat → Option A) : Option A := match keyA a with
 | some l => f l
 | none => none
theorem withKey_ok (s : Sg) {a b : A} {f : List Nat → Option A} (h : withKey a f = some b) : ∃ l, f l = some b ∧ a.den s = .agg (ints .u8 32 (fnL l)) ∧ Bytes 32 (fnL l) ∧ bl (strOf 32 (fnL l)) = l := by
 unfold withKey at h
 split at h
 ·rename_i l hl
  exact ⟨l, h, keyA_ok s hl⟩
 ·cases h
noncomputable def n1 (f : List Nat → Option A) (ys : List A) : Option A := match ys with
 | [a] => withKey a f
 | _ => none
noncomputable def ky (l : List Nat) : Option A := frcL l fun r => some (keyC r)
theorem ky_eq (l : List Nat) : ky l = some (keyC l) := frcL_eq _ _
noncomputable def labO (nm : List Nat) (ys : List A) (_ : Tr O) : Option A := n1 (fun l => ky (labN nm l [])) ys
theorem labO_ok {C : Sg → World → Nm → Prop} {f : FuncId} {F : (Nat → Int) → Nat → Int} {nm : ByteArray} {nl : List Nat} (hn : bl nm = nl) (hB : ∀ z, Bytes 32 (F z)) (hF : ∀ z, F z = labelF nm (strOf 32 z) ByteArray.empty) (hT : ∀ s w n, C s w n → Tabs w)
  (hc : ∀ (z : Nat → Int) (W : World), Bytes 32 z → Tabs W → Calls Tryz.prog f #[.agg (ints .u8 32 z)] W fun e w' => e = .returned (.agg (ints .u8 32 (F z))) ∧ Below W.heap.size W w') : CallOk Tryz.prog C (oneC f (labO nl)) :=
 one_ok fun s w H n ys a hC hI h => by
  unfold labO n1 at h
  split at h
  ·rename_i v
   obtain ⟨l, h1, h2, h3, h4⟩ := withKey_ok s h
   rw [ky_eq] at h1
   cases h1
   simp only [List.map_cons, List.map_nil]
   rw [h2, keyC_den s (hB (fnL l)) (by rw [hF, lab_is, hn, h4]; rfl)]
   exact hc _ w h3 (hT _ _ _ hC)
  ·cases h
noncomputable def stO (ys : List A) (_ : Tr O) : Option A := match ys with
 | [a, b, c] => withKey a fun k => withKey b fun l => withKey c fun m => ky (labN [115, 97, 112, 119, 111, 111, 100, 32, 115, 116, 97, 103, 101] (k ++ l) m)
 | _ => none
theorem stO_ok {C : Sg → World → Nm → Prop} (hT : ∀ s w n, C s w n → Tabs w) : CallOk Tryz.prog C (oneC 313 stO) :=
 one_ok fun s w H n ys a hC hI h => by
  unfold stO at h
  split at h
  ·obtain ⟨k, h, k2, k3, k4⟩ := withKey_ok s h
   obtain ⟨l, h, l2, l3, l4⟩ := withKey_ok s h
   obtain ⟨m, h, m2, m3, m4⟩ := withKey_ok s h
   rw [ky_eq] at h
   cases h
   simp only [List.map_cons, List.map_nil]
   rw [k2, l2, m2, keyC_den s (show Bytes 32 (stageF (fnL k) (fnL l) (fnL m)) from label_bytes _ _ _) (by unfold stageF; rw [lab_is, bl_append, k4, l4, m4]; rfl)]
   exact stageC _ _ _ w k3 l3 m3 (hT _ _ _ hC)
  ·cases h
noncomputable def paO (ys : List A) (_ : Tr O) : Option A := match ys with
 | [a, .V (.string b)] => withKey a fun k => match Nat.ble b.size 100000 with
  | true => ky (shaN (k ++ bl b))
  | false => none
 | _ => none
theorem paO_ok {C : Sg → World → Nm → Prop} (hT : ∀ s w n, C s w n → Tabs w) : CallOk Tryz.prog C (oneC 312 paO) :=
 one_ok fun s w H n ys a hC hI h => by
  unfold paO at h
  split at h
  ·rename_i v b
   obtain ⟨k, h, k2, k3, k4⟩ := withKey_ok s h
   split at h
   ·rename_i hb
    rw [Nat.ble_eq] at hb
    rw [ky_eq] at h
    cases h
    simp only [List.map_cons, List.map_nil]
    rw [k2, keyC_den s (show Bytes 32 (pastF (fnL k) b) from sha_bytes _) (by unfold pastF; rw [sha_is, bl_append, k4])]
    simp only [A.den]
    exact pastC _ _ w k3 hb (hT _ _ _ hC)
   ·cases h
  ·cases h
noncomputable def maO (ys : List A) (H : Tr O) : Option A := match ys with
 | [.V (.string b), x] => match textsOf H x with
  | some r => match Nat.ble b.size 1000000 && Nat.ble ((catA r).length + r.length) 1000000 with
   | true => ky (macN (bl b) ((catA r).map UInt8.toNat))
   | false => none
  | none => none
 | _ => none
theorem maO_ok {C : Sg → World → Nm → Prop} (hT : ∀ s w n, C s w n → Tabs w) : CallOk Tryz.prog C (oneC 31 maO) :=
 one_ok fun s w H n ys a hC hI h => by
  unfold maO at h
  split at h
  ·rename_i b x
   split at h
   ·rename_i ot r hr
    split at h
    ·rename_i hb
     rw [Bool.and_eq_true, Nat.ble_eq, Nat.ble_eq] at hb
     rw [ky_eq] at h
     cases h
     obtain ⟨oa, c, h1, h2, h3⟩ := textsOf_ok hI hr
     have hcat := catA_ok r
     simp only [List.map_cons, List.map_nil, A.den, h1]
     rw [keyC_den s (mac_bytes b (catS (fun j => r.getD j ByteArray.empty) r.length)) (by rw [mac_is, hcat]; rfl)]
     refine macS_any b oa r.length c _ w (by omega) ?_ (by omega) h3 (hT _ _ _ hC)
     rw [hcat]
     show (catA r).toArray.size < _
     rw [List.size_toArray]
     omega
    ·cases h
   ·cases h
  ·cases h
noncomputable def kvL (x : Nat) : List Nat := (List.range 32).map fun i => (keyV (x : Int) i).toNat
theorem kvL_is (x : Nat) : bl (strOf 32 (keyV (x : Int))) = kvL x := bl_str 32 _ (keyV_bytes _)
noncomputable def baO (ys : List A) (_ : Tr O) : Option A := n1 (fun l => frc (knum (clampF (fnL l)) 32) fun K => match tvO K 9 with
 | some x => frc x fun x => ky (kvL x)
 | none => none) ys
theorem baO_ok {C : Sg → World → Nm → Prop} : CallOk Tryz.prog C (oneC 213 baO) :=
 one_ok fun s w H n ys a hC hI h => by
  unfold baO n1 at h
  split at h
  ·rename_i v
   obtain ⟨l, h, h2, h3, h4⟩ := withKey_ok s h
   rw [frc_eq] at h
   split at h
   ·rename_i ot x hx
    rw [frc_eq, ky_eq] at h
    cases h
    simp only [List.map_cons, List.map_nil]
    rw [h2, keyC_den s (keyV_bytes (x : Int)) (kvL_is x), ← tv_is hx]
    exact base_any _ w h3
   ·cases h
  ·cases h
noncomputable def shO (ys : List A) (_ : Tr O) : Option A := match ys with
 | [a, b] => withKey a fun k => withKey b fun q => frc (knum (clampF (fnL k)) 32) fun K => frc (nv (ofF (fnL q))).toNat fun u => match tvO K u with
  | some x => frc x fun x => frcL (kvL x) fun r => some (.T [keyC r, .V (.bool (not (Nat.beq x 0)))])
  | none => none
 | _ => none
theorem shO_ok {C : Sg → World → Nm → Prop} : CallOk Tryz.prog C (oneC 251 shO) :=
 one_ok fun s w H n ys a hC hI h => by
  unfold shO at h
  split at h
  ·obtain ⟨k, h, k2, k3, k4⟩ := withKey_ok s h
   obtain ⟨q, h, q2, q3, q4⟩ := withKey_ok s h
   rw [frc_eq, frc_eq] at h
   split at h
   ·rename_i ot x hx
    rw [frc_eq, frcL_eq] at h
    cases h
    have hu : (((nv (ofF (fnL q))).toNat : Nat) : Int) = nv (ofF (fnL q)) := Int.toNat_of_nonneg (nv_bd _).1
    have hv : shV (fnL k) (fnL q) = (x : Int) := by
     have := tv_is hx
     rw [hu] at this
     exact this
    have hd : decide (shV (fnL k) (fnL q) = 0) = Nat.beq x 0 := by
     rw [hv]
     cases hb : Nat.beq x 0 with
     | true => rw [Nat.eq_of_beq_eq_true hb]; rfl
     | false =>
      rw [decide_eq_false_iff_not]
      intro e
      have : x = 0 := by omega
      rw [this] at hb
      cases hb
    have := shared_any (fnL k) (fnL q) w k3 q3 hd
    rw [hv] at this
    simp only [List.map_cons, List.map_nil, A.den]
    rw [k2, q2, keyC_den s (keyV_bytes (x : Int)) (kvL_is x)]
    exact this
   ·cases h
  ·cases h
theorem nodeO_ok {C : Sg → World → Nm → Prop} (hT : ∀ s w n, C s w n → Tabs w) : CallOk Tryz.prog C (oneC 340 (labO [115, 97, 112, 119, 111, 111, 100, 32, 110, 111, 100, 101])) := labO_ok (F := nodeF) (nm := ⟨#[115, 97, 112, 119, 111, 111, 100, 32, 110, 111, 100, 101]⟩) rfl (fun z => label_bytes _ _ _) (fun z => rfl) hT fun z W h1 h2 => nodeC z W h1 h2
theorem leafO_ok {C : Sg → World → Nm → Prop} (hT : ∀ s w n, C s w n → Tabs w) : CallOk Tryz.prog C (oneC 252 (labO [115, 97, 112, 119, 111, 111, 100, 32, 108, 101, 97, 102])) := labO_ok (F := leafF) (nm := ⟨#[115, 97, 112, 119, 111, 111, 100, 32, 108, 101, 97, 102]⟩) rfl (fun z => label_bytes _ _ _) (fun z => rfl) hT fun z W h1 h2 => leafC z W h1 h2
theorem tagO_ok {C : Sg → World → Nm → Prop} (hT : ∀ s w n, C s w n → Tabs w) : CallOk Tryz.prog C (oneC 314 (labO [115, 97, 112, 119, 111, 111, 100, 32, 116, 97, 103])) := labO_ok (F := tagF) (nm := ⟨#[115, 97, 112, 119, 111, 111, 100, 32, 116, 97, 103]⟩) rfl (fun z => label_bytes _ _ _) (fun z => rfl) hT fun z W h1 h2 => tagC z W h1 h2
noncomputable def cloM (H : Tr O) (n : Nm) (k : Nat) : Option Q3 := match Nat.blt (n.c + 1) (2 ^ mx), H.get k with
 | true, some (.M es kt q) => some (.M n.c, H.set mx n.c (some (.M es kt q)), n.nx)
 | true, some (.E e c kt q) => some (.M n.c, H.set mx n.c (some (.E e c kt q)), n.nx)
 | _, _ => none
theorem cloM_ok {P : Program} {s : Sg} {w : World} {H : Tr O} {n : Nm} {k : Nat} {r : Q3} (hI : Inv P s w H n) (h : cloM H n k = some r) : ∃ es clock, w.heap[s.a k]? = some (.map es clock) ∧ ∃ s', A.M n.c = r.1 ∧ s'.a n.c = w.heap.size ∧ Adv P s w H n s' (w.alloc (.map es clock)) r.2.1 r.2.2 := by
 have ext : ∀ (a : A), A.lt n dp a = true → a.den (s.add n w.heap.size 0) = a.den s := fun a ha => A.den_ext (fun j hj => Sg.add_old s n _ 0 j hj) dp a ha
 unfold cloM at h
 split at h
 ·rename_i es kt q hc hk
  cases h
  rw [Nat.blt_eq] at hc
  obtain ⟨es', c, h1, h2, h3, h4⟩ := hI.ok _ _ hk
  have hl := (hI.lt k _ hk).2
  refine ⟨es', c, h1, s.add n w.heap.size 0, rfl, (s.add_new n _ 0).1, Adv.new hI hc hl ?_ (Nat.le_refl _) rfl rfl rfl (by simp) fun i hi => Below.heap_alloc _ _ _ hi⟩
  show World.ownsMap _ _ _ _ ((s.add n w.heap.size 0).a n.c) _ _
  rw [(s.add_new n _ 0).1]
  refine ⟨es', c, (MapKept.heap_alloc w _).1, h2, h3, ?_⟩
  rw [← h4]
  congr 1
  exact List.map_congr_left fun e he => by rw [ext _ (List.all_eq_true.1 hl e he)]
 ·rename_i e c kt q hc hk
  cases h
  rw [Nat.blt_eq] at hc
  have hl := (hI.lt k _ hk).2
  refine ⟨entM s q e, c, hI.ok _ _ hk, s.add n w.heap.size 0, rfl, (s.add_new n _ 0).1, Adv.new hI hc hl ?_ (Nat.le_refl _) rfl rfl rfl (by simp) fun i hi => Below.heap_alloc _ _ _ hi⟩
  show (w.alloc _).heap[(s.add n w.heap.size 0).a n.c]? = some (.map (entM (s.add n w.heap.size 0) q e) c)
  rw [(s.add_new n _ 0).1, (MapKept.heap_alloc w _).1]
  cases e with
  | none => rfl
  | some x =>
   obtain ⟨z, a, b⟩ := x
   simp only [entM]
   rw [ext a hl]
 ·cases h
noncomputable def CloC (f : FuncId) : Prop := ∀ (b : Nat) (es : Array MapEntry) (clock : Nat) (w : World), w.heap[b]? = some (.map es clock) → Calls Tryz.prog f #[.map (some b)] w fun e w' => e = .returned (.map (some w.heap.size)) ∧ w' = w.alloc (.map es clock)
noncomputable def orcM (f : FuncId) : Caller := fun t ys H n => match t with
 | .f g => match Nat.beq g f with
  | true => match ys with
   | [.M k] => cloM H n k
   | _ => none
  | false => none
 | .y _ => none
theorem orcM_ok {C : Sg → World → Nm → Prop} {f : FuncId} (hf : CloC f) : CallOk Tryz.prog C (orcM f) := fun t ys H n r h hl s w hC hI => by
 unfold orcM at h
 split at h
 ·rename_i g
  split at h
  ·rename_i hg
   obtain rfl := Nat.eq_of_beq_eq_true hg
   split at h
   ·rename_i k
    obtain ⟨es, c, h1, s', h2, h3, h4⟩ := cloM_ok hI h
    unfold TgOk
    simp only [List.map_cons, List.map_nil, A.den]
    refine Calls.mono (hf _ es c w h1) ?_
    rintro e w' ⟨rfl, rfl⟩
    refine ⟨s', ?_, h4⟩
    rw [← h2]
    simp only [A.den, h3]
   ·cases h
  ·cases h
 ·cases h
set_option maxHeartbeats 2000000 in
theorem cloK : CloC 168 := fun b es clock w hb => by
 have hq := fun w => run_eql_map_nil_sl (P := Tryz.prog) w 178 _ _ (some b) Tryz.underlying178
 go_enter Tryz.func168, Tryz.ntmps168
 go_wp2
 rw [run_callFunc_extern Tryz.func203 (by kernel_rfl) (by kernel_rfl) (by kernel_rfl) (e := Extern.MapsClone.clone) (by kernel_rfl), run_maps_clone_sl w 178 hb]
 simp only [Result.andThen]
 rw [Oper.upon_value]
 go_wp2
 rw [run_typeAssert_map_sl _ 178 _ _ _ _ Tryz.underlying178]
 simp only [Result.andThen]
 rw [Oper.upon_value]
 go_wp2
 go_ret
 exact ⟨rfl, rfl⟩
set_option maxHeartbeats 2000000 in
theorem cloU : CloC 169 := fun b es clock w hb => by
 have hq := fun w => run_eql_map_nil_sl (P := Tryz.prog) w 179 _ _ (some b) Tryz.underlying179
 go_enter Tryz.func169, Tryz.ntmps169
 go_wp2
 rw [run_callFunc_extern Tryz.func203 (by kernel_rfl) (by kernel_rfl) (by kernel_rfl) (e := Extern.MapsClone.clone) (by kernel_rfl), run_maps_clone_sl w 179 hb]
 simp only [Result.andThen]
 rw [Oper.upon_value]
 go_wp2
 rw [run_typeAssert_map_sl _ 179 _ _ _ _ Tryz.underlying179]
 simp only [Result.andThen]
 rw [Oper.upon_value]
 go_wp2
 go_ret
 exact ⟨rfl, rfl⟩
end Mc
end Go.Proofs.YtdoolhbmekahdaaGreatDoor
namespace Go.Proofs.YtdoolhbmekahdaaGreatDoor
namespace Mc
open Go.RowKit
set_option linter.unusedVariables false
set_option linter.unusedSimpArgs false
noncomputable def KT (f : FuncId) : Prop := ∀ w : World, Tabs w → EtAt w → Calls Tryz.prog f #[] w fun e w' => e = .returned (.bool true) ∧ Below w.heap.size w w'
noncomputable def awL (l : List FuncId) : Caller := fun t ys H n => match t with
 | .f f => match mem f l with
  | true => match ys with
   | [] => some (.V (.bool true), H, n)
   | _ => none
  | false => none
 | .y _ => none
theorem awL_ok {w0 : World} (hT : Tabs w0) (hE : EtAt w0) {l : List FuncId} (hl : ∀ f ∈ l, KT f) : CallOk Tryz.prog (From w0) (awL l) := fun t ys H n r h hlt s w hC hI => by
 unfold awL at h
 split at h
 ·rename_i f
  split at h
  ·rename_i hf
   split at h
   ·cases h
    refine Calls.mono (hl f ((mem_iff f l).1 hf) w (hT.later hC.1) (hE.later hC.1)) ?_
    rintro e w' ⟨rfl, hb⟩
    exact ⟨s, by simp only [A.den], AdvF.grow hI hb⟩
   ·cases h
  ·cases h
 ·cases h
theorem aw10_KT : KT 416 := fun w hT _ => aw10 w hT
noncomputable def orcs : Caller := orBoth (oneC 340 (labO [115, 97, 112, 119, 111, 111, 100, 32, 110, 111, 100, 101])) <| orBoth (oneC 252 (labO [115, 97, 112, 119, 111, 111, 100, 32, 108, 101, 97, 102])) <|
 orBoth (oneC 314 (labO [115, 97, 112, 119, 111, 111, 100, 32, 116, 97, 103])) <| orBoth (oneC 313 stO) <| orBoth (oneC 312 paO) <| orBoth (oneC 31 maO) <|
 orBoth (oneC 213 baO) <| orBoth (oneC 251 shO) <| orBoth orcE <| orBoth (orcM 168) <| orBoth (orcM 169) <| orBoth orcB orcJ
theorem orcs_ok {w0 : World} (hT : Tabs w0) (hE : EtAt w0) : CallOk Tryz.prog (From w0) orcs := by
 have h : ∀ s w n, From w0 s w n → Tabs w := fun s w n hC => hT.later hC.1
 exact orBoth_ok (nodeO_ok h) <| orBoth_ok (leafO_ok h) <| orBoth_ok (tagO_ok h) <| orBoth_ok (stO_ok h) <| orBoth_ok (paO_ok h) <| orBoth_ok (maO_ok h) <| orBoth_ok baO_ok <| orBoth_ok shO_ok <| orBoth_ok (orcE_ok hE) <| orBoth_ok (orcM_ok cloK) <| orBoth_ok (orcM_ok cloU) <| orBoth_ok orcB_ok orcJ_ok
noncomputable def callW (l : List FuncId) : Caller := runFn Tryz.prog (orBoth (awL l) orcs) (drawR Tryz.prog) 5000 60
theorem callW_ok {w0 : World} (hT : Tabs w0) (hE : EtAt w0) {l : List FuncId} (hl : ∀ f ∈ l, KT f) : CallOk Tryz.prog (From w0) (callW l) :=
 runFn_ok (from_stab w0) (orBoth_ok (awL_ok hT hE hl) (orcs_ok hT hE)) (fun call C hc N => drawR_ok (by kernel_rfl) hc N) 60
noncomputable def isT : Option Q3 → Bool
 | some (.V (.bool b), _, _) => b
 | _ => false
theorem run_true {l : List FuncId} {f : FuncId} (hl : ∀ f ∈ l, KT f) (h : isT (callW l (.f f) [] .l ⟨0, fun _ => false⟩) = true) : KT f := fun w hT hE => by
 cases hr : callW l (.f f) [] .l ⟨0, fun _ => false⟩ with
 | none => rw [hr] at h; cases h
 | some r =>
  rw [hr] at h
  obtain ⟨a, H, n⟩ := r
  unfold isT at h
  split at h
  ·rename_i ob b e
   cases e
   subst h
   exact run_top (callW_ok hT hE hl) hr rfl
  ·cases h
theorem KT.one {f : FuncId} (h : KT f) : ∀ g ∈ [f], KT g := fun g hg => by rw [List.mem_singleton.1 hg]; exact h
end Mc
end Go.Proofs.YtdoolhbmekahdaaGreatDoor
