/- Xe -/
import Derived.Test.YtdoolhbmekahdaaGreatDoorXb
import Derived.Laws.IdiomStrings
import Derived.Laws.BytesString
import Derived.Laws.MakeOwn
import Derived.Lib.UnsafeStr
import Derived.Lib.AppendStr
import Derived.Maps.RangeRun
namespace Go.Proofs.YtdoolhbmekahdaaGreatDoor
namespace Mc
open Go.RowKit Go.Maps
set_option linter.unusedVariables false
set_option linter.unusedSimpArgs false
theorem Adv.app {P : Program} {s : Sg} {w w' : World} {H H1 : Tr O} {n : Nm} {g c : Nat} {o : O} (h : Inv P s w H n) (hn : n.c + 1 < 2 ^ mx) (hl : o.lt n = true) (hok : o.ok P (s.add n g c) w' n.c)
  (hg : w.heap.size ≤ g ∨ ∃ j o', H.get j = some o' ∧ s.a j = g)
  (hos : w'.os = w.os) (ht : w'.tape = w.tape) (hout : w'.output = w.output) (hsz : w.heap.size ≤ w'.heap.size)
  (hfr : ∀ b, b < w.heap.size → (∀ k o', H.get k = some o' → s.a k ≠ b) → w'.heap[b]? = w.heap[b]?)
  (hk : ∀ j o', H1.get j = some o' → H.get j = some o' ∧ s.a j ≠ g ∧ w'.heap[s.a j]? = w.heap[s.a j]?) : Adv P s w H n (s.add n g c) w' (H1.set mx n.c (some o)) n.nx := by
 have hget := fun j => Tr.get_set mx H1 n.c (some o) j hn
 have hext := s.add_old n g c
 have hnew := s.add_new n g c
 refine ⟨hext, ⟨fun k o' hq => ?_, fun k o' hq => ?_, fun j k o1 o2 hj hq e => ?_, fun k hk => h.fresh k (Nat.le_of_succ_le hk)⟩, Nat.le_succ _, fun _ => n.has_nx, n.back_nx, fun k hq => ?_, fun k o' hq => ?_, hos, ht, hout, hsz, hfr, fun k o' hq => ?_⟩
 ·rw [hget] at hq
  split at hq
  ·subst k; cases hq; exact hok
  ·obtain ⟨h1, h2, h3⟩ := hk k o' hq
   have h4 := h.lt k o' h1
   exact O.ok_names (O.ok_world (h.ok k o' h1) h3) h4.1 (fun j hj => hext j hj) h4.2
 ·rw [hget] at hq
  split at hq
  ·subst k; cases hq; exact ⟨Nm.has_new h.fresh, O.lt_mono (fun _ => n.has_nx) hl⟩
  ·obtain ⟨h1, h2, h3⟩ := hk k o' hq
   have := h.lt k o' h1
   exact ⟨n.has_nx this.1, O.lt_mono (fun _ => n.has_nx) this.2⟩
 ·rw [hget] at hj hq
  split at hj <;> split at hq
  ·omega
  ·subst j
   obtain ⟨h1, h2, h3⟩ := hk k o2 hq
   rw [hnew.1, (hext k (h.lt k o2 h1).1).1] at e
   exact absurd e.symm h2
  ·subst k
   obtain ⟨h1, h2, h3⟩ := hk j o1 hj
   rw [hnew.1, (hext j (h.lt j o1 h1).1).1] at e
   exact absurd e h2
  ·obtain ⟨h1, h2, h3⟩ := hk j o1 hj
   obtain ⟨h1', h2', h3'⟩ := hk k o2 hq
   rw [(hext j (h.lt j o1 h1).1).1, (hext k (h.lt k o2 h1').1).1] at e
   exact h.inj j k o1 o2 h1 h1' e
 ·rcases n.back_nx k hq with h1 | h1
  ·exact .inl h1
  ·have := Nm.has_lt hq
   obtain rfl : k = n.c := Nat.le_antisymm (Nat.le_of_lt_succ this) h1
   rw [hnew.1]
   rcases hg with hg | ⟨j, o', h2, h3⟩
   ·exact .inr (.inl hg)
   ·exact .inr (.inr ⟨j, (h.lt j o' h2).1, h3⟩)
 ·rw [hget] at hq
  split at hq
  ·subst k; exact .inl (Nat.le_refl _)
  ·exact .inr ⟨o', (hk k o' hq).1⟩
 ·rw [hget] at hq
  split at hq
  ·subst k
   rw [hnew.1]
   exact hg
  ·obtain ⟨h1, h2, h3⟩ := hk k o' hq
   exact .inr ⟨k, o', h1, ((hext k (h.lt k o' h1).1).1).symm⟩
noncomputable def cellsOf (H : Tr O) (z : Nat) : A → Option (Nat × Nat × Nat × List A)
 | .C k o l _ => match rowOf H k with
  | some cs => match Nat.ble (o + l * z) cs.length with
   | true => some (k, o, l, (cs.drop o).take (l * z))
   | false => none
  | none => none
 | .D k o _ l => match rowOf H k with
  | some cs => match Nat.ble (o + l * z) cs.length with
   | true => some (k, o, l, (cs.drop o).take (l * z))
   | false => none
  | none => none
 | _ => none
theorem cellsOf_ok {P : Program} {s : Sg} {w : World} {H : Tr O} {n : Nm} {z k o l : Nat} {y : A} {xs : List A} (hI : Inv P s w H n) (h : cellsOf H z y = some (k, o, l, xs)) :
  (∃ c, y.den s = .slice (some ⟨s.a k, o, none⟩) l c) ∧ xs.length = l * z ∧ ∀ j u, (xs.map (A.den s))[j]? = some u → w.cell? ((⟨s.a k, o, none⟩ : Addr).add j) = some u := by
 have key : ∀ cs, rowOf H k = some cs → o + l * z ≤ cs.length → xs = (cs.drop o).take (l * z) → xs.length = l * z ∧ ∀ j u, (xs.map (A.den s))[j]? = some u → w.cell? ((⟨s.a k, o, none⟩ : Addr).add j) = some u := fun cs hr hle hx => by
  subst hx
  refine ⟨by rw [List.length_take, List.length_drop]; omega, fun j u hj => ?_⟩
  rw [addr_add]
  rw [List.getElem?_map, Option.map_eq_some_iff] at hj
  obtain ⟨x, hx, rfl⟩ := hj
  rw [List.getElem?_take] at hx
  split at hx
  ·rw [List.getElem?_drop] at hx
   exact rowOf_ok hI hr _ _ hx
  ·cases hx
 unfold cellsOf at h
 split at h <;> first | cases h | skip
 all_goals
  split at h
  ·rename_i cs hr
   split at h
   ·rename_i hle
    cases h
    rw [Nat.ble_eq] at hle
    exact ⟨by simp only [A.den]; exact ⟨_, rfl⟩, key cs hr hle rfl⟩
   ·cases h
  ·cases h
noncomputable def ownOf (H : Tr O) (e z : Nat) : A → Option (Tr O × Nat × List A)
 | .V (.slice none 0 0) => some (H, 0, [])
 | .D k 0 0 l => match H.get k with
  | some (.U cs e' z' l') => match Nat.beq e e' && Nat.beq z z' && Nat.beq l l' with
   | true => some (H.set mx k none, l, cs)
   | false => none
  | _ => none
 | .C k 0 l c => match H.get k with
  | some (.R cs e' (0, 0)) => match Nat.beq e e' && Nat.beq cs.length (c * z) && Nat.ble l c && Nat.blt c 1000000 with
   | true => some (H.set mx k none, l, cs.take (l * z))
   | false => none
  | _ => none
 | _ => none
theorem ownOf_ok {P : Program} {s : Sg} {w : World} {H H1 : Tr O} {n : Nm} {e z l : Nat} {x : A} {xs : List A} (hI : Inv P s w H n) (hn : n.c < 2 ^ mx) (h : ownOf H e z x = some (H1, l, xs)) :
  w.ownsRow 0 e z (x.den s) l (xs.map (A.den s)) ∧ xs.all (A.lt n dp) = true ∧ (∀ j o', H1.get j = some o' → H.get j = some o' ∧ (x.den s).ownBlock ≠ some (s.a j)) ∧ (∀ g, (x.den s).ownBlock = some g → ∃ j o', H.get j = some o' ∧ s.a j = g) := by
 have del : ∀ k o, H.get k = some o → ∀ j o', (H.set mx k none).get j = some o' → H.get j = some o' ∧ s.a j ≠ s.a k := fun k o hk j o' hj => by
  rw [Tr.get_set mx H k none j (by have := Nm.has_lt (hI.lt k o hk).1; omega)] at hj
  split at hj
  ·cases hj
  ·rename_i hne
   exact ⟨hj, fun e => hne (hI.inj j k o' o hj hk e)⟩
 unfold ownOf at h
 split at h
 ·cases h
  exact ⟨by simp only [A.den]; exact World.ownsRow_nil _ _ _ _, rfl, fun j o' hj => ⟨hj, by simp [A.den, Value.ownBlock]⟩, fun g hg => by simp [A.den, Value.ownBlock] at hg⟩
 ·rename_i k l0
  split at h
  ·rename_i cs e' z' l' hk
   split at h
   ·rename_i hb
    cases h
    simp only [Bool.and_eq_true] at hb
    obtain ⟨⟨h1, h2⟩, h3⟩ := hb
    replace h1 := Nat.eq_of_beq_eq_true h1
    replace h2 := Nat.eq_of_beq_eq_true h2
    replace h3 := Nat.eq_of_beq_eq_true h3
    subst h1 h2 h3
    have := hI.ok _ _ hk
    refine ⟨by simp only [A.den, Nat.sub_zero]; exact this, (hI.lt _ _ hk).2, fun j o' hj => ?_, fun g hg => ⟨k, _, hk, by simpa [A.den, Value.ownBlock] using hg⟩⟩
    obtain ⟨h4, h5⟩ := del k _ hk j o' hj
    exact ⟨h4, by simp only [A.den, Value.ownBlock]; exact fun e => h5 (Option.some.inj e).symm⟩
   ·cases h
  ·cases h
 ·rename_i k l0 c
  split at h
  ·rename_i cs e' hk
   split at h
   ·rename_i hb
    cases h
    simp only [Bool.and_eq_true, Nat.ble_eq, Nat.blt_eq] at hb
    obtain ⟨⟨⟨h1, h2⟩, h3⟩, h6⟩ := hb
    replace h1 := Nat.eq_of_beq_eq_true h1
    replace h2 := Nat.eq_of_beq_eq_true h2
    subst h1
    have hg : w.heap[s.a k]? = some (.cells (cs.map (A.den s)).toArray e (0, 0)) := hI.ok _ _ hk
    have hle : l * z ≤ cs.length := by rw [h2]; exact Nat.mul_le_mul_right _ h3
    refine ⟨⟨by simp; omega, .inr ⟨s.a k, c, _, by simp only [A.den], Nat.zero_le _, hg, h3, by unfold maxLen; omega, by simp [h2], by simp [List.map_take]⟩⟩, ?_, fun j o' hj => ?_, fun g hg => ⟨k, _, hk, by simpa [A.den, Value.ownBlock] using hg⟩⟩
    ·exact List.all_eq_true.2 fun a ha => List.all_eq_true.1 (hI.lt _ _ hk).2 a (List.mem_of_mem_take ha)
    ·obtain ⟨h4, h5⟩ := del k _ hk j o' hj
     exact ⟨h4, by simp only [A.den, Value.ownBlock]; exact fun e => h5 (Option.some.inj e).symm⟩
   ·cases h
  ·cases h
 ·cases h
noncomputable def byt (P : Program) (t : TypeId) : Option Nat := match P.info? t with
 | some i => some i.bytes
 | none => none
noncomputable def opApp1 (P : Program) (H : Tr O) (n : Nm) (t : TypeId) (x y : A) : Option Q3 := match P.underlying t with
 | some (.slice e) => match siz P e, zer P e, byt P e with
  | some (z + 1), some zv, some b => match Nat.beq zv.cells.size (z + 1), ownOf H e (z + 1) x, cellsOf H (z + 1) y with
   | true, some (H1, l, xs), some (_, _, m + 1, ys) => match Nat.blt (l + (m + 1)) 1000000 && Nat.blt b 1000000 && Nat.blt (n.c + 1) (2 ^ mx) && ys.all A.one && (xs ++ ys).all (A.lt n dp) with
    | true => some (.D n.c 0 0 (l + (m + 1)), H1.set mx n.c (some (.U (xs ++ ys) e (z + 1) (l + (m + 1)))), n.nx)
    | false => none
   | _, _, _ => none
  | _, _, _ => none
 | _ => none
theorem opApp1_ok {P : Program} {s : Sg} {w : World} {H : Tr O} {n : Nm} {t ty : TypeId} {x y : A} {r : Q3} (hI : Inv P s w H n) (h : opApp1 P H n t x y = some r) : Snd P (Builtin.append_ #[t, t] ty #[x.den s, y.den s]) s w H n r := by
 unfold opApp1 at h
 split at h
 ·rename_i e hu
  split at h
  ·rename_i z zv b hz hzv hby
   split at h
   ·rename_i H1 l xs k o m ys hzs hown hce
    split at h
    ·rename_i hb
     cases h
     simp only [Bool.and_eq_true, Nat.blt_eq] at hb
     obtain ⟨⟨⟨⟨h1, h2⟩, h3⟩, h4⟩, h5⟩ := hb
     replace hzs := Nat.eq_of_beq_eq_true hzs
     obtain ⟨i, hi, hi1, hi2, hi3⟩ : ∃ i, P.info? e = some i ∧ i.zero = some zv ∧ i.size = z + 1 ∧ i.bytes = b := by
      unfold siz at hz; unfold zer at hzv; unfold byt at hby
      cases hi : P.info? e with
      | none => rw [hi] at hz; cases hz
      | some i => rw [hi] at hz hzv hby; exact ⟨i, rfl, hzv, Option.some.inj hz, Option.some.inj hby⟩
     obtain ⟨o1, o2, o3, o4⟩ := ownOf_ok hI (by omega) hown
     obtain ⟨⟨c, hc⟩, c2, c3⟩ := cellsOf_ok hI hce
     have hone : ∀ u ∈ ys.map (A.den s), u.oneCell' = true := fun u hu => by
      obtain ⟨a, ha, rfl⟩ := List.mem_map.1 hu
      exact A.one_den a (List.all_eq_true.1 h4 a ha)
     obtain ⟨g, cap, w', r1, r2, r3, r4, r5⟩ := run_append_lies (P := P) w t ty 0 e i zv (z + 1) b hu hi hi1 hi2 hi3 hzs (by omega) (x.den s) l _ o1 ⟨s.a k, o, none⟩ (m + 1) c (ys.map (A.den s)) (by rw [List.length_map]; exact c2) c3 hone (by omega) (by unfold maxLen; omega) (by
      have : (l + (m + 1)) * b ≤ 1000000 * 1000000 := Nat.mul_le_mul (by omega) (by omega)
      omega) (Nat.zero_le _) _ rfl
     refine ⟨s.add n g cap, w', by rw [hc]; simpa [A.den, (s.add_new n g cap).1, (s.add_new n g cap).2] using r1, ?_⟩
     have hall : ∀ j o', H1.get j = some o' → H.get j = some o' ∧ s.a j ≠ g ∧ w'.heap[s.a j]? = w.heap[s.a j]? := fun j o' hj => by
      obtain ⟨q1, q2⟩ := o3 j o' hj
      have q3 := O.here (hI.ok j o' q1)
      refine ⟨q1, fun e => ?_, r3.block _ q3 (fun e => q2 e.symm)⟩
      rcases r4 with r4 | r4
      ·exact q2 (by rw [r4, e])
      ·omega
     refine Adv.app hI h3 h5 ?_ ?_ r3.os r3.tape r3.output r3.size (fun b hb hn => r3.block b hb fun e => ?_) hall
     ·show World.ownsRow _ _ _ _ (.slice (some ⟨(s.add n g cap).a n.c, 0, none⟩) _ ((s.add n g cap).k n.c)) _ _
      rw [(s.add_new n g cap).1, (s.add_new n g cap).2, List.map_congr_left fun a ha => A.den_ext (s.add_old n g cap) dp a (List.all_eq_true.1 h5 a ha), List.map_append]
      exact r2
     ·rcases r4 with r4 | r4
      ·exact .inr (o4 g r4)
      ·exact .inl (by omega)
     ·obtain ⟨j, o', q1, q2⟩ := o4 b e.symm
      exact hn j o' q1 q2
    ·cases h
   ·cases h
  ·cases h
 ·cases h
noncomputable def zap : A → A → Bool
 | .D _ _ _ 0, y => match y with
  | .D _ _ _ 0 => true
  | .C _ _ 0 _ => true
  | .Z _ _ _ _ => true
  | _ => false
 | _, _ => false
theorem zap_ok {x y : A} (h : zap x y = true) (s : Sg) : (∃ a c, x.den s = .slice (some a) 0 c) ∧ ∃ a c, y.den s = .slice (some a) 0 c := by
 unfold zap at h
 split at h
 ·rename_i k o e
  refine ⟨⟨⟨s.a k, o, none⟩, s.k k - e, by simp only [A.den]⟩, ?_⟩
  split at h
  ·exact ⟨_, _, by simp only [A.den]; rfl⟩
  ·exact ⟨_, _, by simp only [A.den]; rfl⟩
  ·exact ⟨_, _, by simp only [A.den]; rfl⟩
  ·cases h
 ·cases h
noncomputable def opApp (P : Program) (H : Tr O) (n : Nm) (t : TypeId) (x y : A) : Option Q3 := match zap x y with
 | true => match P.underlying t with
  | some (.slice e) => match siz P e with
   | some _ => some (x, H, n)
   | none => none
  | _ => none
 | false => opApp1 P H n t x y
theorem opApp_ok {P : Program} {s : Sg} {w : World} {H : Tr O} {n : Nm} {t ty : TypeId} {x y : A} {r : Q3} (hI : Inv P s w H n) (h : opApp P H n t x y = some r) : Snd P (Builtin.append_ #[t, t] ty #[x.den s, y.den s]) s w H n r := by
 unfold opApp at h
 split at h
 ·rename_i hz
  split at h
  ·rename_i e hu
   split at h
   ·rename_i z hs
    cases h
    obtain ⟨⟨a, c, h1⟩, b, d, h2⟩ := zap_ok hz s
    refine ⟨s, w, ?_, Adv.refl hI⟩
    simp only [h1, h2]
    have h3 := run_siz hs w
    simp [Builtin.append_, run_underlying hu, h3, Result.andThen, Builtin.lenOf, Builtin.firstCells, loadCells, loadCellsFrom, storeCells]
   ·cases h
  ·cases h
 ·exact opApp1_ok hI h
noncomputable def mapD (s : Sg) (q : IntKind) (es : List (Int × A)) : DataW Value := .map (es.map fun e => (Lit.int q e.1, .held (e.2.den s)))
theorem tightM {P : Program} {w : World} {kt : TypeId} {b n : Nat} {s : Sg} {q : IntKind} {es : List (Int × A)} (h : w.ownsMap P kt hV b n (mapD s q es)) : w.ownsMap P kt hV b es.length (mapD s q es) := by
 obtain ⟨es', clock, h1, h2, h3, h4⟩ := h
 refine ⟨es', clock, h1, h2, ?_, h4⟩
 have := congrArg Maps.size h4
 simp only [mapD, Maps.size, List.length_map, length_sorted, Array.length_toList] at this
 omega
noncomputable def findM (z : Int) : List (Int × A) → Option A
 | [] => none
 | e :: es => match decide (e.1 = z) with
  | true => some e.2
  | false => findM z es
theorem findM_ok (s : Sg) (q : IntKind) (z : Int) (v : Value) : ∀ es : List (Int × A), (mapD s q es).atKey (.int q z) (.held v) = .held (match findM z es with | some a => a.den s | none => v) ∧ Maps.has (mapD s q es) (.int q z) = (findM z es).isSome
 | [] => ⟨rfl, rfl⟩
 | e :: es => by
  obtain ⟨h1, h2⟩ := findM_ok s q z v es
  simp only [mapD, DataW.atKey, Maps.has] at h1 h2
  by_cases hz : e.1 = z
  ·simp [mapD, DataW.atKey, Maps.has, findM, hz, Lit.sameKey]
  ·have e1 : findM z (e :: es) = findM z es := by simp [findM, hz]
   rw [e1]
   constructor
   ·rw [← h1]
    simp [mapD, DataW.atKey, Lit.sameKey, hz]
   ·rw [← h2]
    simp [mapD, Maps.has, Lit.sameKey, hz]
noncomputable def insM (z : Int) (a : A) : List (Int × A) → List (Int × A)
 | [] => [(z, a)]
 | e :: es => match decide (z < e.1) with
  | true => (z, a) :: e :: es
  | false => e :: insM z a es
noncomputable def cutM (z : Int) : List (Int × A) → List (Int × A)
 | [] => []
 | e :: es => match decide (e.1 = z) with
  | true => cutM z es
  | false => e :: cutM z es
theorem cutM_ok (s : Sg) (q : IntKind) (z : Int) : ∀ es : List (Int × A), (mapD s q es).del (.int q z) = mapD s q (cutM z es)
 | [] => rfl
 | e :: es => by
  have ih := cutM_ok s q z es
  simp only [mapD, DataW.del, DataW.map.injEq] at ih
  by_cases hz : e.1 = z
  ·simp only [mapD, DataW.del, DataW.map.injEq, cutM, decide_eq_true hz, ← ih]
   simp [Lit.sameKey, hz]
  ·simp only [mapD, DataW.del, DataW.map.injEq, cutM, decide_eq_false hz, List.map_cons, ← ih]
   simp [Lit.sameKey, hz]
theorem insM_ok (s : Sg) (q : IntKind) (z : Int) (a : A) : ∀ es : List (Int × A), DataW.insert (Lit.int q z, DataW.held (a.den s)) (es.map fun e => (Lit.int q e.1, .held (e.2.den s))) = (insM z a es).map fun e => (Lit.int q e.1, .held (e.2.den s))
 | [] => rfl
 | e :: es => by
  by_cases hz : z < e.1
  ·simp [DataW.insert, Lit.before, hz, insM]
  ·simp only [insM, decide_eq_false hz, List.map_cons, DataW.insert, ← insM_ok s q z a es]
   simp [Lit.before, hz]
theorem putM_ok (s : Sg) (q : IntKind) (z : Int) (a : A) (es : List (Int × A)) : (mapD s q es).put (.int q z) (.held (a.den s)) = mapD s q (insM z a (cutM z es)) := by
 have h := cutM_ok s q z es
 simp only [mapD, DataW.del, DataW.map.injEq] at h
 simp only [mapD, DataW.put, DataW.map.injEq, h, insM_ok]
noncomputable def kndOf (P : Program) (kt : TypeId) : Option IntKind := match P.underlying kt with
 | some (.int q) => some q
 | _ => none
theorem kndOf_ok {P : Program} {kt : TypeId} {q : IntKind} (h : kndOf P kt = some q) : Keyed P kt ∧ P.underlying kt = some (.int q) := by
 unfold kndOf at h
 split at h
 ·rename_i q' hq
  cases h
  exact ⟨int_keyed hq, hq⟩
 ·cases h
theorem at_setIf {w : World} {r : Nat} {o o' : Obj} (h : w.heap[r]? = some o) : (w.heap.setIfInBounds r o')[r]? = some o' := by
 have := (Array.getElem?_eq_some_iff.1 h).1
 simp [this]
theorem at_other {w : World} {r b : Nat} {o' : Obj} (h : b ≠ r) : (w.heap.setIfInBounds r o')[b]? = w.heap[b]? := by
 rw [Array.getElem?_setIfInBounds, if_neg (fun e => h e.symm)]
noncomputable def getM (P : Program) (H : Tr O) (b : Nat) : Option (List (Int × A) × TypeId × IntKind) := match H.get b with
 | some (.M es k q) => some (es, k, q)
 | some (.E none _ k q) => some ([], k, q)
 | some (.E (some (z, a, bn)) c k q) => match kndOf P k with
  | some q2 => match decide (q2 = q) && (Lit.int q z).wf && Nat.blt bn c with
   | true => some ([(z, a)], k, q)
   | false => none
  | none => none
 | _ => none
theorem getM_ok {P : Program} {s : Sg} {w : World} {H : Tr O} {n : Nm} {b : Nat} {es : List (Int × A)} {k : TypeId} {q : IntKind} (hI : Inv P s w H n) (h : getM P H b = some (es, k, q)) : w.ownsMap P k hV (s.a b) es.length (mapD s q es) ∧ (∃ o, H.get b = some o) := by
 unfold getM at h
 split at h
 ·rename_i hb
  cases h
  exact ⟨hI.ok _ _ hb, _, hb⟩
 ·rename_i c k' q' hb
  cases h
  exact ⟨⟨#[], c, hI.ok _ _ hb, ⟨by simp, MapKept.stamped_empty c, by simp⟩, Nat.le_refl _, rfl⟩, _, hb⟩
 ·rename_i z a bn c k' q' hb
  split at h
  ·rename_i q2 hk
   split at h
   ·rename_i hc
    cases h
    simp only [Bool.and_eq_true, decide_eq_true_eq, Nat.blt_eq] at hc
    obtain ⟨⟨h1, h2⟩, h3⟩ := hc
    subst h1
    obtain ⟨K, hku⟩ := kndOf_ok hk
    have hrd : Go.WideElems.rd P k hV ⟨.int q2 z, a.den s, bn⟩ = some (Lit.int q2 z, .held (a.den s)) := Go.WideElems.rd_mk (keyOf_int_mk hku h2) (show hV (a.den s) = some (.held (a.den s), []) from rfl)
    refine ⟨⟨#[⟨.int q2 z, a.den s, bn⟩], c, hI.ok _ _ hb, ⟨by simp [maxLen], ?_, fun x hx => ?_⟩, Nat.le_refl _, ?_⟩, _, hb⟩
    ·exact ⟨by simpa using h3, by simp, by simp⟩
    ·rw [List.mem_singleton.1 hx]; exact ⟨_, hrd⟩
    ·show _ = DataW.map _
     simp [Go.WideElems.rg_of hrd, DataW.insert, mapD]
   ·cases h
  ·cases h
 ·cases h
noncomputable def opMkM (P : Program) (H : Tr O) (n : Nm) (t : TypeId) : Option Q3 := match P.underlying t with
 | some (.map k _) => match kndOf P k, Nat.blt (n.c + 1) (2 ^ mx) with
  | some q, true => some (.M n.c, H.set mx n.c (some (.E none 0 k q)), n.nx)
  | _, _ => none
 | _ => none
theorem opMkM_ok {P : Program} {s : Sg} {w : World} {H : Tr O} {n : Nm} {t : TypeId} {r : Q3} (hI : Inv P s w H n) (h : opMkM P H n t = some r) : Snd P (Instr.makeMap t none) s w H n r := by
 unfold opMkM at h
 split at h
 ·rename_i k e hu
  split at h
  ·rename_i q hq hn
   cases h
   rw [Nat.blt_eq] at hn
   refine ⟨s.add n w.heap.size 0, w.alloc (.map #[] 0), ?_, Adv.new hI hn rfl ?_ (Nat.le_refl _) rfl rfl rfl (by simp) fun b hb => Below.heap_alloc _ _ _ hb⟩
   ·simp only [A.den, (s.add_new n w.heap.size 0).1]
    exact run_makeMap _ _
   ·show (w.alloc (.map #[] 0)).heap[(s.add n w.heap.size 0).a n.c]? = _
    rw [(s.add_new n _ 0).1]
    exact (MapKept.heap_alloc w _).1
  ·cases h
 ·cases h
noncomputable def opLook (P : Program) (H : Tr O) (t : TypeId) (x i : A) (ok : Bool) : Option A := match P.underlying t, x, i with
 | some (.map k e), .M b, .V (.int q z) => match getM P H b, zer P e with
  | some (es, k', q'), some zv => match Nat.beq k k' && decide (q = q') && (Lit.int q z).wf, kndOf P k with
   | true, some q2 => match decide (q2 = q) with
    | true => match findM z es, ok with
     | some a, true => some (.T [a, .V (.bool true)])
     | some a, false => some a
     | none, true => some (.T [toA zv, .V (.bool false)])
     | none, false => some (toA zv)
    | false => none
   | _, _ => none
  | _, _ => none
 | _, _, _ => none
theorem opLook_ok {P : Program} {s : Sg} {w : World} {H : Tr O} {n : Nm} {t : TypeId} {x i b : A} {ok : Bool} (hI : Inv P s w H n) (h : opLook P H t x i ok = some b) : (Instr.lookup t (x.den s) (i.den s) ok).run P w = .ok (b.den s) w := by
 unfold opLook at h
 split at h
 ·rename_i k e bl q z hu
  split at h
  ·rename_i es k' q' zv hb hz
   split at h
   ·rename_i q2 hc hk
    split at h
    ·rename_i hq2
     simp only [Bool.and_eq_true, decide_eq_true_eq] at hc hq2
     obtain ⟨⟨h1, h2⟩, h3⟩ := hc
     replace h1 := Nat.eq_of_beq_eq_true h1
     subst h1 h2 hq2
     obtain ⟨K, hku⟩ := kndOf_ok hk
     have hm : w.ownsMap P k hV (s.a bl) es.length (mapD s q2 es) := (getM_ok hI hb).1
     obtain ⟨f1, f2⟩ := findM_ok s q2 z zv es
     have inv : ∀ (v : Value) (d : DataW Value) (ps : List MemPlace) (y : Value), hV v = some (d, ps) → d = .held y → v = y := fun v d ps y h e => by subst e; cases h; rfl
     simp only [A.den]
     cases ok with
     | true =>
      obtain ⟨v, ps, hr, hv⟩ := World.ownsMap.look_ok hm K hu (run_zer hz w) (zd := .held zv) rfl (keyOf_int_mk hku h3)
      rw [f1] at hv
      rw [hr, f2, inv _ _ _ _ hv rfl]
      cases hf : findM z es with
      | none => rw [hf] at h; cases h; simp [A.den, toA_den]
      | some a => rw [hf] at h; cases h; simp [A.den]
     | false =>
      obtain ⟨v, ps, hr, hv⟩ := World.ownsMap.lookup hm K hu (run_zer hz w) (zd := .held zv) rfl (keyOf_int_mk hku h3)
      rw [f1] at hv
      rw [hr, inv _ _ _ _ hv rfl]
      cases hf : findM z es with
      | none => rw [hf] at h; cases h; simp [toA_den]
      | some a => rw [hf] at h; cases h; simp
    ·cases h
   ·cases h
  ·cases h
 ·cases h
noncomputable def opUpdE (P : Program) (H : Tr O) (n : Nm) (t : TypeId) (x i v : A) : Option (Tr O) := match P.underlying t, x, i with
 | some (.map k _), .M b, .V (.int q z) => match H.get b with
  | some (.E none c k' q') => match Nat.beq k k' && decide (q = q') && (Lit.int q z).wf && Nat.blt n.c (2 ^ mx) && A.lt n dp v, kndOf P k with
   | true, some q2 => match decide (q2 = q) with
    | true => some (H.set mx b (some (.E (some (z, v, c)) (c + 1) k q)))
    | false => none
   | _, _ => none
  | _ => none
 | _, _, _ => none
theorem opUpdE_ok {P : Program} {s : Sg} {w : World} {H H' : Tr O} {n : Nm} {t : TypeId} {x i v : A} (hI : Inv P s w H n) (h : opUpdE P H n t x i v = some H') : ∃ w', (Instr.mapUpdate t (x.den s) (i.den s) (v.den s)).run P w = .ok () w' ∧ Adv P s w H n s w' H' n := by
 unfold opUpdE at h
 split at h
 ·rename_i k e bl q z hu
  split at h
  ·rename_i c k' q' hb
   split at h
   ·rename_i q2 hc hk
    split at h
    ·rename_i hq2
     cases h
     simp only [Bool.and_eq_true, decide_eq_true_eq, Nat.blt_eq] at hc hq2
     obtain ⟨⟨⟨⟨h1, h2⟩, h3⟩, h4⟩, h5⟩ := hc
     replace h1 := Nat.eq_of_beq_eq_true h1
     subst h1 h2 hq2
     obtain ⟨K, hku⟩ := kndOf_ok hk
     have hbk : w.heap[s.a bl]? = some (.map #[] c) := hI.ok _ _ hb
     refine ⟨{ w with heap := w.heap.setIfInBounds (s.a bl) (.map #[⟨.int q2 z, v.den s, c⟩] (c + 1)) }, ?_, Adv.put hI h4 hb h5 (at_setIf hbk) rfl rfl rfl (by simp) fun b hlt hne => at_other hne⟩
     simp only [A.den]
     simp [Instr.mapUpdate, run_underlying hu, Result.andThen, MapKept.run_getObj_map hbk, MapKept.run_checkKey hku (show MapKept.IsKey (.int q2) (.int q2 z) from rfl), Instr.findKey, run_underlying hku, Instr.findNow, MapKept.run_setObj_map _ hbk]
    ·cases h
   ·cases h
  ·cases h
 ·cases h
noncomputable def opUpd (P : Program) (H : Tr O) (n : Nm) (t : TypeId) (x i v : A) : Option (Tr O) := match P.underlying t, x, i with
 | some (.map k _), .M b, .V (.int q z) => match getM P H b with
  | some (es, k', q') => match Nat.beq k k' && decide (q = q') && (Lit.int q z).wf && Nat.blt n.c (2 ^ mx) && Nat.blt es.length 1000000 && (insM z v (cutM z es)).all (fun e => A.lt n dp e.2), kndOf P k with
   | true, some q2 => match decide (q2 = q) with
    | true => some (H.set mx b (some (.M (insM z v (cutM z es)) k q)))
    | false => none
   | _, _ => none
  | _ => none
 | _, _, _ => none
theorem opUpd_ok {P : Program} {s : Sg} {w : World} {H H' : Tr O} {n : Nm} {t : TypeId} {x i v : A} (hI : Inv P s w H n) (h : opUpd P H n t x i v = some H') : ∃ w', (Instr.mapUpdate t (x.den s) (i.den s) (v.den s)).run P w = .ok () w' ∧ Adv P s w H n s w' H' n := by
 unfold opUpd at h
 split at h
 ·rename_i k e bl q z hu
  split at h
  ·rename_i es k' q' hb
   split at h
   ·rename_i q2 hc hk
    split at h
    ·rename_i hq2
     cases h
     simp only [Bool.and_eq_true, decide_eq_true_eq, Nat.blt_eq] at hc hq2
     obtain ⟨⟨⟨⟨⟨h1, h2⟩, h3⟩, h4⟩, h5⟩, h6⟩ := hc
     replace h1 := Nat.eq_of_beq_eq_true h1
     subst h1 h2 hq2
     obtain ⟨K, hku⟩ := kndOf_ok hk
     obtain ⟨hm, oo, hb⟩ := getM_ok hI hb
     obtain ⟨w', r1, r2, r3⟩ := World.ownsMap.update hm K hu (by unfold maxLen; omega) (keyOf_int_mk hku h3) (show hV (v.den s) = some (.held (v.den s), []) from rfl)
     rw [putM_ok] at r2
     refine ⟨w', by simp only [A.den]; exact r1, Adv.put hI h4 hb h6 (tightM r2) r3.os r3.tape r3.output r3.size fun b hb hne => r3.block b hb (fun e => hne (Option.some.inj e))⟩
    ·cases h
   ·cases h
  ·cases h
 ·cases h
noncomputable def opDelE (P : Program) (H : Tr O) (n : Nm) (t : TypeId) (x i : A) : Option (Tr O) := match P.underlying t, x, i with
 | some (.map k _), .M b, .V (.int q z) => match H.get b with
  | some (.E (some (z', _, _)) c k' q') => match Nat.beq k k' && decide (q = q') && decide (z = z') && Nat.blt n.c (2 ^ mx), kndOf P k with
   | true, some q2 => match decide (q2 = q) with
    | true => some (H.set mx b (some (.E none c k q)))
    | false => none
   | _, _ => none
  | _ => none
 | _, _, _ => none
theorem opDelE_ok {P : Program} {s : Sg} {w : World} {H H' : Tr O} {n : Nm} {t k ty : TypeId} {x i : A} (hI : Inv P s w H n) (hu' : ∃ e, P.underlying t = some (.map k e)) (h : opDelE P H n t x i = some H') : ∃ w', (Builtin.delete_ #[t, k] ty #[x.den s, i.den s]).run P w = .ok (.tuple #[]) w' ∧ Adv P s w H n s w' H' n := by
 unfold opDelE at h
 split at h
 ·rename_i k0 e bl q z hu
  split at h
  ·rename_i z' a' b' c k' q' hb
   split at h
   ·rename_i q2 hc hk
    split at h
    ·rename_i hq2
     cases h
     simp only [Bool.and_eq_true, decide_eq_true_eq, Nat.blt_eq] at hc hq2
     obtain ⟨⟨⟨h1, h2⟩, h3⟩, h4⟩ := hc
     replace h1 := Nat.eq_of_beq_eq_true h1
     subst h1 h2 h3 hq2
     obtain ⟨e', hu'⟩ := hu'
     rw [hu] at hu'
     cases hu'
     obtain ⟨K, hku⟩ := kndOf_ok hk
     have hbk : w.heap[s.a bl]? = some (.map #[⟨.int q2 z, a'.den s, b'⟩] c) := hI.ok _ _ hb
     refine ⟨{ w with heap := w.heap.setIfInBounds (s.a bl) (.map #[] c) }, ?_, Adv.put hI h4 hb rfl (at_setIf hbk) rfl rfl rfl (by simp) fun b hlt hne => at_other hne⟩
     simp only [A.den]
     simp [Builtin.delete_, run_underlying hu, Result.andThen, MapKept.run_getObj_map hbk, MapKept.run_checkKey hku (show MapKept.IsKey (.int q2) (.int q2 z) from rfl), Instr.findKey, run_underlying hku, Instr.findNow, Instr.sameNow, MapKept.run_setObj_map _ hbk]
    ·cases h
   ·cases h
  ·cases h
 ·cases h
noncomputable def opDel (P : Program) (H : Tr O) (n : Nm) (t : TypeId) (x i : A) : Option (Tr O) := match P.underlying t, x, i with
 | some (.map k _), .M b, .V (.int q z) => match getM P H b with
  | some (es, k', q') => match Nat.beq k k' && decide (q = q') && (Lit.int q z).wf && Nat.blt n.c (2 ^ mx) && (cutM z es).all (fun e => A.lt n dp e.2), kndOf P k with
   | true, some q2 => match decide (q2 = q) with
    | true => some (H.set mx b (some (.M (cutM z es) k q)))
    | false => none
   | _, _ => none
  | _ => none
 | _, _, _ => none
theorem opDel_ok {P : Program} {s : Sg} {w : World} {H H' : Tr O} {n : Nm} {t k ty : TypeId} {x i : A} (hI : Inv P s w H n) (hu' : ∃ e, P.underlying t = some (.map k e)) (h : opDel P H n t x i = some H') : ∃ w', (Builtin.delete_ #[t, k] ty #[x.den s, i.den s]).run P w = .ok (.tuple #[]) w' ∧ Adv P s w H n s w' H' n := by
 unfold opDel at h
 split at h
 ·rename_i k0 e bl q z hu
  split at h
  ·rename_i es k' q' hb
   split at h
   ·rename_i q2 hc hk
    split at h
    ·rename_i hq2
     cases h
     simp only [Bool.and_eq_true, decide_eq_true_eq, Nat.blt_eq] at hc hq2
     obtain ⟨⟨⟨⟨h1, h2⟩, h3⟩, h4⟩, h6⟩ := hc
     replace h1 := Nat.eq_of_beq_eq_true h1
     subst h1 h2 hq2
     obtain ⟨e', hu'⟩ := hu'
     rw [hu] at hu'
     cases hu'
     obtain ⟨K, hku⟩ := kndOf_ok hk
     obtain ⟨hm, oo, hb⟩ := getM_ok hI hb
     obtain ⟨w', r1, r2, r3⟩ := World.ownsMap.drop hm K hu (keyOf_int_mk hku h3) ty
     rw [cutM_ok] at r2
     have r4 := r3.grown
     refine ⟨w', by simp only [A.den]; exact r1, Adv.put hI h4 hb h6 (tightM r2) r4.os r4.tape r4.output r4.size fun b hb hne => r4.block b hb (fun e => hne (Option.some.inj e))⟩
    ·cases h
   ·cases h
  ·cases h
 ·cases h
noncomputable def opLen (P : Program) (H : Tr O) (t : TypeId) (x : A) : Option A := match P.underlying t, x with
 | some (.slice _), .C _ _ l _ => some (.V (.int .i64 l))
 | some (.slice _), .D _ _ _ l => some (.V (.int .i64 l))
 | some (.slice _), .Z .. => some (.V (.int .i64 (0 : Nat)))
 | some (.map k _), .M b => match getM P H b with
  | some (es, k', _) => match Nat.beq k k' with
   | true => some (.V (.int .i64 es.length))
   | false => none
  | _ => none
 | _, _ => none
theorem opLen_ok {P : Program} {s : Sg} {w : World} {H : Tr O} {n : Nm} {t ty : TypeId} {x b : A} (hI : Inv P s w H n) (h : opLen P H t x = some b) : (Builtin.len_ #[t] ty #[x.den s]).run P w = .ok (b.den s) w := by
 unfold opLen at h
 split at h
 ·rename_i e k o l c hu
  cases h
  simp [Builtin.len_, run_underlying hu, A.den, Result.andThen, goInt]
 ·rename_i e k o e' l hu
  cases h
  simp [Builtin.len_, run_underlying hu, A.den, Result.andThen, goInt]
 ·rename_i hu
  cases h
  simp [Builtin.len_, run_underlying hu, A.den, Result.andThen, goInt]
 ·rename_i k e bl hu
  split at h
  ·rename_i es k' q hb
   split at h
   ·rename_i hk
    cases h
    obtain rfl := Nat.eq_of_beq_eq_true hk
    have hm : w.ownsMap P k hV (s.a bl) es.length (mapD s q es) := (getM_ok hI hb).1
    have := World.ownsMap.len hm hu ty
    simp only [A.den]
    simpa [mapD, Maps.size] using this
   ·cases h
  ·cases h
 ·cases h
end Mc
end Go.Proofs.YtdoolhbmekahdaaGreatDoor
namespace Go.Proofs.YtdoolhbmekahdaaGreatDoor
namespace Mc
open Go.RowKit
set_option linter.unusedVariables false
set_option linter.unusedSimpArgs false
noncomputable def isU8 (P : Program) (e : TypeId) : Bool := match P.underlying e with
 | some (.int .u8) => true
 | _ => false
theorem isU8_ok {P : Program} {e : TypeId} (h : isU8 P e = true) : P.underlying e = some (.int .u8) := by
 unfold isU8 at h
 split at h
 ·assumption
 ·cases h
noncomputable def opS2B (P : Program) (H : Tr O) (n : Nm) (src dst : TypeId) (x : A) : Option Q3 := match x, P.underlying src, P.underlying dst with
 | .V (.string b), some .string, some (.slice e) => match isU8 P e && Nat.blt (n.c + 1) (2 ^ mx) with
  | true => some (.D n.c 0 0 b.size, H.set mx n.c (some (.B (b.data.toList.map fun u => .V (.int .u8 (u.toNat : Int))) e)), n.nx)
  | false => none
 | _, _, _ => none
theorem opS2B_ok {P : Program} {s : Sg} {w : World} {H : Tr O} {n : Nm} {src dst : TypeId} {x : A} {r : Q3} (hI : Inv P s w H n) (h : opS2B P H n src dst x = some r) : Snd P (convert src dst (x.den s)) s w H n r := by
 unfold opS2B at h
 split at h
 ·rename_i b e hs hd
  split at h
  ·rename_i hc
   cases h
   rw [Bool.and_eq_true, Nat.blt_eq] at hc
   have hr := run_bytes_of_string w src dst e b hs hd (isU8_ok hc.1)
   generalize grownCap w b.size 0 e = cap at hr
   refine ⟨s.add n w.heap.size cap, w.drew.alloc (.cells (bytesRow b cap) e ((bytesRow b cap).size, (bytesRow b cap).size + 1)), ?_, Adv.new hI hc.2 ?_ ?_ (Nat.le_refl _) rfl rfl rfl (by simp) fun g hg => ?_⟩
   ·simp only [A.den]
    rw [hr]
    simp only [(s.add_new n w.heap.size _).1, (s.add_new n w.heap.size _).2, Nat.sub_zero]
   ·show List.all _ _ = true
    rw [List.all_map, List.all_eq_true]
    intro u _
    rfl
   ·refine ⟨bytesRow b cap, ((bytesRow b cap).size, (bytesRow b cap).size + 1), by rw [(s.add_new n _ _).1]; exact objAt_alloc_at _ _ _ rfl, ?_, ?_⟩
    ·simp [bytesRow]
    ·simp only [List.length_map, Array.length_toList, bytesRow, Array.toList_append, Array.toList_map]
     rw [List.take_append_of_le_length (by simp), List.take_of_length_le (by simp), List.map_map]
     exact List.map_congr_left fun u _ => by simp [Function.comp, A.den]
   ·show (w.drew.alloc _).heap[g]? = _
    exact Below.heap_alloc _ _ _ hg
  ·cases h
 ·cases h
noncomputable def u8s : List A → Option (List UInt8)
 | [] => some []
 | .V (.int .u8 (.ofNat m)) :: l => match Nat.blt m 256, u8s l with
  | true, some r => some (UInt8.ofNat m :: r)
  | _, _ => none
 | _ => none
theorem u8s_ok (s : Sg) : ∀ (l : List A) (r : List UInt8), u8s l = some r → l.map (A.den s) = r.map fun u => Value.int .u8 (u.toNat : Int)
 | [], r, h => by cases h; rfl
 | a :: l, r, h => by
  unfold u8s at h
  split at h
  ·rename_i e; cases e
  ·rename_i m l' e
   cases e
   split at h
   ·rename_i r' hm hr
    cases h
    rw [Nat.blt_eq] at hm
    rw [List.map_cons, List.map_cons, u8s_ok s l r' hr]
    congr 1
    simp only [A.den]
    rw [show (UInt8.ofNat m).toNat = m from by simp [UInt8.toNat_ofNat']; omega]
    rfl
   ·cases h
  ·cases h
noncomputable def opB2S (P : Program) (H : Tr O) (src dst : TypeId) (x : A) : Option A := match P.underlying src, P.underlying dst with
 | some (.slice e), some .string => match isU8 P e with
  | true => match x with
   | .V (.slice none 0 _) => some (.V (.string ⟨#[]⟩))
   | x => match cellsOf H 1 x with
    | some (_, _, _, xs) => match u8s xs with
     | some r => some (.V (.string ⟨r.toArray⟩))
     | none => none
    | none => none
  | false => none
 | _, _ => none
theorem opB2S_ok {P : Program} {s : Sg} {w : World} {H : Tr O} {n : Nm} {src dst : TypeId} {x b : A} (hI : Inv P s w H n) (h : opB2S P H src dst x = some b) : (convert src dst (x.den s)).run P w = .ok (b.den s) w := by
 unfold opB2S at h
 split at h
 ·rename_i e hs hd
  split at h
  ·rename_i hu
   split at h
   ·cases h
    simp only [A.den]
    rw [run_convert_bytes_string w src dst e _ _ _ hs (isU8_ok hu) hd]
    simp [Conv.bytesToString, Sem.run_pure]
    rfl
   ·split at h
    ·rename_i k o l xs hc
     split at h
     ·rename_i r hr
      cases h
      obtain ⟨⟨c, h1⟩, h2, h3⟩ := cellsOf_ok hI hc
      have h4 := u8s_ok s xs r hr
      have h5 : r.length = l := by
       have := congrArg List.length h4
       simp only [List.length_map] at this
       omega
      rw [h1, ← h5]
      simp only [A.den]
      refine run_convert_bytes_back w src dst e _ c r hs (isU8_ok hu) hd fun j hj => h3 j _ ?_
      rw [h4, List.getElem?_map, List.getElem?_eq_getElem hj]
      rfl
     ·cases h
    ·cases h
  ·cases h
 ·cases h
noncomputable def opMkS (P : Program) (H : Tr O) (n : Nm) (t : TypeId) (x y : A) : Option Q3 := match P.underlying t, x, y with
 | some (.slice e), .V (.int kl (.ofNat l)), .V (.int kc (.ofNat c)) => match P.info? e, siz P e, zer P e with
  | some i, some (z + 1), some zv => match Nat.beq zv.cells.size (z + 1) && Nat.ble l c && Nat.ble (c * (z + 1)) (2 ^ 20) && Nat.ble (i.bytes * c) (2 ^ 40) && Nat.ble c (2 ^ 40) with
   | true => match newR H n (zeros (zv.cells.toList.map A.V) c) e with
    | some (_, H', n') => some (.C n.c 0 l c, H', n')
    | none => none
   | false => none
  | _, _, _ => none
 | _, _, _ => none
theorem opMkS_ok {P : Program} {s : Sg} {w : World} {H : Tr O} {n : Nm} {t : TypeId} {x y : A} {r : Q3} (hI : Inv P s w H n) (h : opMkS P H n t x y = some r) : Snd P (Instr.makeSlice t (x.den s) (y.den s)) s w H n r := by
 unfold opMkS at h
 split at h
 ·rename_i e kl l kc c hu
  split at h
  ·rename_i i z zv hi hz hzv
   split at h
   ·rename_i hc
    split at h
    ·rename_i a' H' n' hn
     cases h
     simp only [Bool.and_eq_true, Nat.ble_eq] at hc
     obtain ⟨⟨⟨⟨c1, c2⟩, c3⟩, c4⟩, c5⟩ := hc
     replace c1 := Nat.eq_of_beq_eq_true c1
     obtain ⟨h1, h2, h3, h4⟩ := newR_ok hI hn 0
     have hs : i.size = z + 1 := by unfold siz at hz; rw [hi] at hz; exact Option.some.inj hz
     have hzz : i.zero = some zv := by unfold zer at hzv; rw [hi] at hzv; exact hzv
     have hr := run_makeSlice (P := P) (w := w) t e i zv hu hi hzz kl kc (l : Int) (c : Int) (by omega) (by omega) (by rw [hs]; simp only [Int.toNat_natCast]; omega) (by
      have : ((i.bytes * c : Nat) : Int) ≤ 2 ^ 40 := by exact_mod_cast c4
      rw [Int.natCast_mul] at this
      omega) (by omega)
     refine ⟨_, _, ?_, h1⟩
     simp only [A.den]
     have e1 : (Int.ofNat l) = (l : Int) := rfl
     have e2 : (Int.ofNat c) = (c : Int) := rfl
     rw [e1, e2, hr]
     simp only [(s.add_new n w.heap.size _).1, Int.toNat_natCast, hs]
     have := zeros_den s zv.cells (z + 1) c1 (by omega) c
     unfold madeCells
     rw [this]
    ·cases h
   ·cases h
  ·cases h
 ·cases h
noncomputable def opUSD (H : Tr O) (x : A) : Option A := match x with
 | .D k 0 0 (l + 1) => match H.get k with
  | some (.U cs e z l') => match Nat.beq l' (l + 1) with
   | true => some (.P k 0)
   | false => none
  | _ => none
 | _ => none
theorem opUSD_ok {P : Program} {s : Sg} {w : World} {H : Tr O} {n : Nm} {ts : Array TypeId} {ty : TypeId} {x b : A} (hI : Inv P s w H n) (h : opUSD H x = some b) : (Builtin.unsafeSliceData_ ts ty #[x.den s]).run P w = .ok (b.den s) w := by
 unfold opUSD at h
 split at h
 ·rename_i k l
  split at h
  ·rename_i cs e z l' hk
   split at h
   ·rename_i hl
    cases h
    replace hl := Nat.eq_of_beq_eq_true hl
    subst hl
    obtain ⟨h1, h2⟩ := hI.ok _ _ hk
    rcases h2 with ⟨h2, -⟩ | ⟨g, cap, cur, e1, -, -, h5, -⟩
    ·cases h2
    ·injection e1 with _ _ e2
     simp only [A.den, Nat.sub_zero]
     exact Lib.run_unsafeSliceData_row _ _ _ _ _ _ (by omega)
   ·cases h
  ·cases h
 ·cases h
noncomputable def opUS (P : Program) (H : Tr O) (n : Nm) (pt : TypeId) (x y : A) : Option Q3 := match x, y, P.underlying pt with
 | .P k 0, .V (.int .i64 (.ofNat (l + 1))), some (.pointer e) => match H.get k with
  | some (.U cs e' 1 l') => match Nat.beq e e' && Nat.beq (P.cellsOf e) 1 && Nat.ble (l + 1) cs.length && Nat.blt l 1000000 && Nat.blt n.c (2 ^ mx), u8s (cs.take (l + 1)) with
   | true, some r => some (.V (.string ⟨r.toArray⟩), H.set mx k (some (.B cs e')), n)
   | _, _ => none
  | _ => none
 | _, _, _ => none
theorem opUS_ok {P : Program} {s : Sg} {w : World} {H : Tr O} {n : Nm} {pt it ty : TypeId} {x y : A} {r : Q3} (hI : Inv P s w H n) (h : opUS P H n pt x y = some r) : Snd P (Builtin.unsafeString_ #[pt, it] ty #[x.den s, y.den s]) s w H n r := by
 unfold opUS at h
 split at h
 ·rename_i k l e hp
  split at h
  ·rename_i cs e' l' hk
   split at h
   ·rename_i bs hc hr
    cases h
    simp only [Bool.and_eq_true, Nat.ble_eq, Nat.blt_eq] at hc
    obtain ⟨⟨⟨⟨c1, c2⟩, c3⟩, c4⟩, c5⟩ := hc
    obtain rfl := Nat.eq_of_beq_eq_true c1
    replace c2 := Nat.eq_of_beq_eq_true c2
    have hlt := (hI.lt _ _ hk).2
    obtain ⟨h1, h2⟩ := hI.ok _ _ hk
    rcases h2 with ⟨h2, -⟩ | ⟨g, cap, cur, e1, -, h4, h5, h6, h7, h8⟩
    ·cases h2
    ·injection e1 with e1 _ e2
     injection e1 with e1
     have e3 : s.a k = g := by injection e1
     subst e3
     have h9 := u8s_ok s _ _ hr
     have hlen : bs.length = l + 1 := by
      have := congrArg List.length h9
      simp only [List.length_map, List.length_take] at this
      omega
     have hcs : cs.length = l' := by simpa using h1
     have hrun := Lib.run_unsafeString_row w pt it ty e hp c2 (s.a k) cur.size (by simp [World.shape?, h4]) bs (by intro h0; rw [h0] at hlen; cases hlen) (by omega) (by omega) fun j u hj => by
      rw [addr_add]
      have hj2 : (cs.map (A.den s))[j]? = some (.int .u8 (u.toNat : Int)) := by
       have : ((cs.take (l + 1)).map (A.den s))[j]? = some (.int .u8 (u.toNat : Int)) := by rw [h9, List.getElem?_map, hj]; rfl
       rw [List.map_take, List.getElem?_take] at this
       split at this
       ·exact this
       ·cases this
      rw [← h8, List.getElem?_take] at hj2
      split at hj2
      ·simp [World.cell?, h4]
       simpa using hj2
      ·cases hj2
     refine ⟨s, w.freeze ⟨s.a k, 0, none⟩ bs.length, ?_, Adv.put hI c5 hk ?_ ?_ ?_ ?_ ?_ ?_ ?_⟩
     ·simp only [A.den]
      rw [show (Int.ofNat (l + 1)) = ((bs.length : Nat) : Int) from by rw [hlen]; rfl]
      exact hrun
     ·exact hlt
     ·obtain ⟨z, hz⟩ : ∃ z, objAt (w.freeze ⟨s.a k, 0, none⟩ bs.length) (s.a k) = some (.cells cur e z) := by
       unfold objAt World.freeze
       rw [if_neg (by omega)]
       simp only [Array.getElem?_modify, h4]
       exact ⟨_, rfl⟩
      refine ⟨cur, z, hz, by omega, ?_⟩
      rw [hcs, ← h8]
      simp
     ·unfold World.freeze; split <;> rfl
     ·unfold World.freeze; split <;> rfl
     ·unfold World.freeze; split <;> rfl
     ·unfold World.freeze; split <;> simp
     ·intro b hb hne
      unfold World.freeze
      split
      ·rfl
      ·simp only [Array.getElem?_modify]
       rw [if_neg (fun e => hne e.symm)]
   ·cases h
  ·cases h
 ·cases h
theorem run_appS {P : Program} (w : World) (t u ty e : TypeId) (i : TypeInfo) (ht : P.underlying t = some (.slice e)) (hu : P.underlying u = some .string) (hi : P.info? e = some i) (hz : i.zero = some (.int .u8 0)) (hs : i.size = 1) (hb : i.bytes = 1)
  (v : Value) (n : Nat) (xs : List Value) (hown : w.ownsRow 0 e 1 v n xs) (s : ByteArray) (h0 : 0 < s.size) (hl : n + s.size ≤ 1000000) :
  ∃ g cap w', (Builtin.append_ #[t, u] ty #[v, .string s]).run P w = .ok (.slice (some ⟨g, 0, none⟩) (n + s.size) cap) w' ∧ w'.ownsRow 0 e 1 (.slice (some ⟨g, 0, none⟩) (n + s.size) cap) (n + s.size) (xs ++ Lib.strCells s) ∧ w.grownBy w' v.ownBlock ∧ (v.ownBlock = some g ∨ w.heap.size ≤ g) := by
 obtain ⟨v', w', h1, h2, h3, -⟩ := Lib.run_append_own_string (P := P) w 0 t u ty e i ht hu hi hz hs hb v n xs hown s (by unfold maxLen; omega) (by omega) (Nat.zero_le _)
 have loc : ∃ g cap, v' = .slice (some ⟨g, 0, none⟩) (n + s.size) cap ∧ (v.ownBlock = some g ∨ w.heap.size ≤ g) := by
  rcases hown.2 with ⟨rfl, rfl⟩ | ⟨g, cap, cur, rfl, -, hg, hnc, hcm, hcs, htake⟩
  ·have hr := run_append_nil_string (P := P) w t u ty e i (.int .u8 0) ht hu hi hz s (by omega) (by omega) (by rw [hb]; omega)
   rw [h1] at hr
   cases hr
   exact ⟨_, _, by rw [Nat.zero_add], .inr (Nat.le_refl _)⟩
  ·by_cases hroom : n + s.size ≤ cap
   ·have hr := Lib.run_append_room_string (P := P) w t u ty e i ht hu hi hs g n cap cur hg s hroom (by omega)
    rw [h1] at hr
    cases hr
    exact ⟨_, _, rfl, .inl rfl⟩
   ·have hxl : xs.length = n := by simpa using hown.1
    have hr := Lib.run_append_grow_string (P := P) w t u ty e i (.int .u8 0) ht hu hi hz ⟨g, 0, none⟩ n cap xs (by rw [hs]; simpa using hxl) (hown.cells (g := g) rfl) s (by omega) (by omega) (by rw [hb]; exact growslice_fits (by omega) (by omega))
    rw [h1] at hr
    cases hr
    exact ⟨_, _, rfl, .inr (Nat.le_refl _)⟩
 obtain ⟨g, cap, rfl, h5⟩ := loc
 exact ⟨g, cap, w', h1, h2, h3, h5⟩
noncomputable def isZ8 (P : Program) (e : TypeId) : Bool := match P.info? e with
 | some i => match i.zero with
  | some (.int .u8 0) => Nat.beq i.size 1 && Nat.beq i.bytes 1
  | _ => false
 | none => false
noncomputable def opAppS (P : Program) (H : Tr O) (n : Nm) (t u : TypeId) (x y : A) : Option Q3 := match P.underlying t, P.underlying u, y with
 | some (.slice e), some .string, .V (.string b) => match isZ8 P e, ownOf H e 1 x with
  | true, some (H1, l, xs) => match Nat.blt 0 b.size && Nat.blt (l + b.size) 1000000 && Nat.blt (n.c + 1) (2 ^ mx) && xs.all (A.lt n dp) with
   | true => some (.D n.c 0 0 (l + b.size), H1.set mx n.c (some (.U (xs ++ b.data.toList.map fun u => .V (.int .u8 (u.toNat : Int))) e 1 (l + b.size))), n.nx)
   | false => none
  | _, _ => none
 | _, _, _ => none
theorem opAppS_ok {P : Program} {s : Sg} {w : World} {H : Tr O} {n : Nm} {t u ty : TypeId} {x y : A} {r : Q3} (hI : Inv P s w H n) (h : opAppS P H n t u x y = some r) : Snd P (Builtin.append_ #[t, u] ty #[x.den s, y.den s]) s w H n r := by
 unfold opAppS at h
 split at h
 ·rename_i e bs ht hu
  split at h
  ·rename_i H1 l xs hz hown
   split at h
   ·rename_i hb
    cases h
    simp only [Bool.and_eq_true, Nat.blt_eq] at hb
    obtain ⟨⟨⟨h1, h2⟩, h3⟩, h4⟩ := hb
    obtain ⟨i, hi, hi1, hi2, hi3⟩ : ∃ i, P.info? e = some i ∧ i.zero = some (.int .u8 0) ∧ i.size = 1 ∧ i.bytes = 1 := by
     unfold isZ8 at hz
     split at hz
     ·rename_i i hi
      split at hz
      ·rename_i hz0
       rw [Bool.and_eq_true] at hz
       exact ⟨i, hi, hz0, Nat.eq_of_beq_eq_true hz.1, Nat.eq_of_beq_eq_true hz.2⟩
      ·cases hz
     ·cases hz
    obtain ⟨o1, o2, o3, o4⟩ := ownOf_ok hI (by omega) hown
    obtain ⟨g, cap, w', r1, r2, r3, r4⟩ := run_appS (P := P) w t u ty e i ht hu hi hi1 hi2 hi3 (x.den s) l _ o1 bs h1 (by omega)
    have h5 : (xs ++ bs.data.toList.map fun u => A.V (.int .u8 (u.toNat : Int))).all (A.lt n dp) = true := by
     rw [List.all_append, h4, Bool.true_and, List.all_map, List.all_eq_true]
     intro u _
     rfl
    refine ⟨s.add n g cap, w', by simpa [A.den, (s.add_new n g cap).1, (s.add_new n g cap).2] using r1, ?_⟩
    have hall : ∀ j o', H1.get j = some o' → H.get j = some o' ∧ s.a j ≠ g ∧ w'.heap[s.a j]? = w.heap[s.a j]? := fun j o' hj => by
     obtain ⟨q1, q2⟩ := o3 j o' hj
     have q3 := O.here (hI.ok j o' q1)
     refine ⟨q1, fun e => ?_, r3.block _ q3 (fun e => q2 e.symm)⟩
     rcases r4 with r4 | r4
     ·exact q2 (by rw [r4, e])
     ·omega
    refine Adv.app hI h3 h5 ?_ ?_ r3.os r3.tape r3.output r3.size (fun b hb hn => r3.block b hb fun e => ?_) hall
    ·show World.ownsRow _ _ _ _ (.slice (some ⟨(s.add n g cap).a n.c, 0, none⟩) _ ((s.add n g cap).k n.c)) _ _
     rw [(s.add_new n g cap).1, (s.add_new n g cap).2, List.map_congr_left fun a ha => A.den_ext (s.add_old n g cap) dp a (List.all_eq_true.1 h5 a ha), List.map_append]
     have : (bs.data.toList.map fun u => A.V (.int .u8 (u.toNat : Int))).map (A.den s) = Lib.strCells bs := by
      rw [List.map_map]
      exact List.map_congr_left fun u _ => by simp [Function.comp, A.den]
     rw [this]
     exact r2
    ·rcases r4 with r4 | r4
     ·exact .inr (o4 g r4)
     ·exact .inl (by omega)
    ·obtain ⟨j, o', q1, q2⟩ := o4 b e.symm
     exact hn j o' q1 q2
   ·cases h
  ·cases h
 ·cases h
end Mc
end Go.Proofs.YtdoolhbmekahdaaGreatDoor
namespace Go.Proofs.YtdoolhbmekahdaaGreatDoor
namespace Mc
open Go.RowKit
set_option linter.unusedVariables false
set_option linter.unusedSimpArgs false
noncomputable def frcN {α : Type} (n : Nat) (f : Nat → α) : α := Nat.rec (f 0) (fun m _ => f (Nat.succ m)) n
theorem frcN_eq {α : Type} (n : Nat) (f : Nat → α) : frcN n f = f n := by cases n <;> rfl
noncomputable def opRange (P : Program) (H : Tr O) (n : Nm) (t : TypeId) (x : A) : Option Q3 := match P.underlying t, x with
 | some (.map _ _), .M b => match H.get b with
  | some (.E _ c _ _) => match Nat.blt (n.c + 1) (2 ^ mx) with
   | true => some (.P n.c 0, H.set mx n.c (some (.N b c none c)), n.nx)
   | false => none
  | _ => none
 | _, _ => none
theorem opRange_ok {P : Program} {s : Sg} {w : World} {H : Tr O} {n : Nm} {t : TypeId} {x : A} {r : Q3} (hI : Inv P s w H n) (h : opRange P H n t x = some r) : Snd P (Instr.range t (x.den s)) s w H n r := by
 unfold opRange at h
 split at h
 ·rename_i k e b hu
  split at h
  ·rename_i e' c k' q hb
   split at h
   ·rename_i hc
    cases h
    rw [Nat.blt_eq] at hc
    have hbk : w.heap[s.a b]? = some (.map (entM s q e') c) := hI.ok _ _ hb
    have hbn : n.has b = true := (hI.lt b _ hb).1
    refine ⟨s.add n w.heap.size 0, w.alloc (.mapIter (some (s.a b)) c #[] c), ?_, Adv.new hI hc hbn ?_ (Nat.le_refl _) rfl rfl rfl (by simp) fun i hi => Below.heap_alloc _ _ _ hi⟩
    ·simp [A.den, Instr.range, run_underlying hu, Result.andThen, MapKept.run_getObj_map hbk, (s.add_new n w.heap.size 0).1]
    ·show (w.alloc _).heap[(s.add n w.heap.size 0).a n.c]? = some (.mapIter (some ((s.add n w.heap.size 0).a b)) c #[] c)
     rw [(s.add_new n _ 0).1, (s.add_old n _ 0 b hbn).1]
     exact (MapKept.heap_alloc w _).1
   ·cases h
  ·cases h
 ·cases h
noncomputable def opNext (H : Tr O) (n : Nm) (x : A) : Option Q3 := match x with
 | .P i 0 => match H.get i with
  | some (.N m a b c) => match H.get m with
   | some (.E none _ _ _) => some (.T [.V (.bool false)], H, n)
   | some (.E (some (z, v, bn)) ck k q) => match b with
    | none => match Nat.blt bn a && Nat.blt n.c (2 ^ mx) with
     | true => some (.T [.V (.bool true), .V (.int q z), v], H.set mx i (some (.N m a (some bn) ck)), n)
     | false => none
    | some b0 => match Nat.beq b0 bn && Nat.blt bn c with
     | true => some (.T [.V (.bool false)], H, n)
     | false => none
   | _ => none
  | _ => none
 | _ => none
theorem choose1 : (Question.mapNext 1).forced = true := rfl
theorem opNext_ok {P : Program} {s : Sg} {w : World} {H : Tr O} {n : Nm} {x : A} {r : Q3} {ty : TypeId} (hI : Inv P s w H n) (h : opNext H n x = some r) : Snd P (Instr.next (x.den s) false ty) s w H n r := by
 unfold opNext at h
 split at h
 ·rename_i i
  split at h
  ·rename_i m a b c hi
   have hit : w.heap[s.a i]? = some (.mapIter (some (s.a m)) a b.toArray c) := hI.ok _ _ hi
   have hgo : (getObj (s.a i)).run P w = .ok (.mapIter (some (s.a m)) a b.toArray c) w := by simp [getObj, Sem.run, hit]
   split at h
   ·rename_i ck k q hm
    cases h
    have hmp : w.heap[s.a m]? = some (.map #[] ck) := hI.ok _ _ hm
    refine ⟨s, w, ?_, Adv.refl hI⟩
    simp [A.den, Instr.next, hgo, Result.andThen, MapKept.run_getObj_map hmp, choose1]
   ·rename_i z v bn ck k q hm
    have hmp : w.heap[s.a m]? = some (.map #[⟨.int q z, v.den s, bn⟩] ck) := hI.ok _ _ hm
    split at h
    ·split at h
     ·rename_i hc
      cases h
      rw [Bool.and_eq_true, Nat.blt_eq, Nat.blt_eq] at hc
      refine ⟨s, { w with heap := w.heap.setIfInBounds (s.a i) (.mapIter (some (s.a m)) a #[bn] ck) }, ?_, Adv.put hI hc.2 hi (hI.lt i _ hi).2 (at_setIf hit) rfl rfl rfl (by simp) fun b hlt hne => at_other hne⟩
      have hset : (setObj (s.a i) (.mapIter (some (s.a m)) a #[bn] ck)).run P w = .ok () { w with heap := w.heap.setIfInBounds (s.a i) (.mapIter (some (s.a m)) a #[bn] ck) } := by simp [setObj, Sem.run, hit]
      simp [A.den, Instr.next, hgo, Result.andThen, MapKept.run_getObj_map hmp, hc.1, Nat.not_le.2 hc.1, choose1, hset]
     ·cases h
    ·rename_i b0
     split at h
     ·rename_i hc
      cases h
      rw [Bool.and_eq_true, Nat.blt_eq] at hc
      obtain rfl := Nat.eq_of_beq_eq_true hc.1
      refine ⟨s, w, ?_, Adv.refl hI⟩
      simp [A.den, Instr.next, hgo, Result.andThen, MapKept.run_getObj_map hmp, hc.2, Nat.not_le.2 hc.2, choose1]
     ·cases h
   ·cases h
  ·cases h
 ·cases h
noncomputable def opRanS (P : Program) (H : Tr O) (n : Nm) (t : TypeId) (x : A) : Option Q3 := match P.underlying t, x with
 | some .string, .V (.string b) => match Nat.blt (n.c + 1) (2 ^ mx) with
  | true => some (.P n.c 0, H.set mx n.c (some (.J (b.data.toList.map UInt8.toNat) 0)), n.nx)
  | false => none
 | _, _ => none
theorem opRanS_ok {P : Program} {s : Sg} {w : World} {H : Tr O} {n : Nm} {t : TypeId} {x : A} {r : Q3} (hI : Inv P s w H n) (h : opRanS P H n t x = some r) : Snd P (Instr.range t (x.den s)) s w H n r := by
 unfold opRanS at h
 split at h
 ·rename_i b hu
  split at h
  ·rename_i hc
   cases h
   rw [Nat.blt_eq] at hc
   refine ⟨s.add n w.heap.size 0, w.alloc (.stringIter b 0), ?_, Adv.new hI hc rfl ?_ (Nat.le_refl _) rfl rfl rfl (by simp) fun i hi => Below.heap_alloc _ _ _ hi⟩
   ·simp [A.den, Instr.range, run_underlying hu, Result.andThen, (s.add_new n w.heap.size 0).1]
   ·refine ⟨b, ?_, Nat.zero_le _, rfl⟩
    rw [(s.add_new n _ 0).1]
    exact (MapKept.heap_alloc w _).1
  ·cases h
 ·cases h
noncomputable def opNexS (H : Tr O) (n : Nm) (x : A) : Option Q3 := match x with
 | .P i 0 => match H.get i with
  | some (.J l k) => match l with
   | [] => some (.T [.V (.bool false)], H, n)
   | c :: r => match Nat.blt c 128 && Nat.blt n.c (2 ^ mx) with
    | true => frcN (k + 1) fun k1 => some (.T [.V (.bool true), .V (.int .i64 (.ofNat k)), .V (.int .i32 (.ofNat c))], H.set mx i (some (.J r k1)), n)
    | false => none
  | _ => none
 | _ => none
theorem opNexS_ok {P : Program} {s : Sg} {w : World} {H : Tr O} {n : Nm} {x : A} {r : Q3} {ty : TypeId} (hI : Inv P s w H n) (h : opNexS H n x = some r) : Snd P (Instr.next (x.den s) true ty) s w H n r := by
 unfold opNexS at h
 split at h
 ·rename_i i
  split at h
  ·rename_i l k hi
   obtain ⟨b, hit, hk, hl⟩ := hI.ok _ _ hi
   have hgo : (getObj (s.a i)).run P w = .ok (.stringIter b k) w := by simp [getObj, Sem.run, hit]
   have hsz : b.data.toList.length = b.size := rfl
   split at h
   ·cases h
    have hk2 : ¬ k < b.size := by
     have : (b.data.toList.drop k).length = 0 := by
      rw [← List.length_map (f := UInt8.toNat), hl]; rfl
     rw [List.length_drop, hsz] at this
     omega
    refine ⟨s, w, ?_, Adv.refl hI⟩
    simp [A.den, Instr.next, hgo, Result.andThen, hk2]
   ·rename_i c r
    split at h
    ·rename_i hc
     rw [frcN_eq] at h
     cases h
     rw [Bool.and_eq_true, Nat.blt_eq, Nat.blt_eq] at hc
     have hlt : k < b.data.toList.length := by
      rcases Nat.lt_or_ge k b.data.toList.length with h1 | h1
      ·exact h1
      ·rw [List.drop_eq_nil_of_le h1] at hl; cases hl
     have hlt2 : k < b.size := by rw [← hsz]; exact hlt
     rw [List.drop_eq_getElem_cons hlt, List.map_cons] at hl
     injection hl with h1 h2
     have hget : b.get! k = b.data.toList[k] := by
      show b.data[k]! = _
      rw [getElem!_pos b.data k (by simpa using hlt)]
      simp
     have hdec : Utf8.decode b k = (c, 1) := by
      unfold Utf8.decode
      simp only [Nat.add_zero, hget]
      rw [h1, if_pos hc.1]
     refine ⟨s, { w with heap := w.heap.setIfInBounds (s.a i) (.stringIter b (k + 1)) }, ?_, Adv.put hI hc.2 hi rfl ⟨b, at_setIf hit, hlt2, h2⟩ rfl rfl rfl (by simp) fun b hlt hne => at_other hne⟩
     have hset : (setObj (s.a i) (.stringIter b (k + 1))).run P w = .ok () { w with heap := w.heap.setIfInBounds (s.a i) (.stringIter b (k + 1)) } := by simp [setObj, Sem.run, hit]
     simp [A.den, Instr.next, hgo, Result.andThen, hlt2, hdec, hset, goInt]
    ·cases h
  ·cases h
 ·cases h
noncomputable def opEntry (H : Tr O) (x : A) : Option A := match x with
 | .P i 0 => match H.get i with
  | some (.N m _ (some b) c) => match H.get m with
   | some (.E (some (z, v, bn)) ck _ q) => match Nat.beq b bn && Nat.beq ck c with
    | true => some (.T [.V (.int q z), v])
    | false => none
   | _ => none
  | _ => none
 | _ => none
theorem opEntry_ok {P : Program} {s : Sg} {w : World} {H : Tr O} {n : Nm} {x b : A} (hI : Inv P s w H n) (h : opEntry H x = some b) : (Instr.entry (x.den s)).run P w = .ok (b.den s) w := by
 unfold opEntry at h
 split at h
 ·rename_i i
  split at h
  ·rename_i m a b c hi
   have hit : w.heap[s.a i]? = some (.mapIter (some (s.a m)) a #[b] c) := hI.ok _ _ hi
   have hgo : (getObj (s.a i)).run P w = .ok (.mapIter (some (s.a m)) a #[b] c) w := by simp [getObj, Sem.run, hit]
   split at h
   ·rename_i z v bn ck k q hm
    have hmp : w.heap[s.a m]? = some (.map #[⟨.int q z, v.den s, bn⟩] ck) := hI.ok _ _ hm
    split at h
    ·rename_i hc
     cases h
     rw [Bool.and_eq_true] at hc
     obtain rfl := Nat.eq_of_beq_eq_true hc.1
     obtain rfl := Nat.eq_of_beq_eq_true hc.2
     simp [A.den, Instr.entry, hgo, Result.andThen, MapKept.run_getObj_map hmp]
    ·cases h
   ·cases h
  ·cases h
 ·cases h
theorem run_copyS {P : Program} (w : World) (dT sT ty elem : TypeId) (g o dLen dCap m : Nat) (s : ByteArray) (cur : Array Value) (t : TypeId)
  (hu : P.underlying dT = some (.slice elem)) (hs : (P.info? elem).map (·.size) = some 1) (hg : w.heap[g]? = some (.cells cur t (0, 0))) (hm : Nat.min s.size dLen = m) (hfit : o + m ≤ cur.size) :
  (Builtin.copy_ #[dT, sT] ty #[.slice (some ⟨g, o, none⟩) dLen dCap, .string s]).run P w =
   .ok (goInt m) (w.setRow g (cur.toList.take o ++ (List.map (fun b : UInt8 => Value.int .u8 b.toNat) s.data.toList).take m ++ cur.toList.drop (o + m)).toArray) := by
 have hle : m ≤ s.size := by rw [← hm]; exact Nat.min_le_left _ _
 have hlen : ((List.map (fun b : UInt8 => Value.int .u8 b.toNat) s.data.toList).take m).length = m := by
  rw [List.length_take, List.length_map]
  exact Nat.min_eq_left hle
 have hst := run_storeCells_at (P := P) g o t ((List.map (fun b : UInt8 => Value.int .u8 b.toNat) s.data.toList).take m) 0 cur w hg (by rw [hlen]; simpa using hfit) (by
  intro v hv
  obtain ⟨b, _, rfl⟩ := List.mem_map.1 (List.mem_of_mem_take hv)
  rfl)
 rw [hlen] at hst
 simp only [Nat.add_zero] at hst
 cases hq : P.info? elem with
 | none => simp [hq] at hs
 | some i =>
  simp [Builtin.copy_, run_underlying hu, Builtin.lenOf, Builtin.firstCells, sizeOf, typeInfo, hq, hm]
  rw [hst]
  simp [Result.andThen]
noncomputable def opCpS (P : Program) (H : Tr O) (n : Nm) (t : TypeId) (x y : A) : Option Q3 := match P.underlying t, x, y with
 | some (.slice e), .C k o l _, .V (.string b) => match P.info? e, H.get k with
  | some i, some (.R cs te (0, 0)) => match Nat.beq i.size 1 && Nat.blt n.c (2 ^ mx) && Nat.ble (o + Nat.min b.size l) cs.length with
   | true => some (.V (.int .i64 (Nat.min b.size l)), H.set mx k (some (.R (cs.take o ++ ((b.data.toList.map fun u => A.V (.int .u8 u.toNat)).take (Nat.min b.size l)) ++ cs.drop (o + Nat.min b.size l)) te (0, 0))), n)
   | false => none
  | _, _ => none
 | _, _, _ => none
theorem opCpS_ok {P : Program} {s : Sg} {w : World} {H : Tr O} {n : Nm} {t sT ty : TypeId} {x y : A} {r : Q3} (hI : Inv P s w H n) (h : opCpS P H n t x y = some r) : Snd P (Builtin.copy_ #[t, sT] ty #[x.den s, y.den s]) s w H n r := by
 unfold opCpS at h
 split at h
 ·rename_i e k o l c b hu
  split at h
  ·rename_i i cs te hi hk
   split at h
   ·rename_i hc
    cases h
    simp only [Bool.and_eq_true, Nat.blt_eq, Nat.ble_eq] at hc
    obtain ⟨⟨h1, h2⟩, h3⟩ := hc
    have h1 := Nat.eq_of_beq_eq_true h1
    have hg : w.heap[s.a k]? = some (.cells (cs.map (A.den s)).toArray te (0, 0)) := hI.ok _ _ hk
    have hr := run_copyS (P := P) w t sT ty e (s.a k) o l c (Nat.min b.size l) b _ te hu (by rw [hi]; simp [h1]) hg rfl (by simpa using h3)
    have hl := (hI.lt k _ hk).2
    have e1 : ((cs.map (A.den s)).toArray.toList.take o ++ (List.map (fun b : UInt8 => Value.int .u8 b.toNat) b.data.toList).take (Nat.min b.size l) ++ (cs.map (A.den s)).toArray.toList.drop (o + Nat.min b.size l)) = (cs.take o ++ ((b.data.toList.map fun u => A.V (.int .u8 u.toNat)).take (Nat.min b.size l)) ++ cs.drop (o + Nat.min b.size l)).map (A.den s) := by
     have e2 : (A.den s ∘ fun u : UInt8 => A.V (.int .u8 u.toNat)) = fun u : UInt8 => Value.int .u8 u.toNat := funext fun u => by simp only [Function.comp, A.den]
     simp only [List.map_append, List.map_take, List.map_drop, List.map_map, e2]
    rw [e1] at hr
    refine ⟨s, _, by simp only [A.den]; exact hr, Adv.put hI h2 hk ?_ (keep_row _ hg) rfl rfl rfl (by rw [size_setRow']; exact Nat.le_refl _) fun b hb hne => objAt_setRow_ne w _ _ _ hne⟩
    simp only [O.lt, List.all_append, Bool.and_eq_true]
    refine ⟨⟨List.all_eq_true.2 fun a ha => List.all_eq_true.1 hl a (List.mem_of_mem_take ha), List.all_eq_true.2 fun a ha => ?_⟩, List.all_eq_true.2 fun a ha => List.all_eq_true.1 hl a (List.mem_of_mem_drop ha)⟩
    obtain ⟨u, -, rfl⟩ := List.mem_map.1 (List.mem_of_mem_take ha)
    rfl
   ·cases h
  ·cases h
 ·cases h
noncomputable def opArr (P : Program) (t : TypeId) (x : A) : Option A := match P.underlying t, x with
 | some (.array m _), .C k o l _ => match Nat.ble m l with
  | true => some (.P k o)
  | false => none
 | some (.array m _), .D k o _ l => match Nat.ble m l with
  | true => some (.P k o)
  | false => none
 | _, _ => none
theorem opArr_ok {P : Program} {t : TypeId} {x b : A} (h : opArr P t x = some b) (s : Sg) (w : World) : (Instr.arrayAt t (x.den s)).run P w = .ok (b.den s) w := by
 unfold opArr at h
 split at h
 ·rename_i m e k o l c hu
  split at h
  ·rename_i hm
   cases h
   rw [Nat.ble_eq] at hm
   simp [Instr.arrayAt, run_underlying hu, A.den, Result.andThen, Nat.not_lt.2 hm]
  ·cases h
 ·rename_i m e k o e' l hu
  split at h
  ·rename_i hm
   cases h
   rw [Nat.ble_eq] at hm
   simp [Instr.arrayAt, run_underlying hu, A.den, Result.andThen, Nat.not_lt.2 hm]
  ·cases h
 ·cases h
end Mc
end Go.Proofs.YtdoolhbmekahdaaGreatDoor
