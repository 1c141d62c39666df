/- Zc -/
import Derived.Test.YtnnnljcnnapnnaaGreatDoorXy
import Derived.Test.YtnnnljcnnapnnaaGreatDoorXq
import Derived.Test.YtnnnljcnnapnnaaGreatDoorSk
import Derived.Test.YtnnnljcnnapnnaaGreatDoorCt
import Derived.Deep.RegionLaw
import Derived.Deep.AppendLies
set_option linter.unusedVariables false
set_option linter.unusedSimpArgs false
set_option maxRecDepth 100000
set_option maxHeartbeats 4000000
namespace Go.Proofs.YtnnnljcnnapnnaaGreatDoor
namespace Mc
set_option maxRecDepth 1000000
theorem zqa1 : KT 86 := run_true zqa6.one (by decide +kernel)
theorem zqa5 : KT 63 := run_true zqa1.one (by decide +kernel)
end Mc
end Go.Proofs.YtnnnljcnnapnnaaGreatDoor
namespace Go.Proofs.YtnnnljcnnapnnaaGreatDoor
namespace Mc
open Go.RowKit
noncomputable def entV (s : Sg) (es : List (Int × A)) : List (Int × Value) := es.map fun e => (e.1, e.2.den s)
theorem zqbk (s : Sg) (es : List (Int × A)) : mapD s .u32 es = mapV (entV s es) := by
 simp only [mapD, mapV, entV, List.map_map]
 rfl
theorem zqt (s : Sg) (es : List (Int × A)) : (entV s es).map (·.1) = es.map (·.1) := by
 simp only [entV, List.map_map]
 rfl
noncomputable def lenA : A -> Option Nat
 | .C _ _ l _ => some l
 | .D _ _ _ l => some l
 | .V v => match v with
  | .slice _ l _ => some l
  | _ => none
 | _ => none
theorem zqbd {a : A} {l : Nat} (h : lenA a = some l) (s : Sg) : ∃ oa c, a.den s = .slice oa l c := by
 unfold lenA at h
 split at h
 ·cases h; exact ⟨_, _, by simp only [A.den]; rfl⟩
 ·cases h; exact ⟨_, _, by simp only [A.den]; rfl⟩
 ·split at h
  ·cases h; exact ⟨_, _, by simp only [A.den]; rfl⟩
  ·cases h
 ·cases h
noncomputable def zqax : List (Int × A) -> Option Nat
 | [] => some 0
 | e :: r => match lenA e.2, zqax r with
  | some l, some m => some (l + m)
  | _, _ => none
theorem zqaa (s : Sg) : ∀ (es : List (Int × A)) (t : Nat), zqax es = some t -> (∀ e ∈ entV s es, ∃ a l c, e.2 = .slice a l c) /\ sumL (fun _ => false) (entV s es) = t
 | [], t, h => by cases h; exact ⟨(fun e he => absurd he (List.not_mem_nil)), rfl⟩
 | e :: r, t, h => by
  unfold zqax at h
  split at h
  ·rename_i l m h1 h2
   cases h
   obtain ⟨oa, c, h3⟩ := zqbd h1 s;obtain ⟨h4, h5⟩ := zqaa s r m h2;refine ⟨fun x hx => ?_, ?_⟩
   ·rcases List.mem_cons.1 hx with rfl | hx
    ·exact ⟨oa, l, c, h3⟩
    ·exact h4 x hx
   ·show (if (fun _ => false) (Lit.int .u32 e.1) = true then 0 else lenV (e.2.den s)) + sumL (fun _ => false) (entV s r) = l + m
    rw [h5, h3]
    simp [lenV]
  ·cases h
noncomputable def offM (H : Tr O) (x : A) : Option (Nat × Nat × List (Int × A)) := match x with
 | .P g 0 => match H.get g with
  | some (.R [.M m] t (0, 0)) => match getM Tryz.prog H m with
   | some (es, k, q) => match Nat.beq t 58 && Nat.beq k 24 && decide (q = .u32) && incr (es.map (·.1)) with
    | true => some (g, m, es)
    | false => none
   | none => none
  | _ => none
 | _ => none
theorem zq8 {s : Sg} {w : World} {H : Tr O} {n : Nm} {x : A} {g m : Nat} {es : List (Int × A)} (hI : Inv Tryz.prog s w H n) (h : offM H x = some (g, m, es)) : x = .P g 0 /\ objAt w (s.a g) = some (.cells #[.map (some (s.a m))] 58) /\ w.ownsMap Tryz.prog 24 hV (s.a m) es.length (mapV (entV s es)) /\ incr ((entV s es).map (·.1)) = true := by
 unfold offM at h
 split at h
 ·split at h
  ·rename_i hk
   split at h
   ·rename_i hm
    split at h
    ·rename_i hc
     cases h
     simp only [Bool.and_eq_true, decide_eq_true_eq] at hc
     obtain ⟨⟨⟨h1, h2⟩, rfl⟩, h4⟩ := hc;obtain rfl := Nat.eq_of_beq_eq_true h1;obtain rfl := Nat.eq_of_beq_eq_true h2;obtain ⟨h5, -⟩ := getM_ok hI hm;rw [zqbk] at h5;have h6 : objAt w (s.a g) = _ := hI.ok _ _ hk;refine ⟨rfl, ?_, h5, by rw [zqt]; exact h4⟩;rw [h6]
     simp [A.den]
    ·cases h
   ·cases h
  ·cases h
 ·cases h
noncomputable def orcW : Caller := fun t ys H n => match t with
 | .f f => match Nat.beq f 65 with
  | true => match ys with
   | [x] => match offM H x with
    | some (_, _, es) => match zqax es with
     | some z => match Nat.blt z 1000000 with
      | true => some (.V (.int .i64 z), H, n)
      | false => none
     | none => none
    | none => none
   | _ => none
  | false => none
 | .y _ => none
theorem zqbc {C : Sg -> World -> Nm -> Prop} : CallOk Tryz.prog C orcW := fun t ys H n r h hl s w hC hI => by
 unfold orcW at h
 split at h
 ·rename_i f
  split at h
  ·rename_i hf
   obtain rfl := Nat.eq_of_beq_eq_true hf
   split at h
   ·rename_i x
    split at h
    ·rename_i g m es ho
     split at h
     ·rename_i z hz
      split at h
      ·rename_i hlt
       cases h
       rw [Nat.blt_eq] at hlt;obtain ⟨rfl, h1, h2, h3⟩ := zq8 hI ho;obtain ⟨h4, h5⟩ := zqaa s es z hz;unfold TgOk
       simp only [List.map_cons, List.map_nil, A.den]
       refine Calls.mono (zqj (s.a g) (s.a m) es.length (entV s es) w h1 h2 (zqat (zq2 _ h3)) h4 (by omega)) ?_
       rintro e w' ⟨rfl, hb⟩;exact ⟨s, by rw [h5], AdvF.grow hI hb⟩
      ·cases h
     ·cases h
    ·cases h
   ·cases h
  ·cases h
 ·cases h
noncomputable def orcN : Caller := fun t ys H n => match t with
 | .f f => match Nat.beq f 16 with
  | true => match ys with
   | [x] => match offM H x with
    | some (_, _, es) => match Nat.blt es.length 13 && Nat.blt (n.c + 1) (2 ^ mx), es with
     | true, _ :: _ => some (.D n.c 0 0 es.length, H.set mx n.c (some (.B (es.map fun e => .V (.int .u32 e.1)) 24)), n.nx)
     | _, _ => none
    | none => none
   | _ => none
  | false => none
 | .y _ => none
theorem zqbx {w : World} {g : Nat} {ks : List Int} (h : SrtAt w g ks.toArray) : ∃ cur z, objAt w g = some (.cells cur 24 z) /\ ks.length <= cur.size /\ cur.toList.take ks.length = ks.map (Value.int .u32) := by
 obtain ⟨cur, h1, h2, h3⟩ := h;rw [List.size_toArray] at h2 h3;refine ⟨cur, _, h1, h2, List.ext_getElem? fun i => ?_⟩;rw [List.getElem?_take, List.getElem?_map]
 by_cases hi : i < ks.length
 ·rw [if_pos hi, Array.getElem?_toList, h3 i hi, List.getElem?_eq_getElem hi]
  simp [hi]
 ·rw [if_neg hi, List.getElem?_eq_none (by omega)]
  rfl
theorem zqa9 {C : Sg -> World -> Nm -> Prop} : CallOk Tryz.prog C orcN := fun t ys H n r h hl s w hC hI => by
 unfold orcN at h
 split at h
 ·rename_i f
  split at h
  ·rename_i hf
   obtain rfl := Nat.eq_of_beq_eq_true hf
   split at h
   ·rename_i x
    split at h
    ·rename_i g m es ho
     split at h
     ·rename_i e0 r0 hc
      cases h
      simp only [Bool.and_eq_true, Nat.blt_eq] at hc
      obtain ⟨rfl, h1, h2, h3⟩ := zq8 hI ho;unfold TgOk
      simp only [List.map_cons (f := A.den s), List.map_nil (f := A.den s), A.den]
      refine Calls.mono (zqam (s.a g) (s.a m) _ (entV s (e0 :: r0)) w h1 h2 h3 (by simp [entV]) (by simpa [entV] using hc.1)) ?_
      rintro e w' ⟨g', c, rfl, q1, q2, hb⟩;rw [zqt] at q2;refine ⟨s.add n g' c, ?_, Adv.new hI hc.2 ?_ ?_ q1 hb.os hb.tape hb.output hb.size fun b hlt => hb.block b hlt⟩
      ·simp only [A.den, (s.add_new n g' c).1, (s.add_new n g' c).2, entV, List.length_map, Nat.sub_zero]
      ·simp only [O.lt, List.all_map]
       exact List.all_eq_true.2 fun a ha => rfl
      ·obtain ⟨cur, z, p1, p2, p3⟩ := zqbx q2
       rw [List.length_map] at p2 p3;refine ⟨cur, z, by rw [(s.add_new n g' c).1]; exact p1, by rw [List.length_map]; exact p2, ?_⟩;rw [List.length_map, p3, List.map_map, List.map_map];exact List.map_congr_left fun e he => by simp only [Function.comp, A.den]
     ·cases h
    ·cases h
   ·cases h
  ·cases h
 ·cases h
noncomputable def lnb : List Nat -> List Nat -> Bool
 | [], [] => true
 | a :: k, b :: q => match Nat.beq a b with
  | true => lnb k q
  | false => false
 | _, _ => false
theorem zqai : ∀ k q : List Nat, lnb k q = true ↔ k = q
 | [], [] => by simp [lnb]
 | [], b :: q => by simp [lnb]
 | a :: k, [] => by simp [lnb]
 | a :: k, b :: q => by
  unfold lnb
  cases h : Nat.beq a b with
  | true => rw [Nat.eq_of_beq_eq_true h, zqai k q]; simp
  | false =>
   have : a ≠ b := fun e => by rw [e, show Nat.beq b b = true from Nat.beq_refl b] at h; cases h
   simp [this]
noncomputable def saO (ys : List A) (_ : Tr O) : Option A := match ys with
 | [a, b] => withKey a fun k => withKey b fun q => some (.V (.bool (lnb k q)))
 | _ => none
theorem zqbg {C : Sg -> World -> Nm -> Prop} : CallOk Tryz.prog C (oneC 255 saO) :=
 one_ok fun s w H n ys a hC hI h => by
  unfold saO at h
  split at h
  ·obtain ⟨k, h, k2, k3, k4⟩ := withKey_ok s h
   obtain ⟨q, h, q2, q3, q4⟩ := withKey_ok s h
   cases h
   have hs : same 32 (fnL k) (fnL q) = lnb k q := by
    rw [Bool.eq_iff_iff, same_iff, zqai];exact ⟨fun h => by rw [<- k4, <- q4, strOf_congr h], fun h i _ => by rw [h]⟩
   have := same_any (fnL k) (fnL q) w k3 q3;rw [hs] at this
   simp only [List.map_cons, List.map_nil, A.den]
   rw [k2, q2];exact this
  ·cases h
noncomputable def zqac (l : List FuncId) : Caller := runFn Tryz.prog (orBoth (awL l) (orBoth (oneC 255 saO) (orBoth orcW (orBoth orcN orcs)))) (drawR Tryz.prog) 5000 60
theorem zq9 {w0 : World} (hT : Tabs w0) (hE : EtAt w0) {l : List FuncId} (hl : ∀ f ∈ l, KT f) : CallOk Tryz.prog (From w0) (zqac l) :=
 runFn_ok (from_stab w0) (orBoth_ok (awL_ok hT hE hl) (orBoth_ok zqbg (orBoth_ok zqbc (orBoth_ok zqa9 (orcs_ok hT hE))))) (fun call C hc N => drawR_ok zqa hc N) 60
theorem zqap {l : List FuncId} {f : FuncId} (hl : ∀ f ∈ l, KT f) (h : isT (zqac l (.f f) [] .l ⟨0, fun _ => false⟩) = true) : KT f := fun w hT hE => by
 cases hr : zqac l (.f f) [] .l ⟨0, fun _ => false⟩ with
 | none => rw [hr] at h; cases h
 | some r =>
  rw [hr] at h;obtain ⟨a, H, n⟩ := r;unfold isT at h
  split at h
  ·rename_i ob b e
   cases e
   subst h;exact run_top (zq9 hT hE hl) hr rfl
  ·cases h
end Mc
end Go.Proofs.YtnnnljcnnapnnaaGreatDoor
namespace Go.Proofs.YtnnnljcnnapnnaaGreatDoor
namespace Mc
set_option maxRecDepth 1000000
theorem aw25_KT : KT 7 := zqap zqa5.one (by decide +kernel)
end Mc
end Go.Proofs.YtnnnljcnnapnnaaGreatDoor
namespace Go.Proofs.YtnnnljcnnapnnaaGreatDoor
open Go.RowKit Go.Maps
theorem index_none (f : Value) (w : World) : Calls Tryz.prog 87 #[.slice none 0 0, f] w fun e w' => e = .returned (.int .i64 (-1)) /\ w' = w := by
 go_enter Tryz.func87, Tryz.ntmps87
 go_wp2;refine wp_loop_rounds 1 ?_
 rw [rounds_succ];go_wp2;go_ret;exact ⟨rfl, rfl⟩
theorem zqo (f : Value) (w : World) : Calls Tryz.prog 66 #[.slice none 0 0, f] w fun e w' => e = .returned (.bool false) /\ w' = w := by
 go_enter Tryz.func66, Tryz.ntmps66
 go_wp2_with fail;refine (index_none f _).mono ?_
 rintro e _ ⟨rfl, rfl⟩;go_wp2;go_ret;exact ⟨rfl, rfl⟩
theorem at_mem {x : Int} {v : Value} (zd : DataW Value) : ∀ T : List (Int × Value), (T.map (·.1)).Nodup -> (x, v) ∈ T -> (mapV T).atKey (.int .u32 x) zd = .held v
 | [], _, h => by cases h
 | e :: r, hn, h => by
  rw [List.map_cons, List.nodup_cons] at hn
  rcases List.mem_cons.1 h with rfl | h
  ·simp [mapV, DataW.atKey, Lit.sameKey]
  ·have hne : e.1 ≠ x := fun e2 => hn.1 (by rw [e2]; exact List.mem_map.2 ⟨(x, v), h, rfl⟩)
   have ih := at_mem zd r hn.2 h;unfold mapV DataW.atKey at ih ⊢
   simp only [List.map_cons, List.find?_cons]
   rw [show Lit.sameKey (Lit.int .u32 e.1) (Lit.int .u32 x) = false by simp [Lit.sameKey, hne]];exact ih
theorem zqa0 {v : Value} {d : DataW Value} {ps : List MemPlace} {x : Value} (h : Mc.hV v = some (d, ps)) (e : d = .held x) : v = x := by
 subst e;unfold Mc.hV at h
 cases h
 rfl
theorem zqal {x : Int} (h : 0 <= x /\ x < 4294967296) : (Lit.int .u32 x).wf = true := by simp [Lit.wf, IntKind.min, IntKind.max, IntKind.signed, IntKind.bits]; omega
theorem zqz (w : World) : (zeroValue 34).run Tryz.prog w = .ok (.slice none 0 0) w := by kernel_rfl
theorem zqr {w : World} {b nn : Nat} {T : List (Int × Value)} (h : w.ownsMap Tryz.prog 24 Mc.hV b nn (mapV T)) {x : Int} {v : Value} (hn : (T.map (·.1)).Nodup) (hx : (x, v) ∈ T) (hb : 0 <= x /\ x < 4294967296) :
  (Instr.lookup 56 (.map (some b)) (.int .u32 x) false).run Tryz.prog w = .ok v w /\ (Instr.lookup 56 (.map (some b)) (.int .u32 x) true).run Tryz.prog w = .ok (.tuple #[v, .bool true]) w := by
 have LK : Keyed Tryz.prog 24 := int_keyed Tryz.underlying24;have hk := keyOf_int_mk Tryz.underlying24 (zqal hb);have hat := at_mem (.held (.slice none 0 0)) T hn hx
 constructor
 ·obtain ⟨v', ps, hr, hv⟩ := World.ownsMap.lookup h LK Tryz.underlying56 (zqz w) (zd := .held (.slice none 0 0)) rfl hk
  rw [hr, zqa0 hv hat]
 ·obtain ⟨v', ps, hr, hv⟩ := World.ownsMap.look_ok h LK Tryz.underlying56 (zqz w) (zd := .held (.slice none 0 0)) rfl hk
  rw [hr, zqa0 hv hat, zqn.2 (List.mem_map.2 ⟨_, hx, rfl⟩)]
theorem zqbe (g b nn m : Nat) (T : List (Int × Value)) (x : Int) (oa : Option Addr) (l c : Nat) (w : World) (hg : objAt w g = some (.cells #[.map (some b)] 58)) (hown : w.ownsMap Tryz.prog 24 Mc.hV b nn (mapV T)) (hi : (T.map (·.1)).Nodup) (hv : ∀ e ∈ T, ∃ a l c, e.2 = .slice a l c)
  (hx : (x, Value.slice oa l c) ∈ T) (hb : 0 <= x /\ x < 4294967296) (hs : sumL (fun _ => false) T + m <= 4096) :
  Calls Tryz.prog 34 #[.pointer (some ⟨g, 0, none⟩), .int .u32 x, .int .i64 (m : Int), .slice none 0 0] w fun e w' => e = .returned .nilIface /\ Below w.heap.size w w' := by
 have lg := lt_of_objAt hg;have l2 := (zqr hown hi hx hb).2;have hA : Below w.heap.size w (w.alloc (.cells #[.slice oa l c] 34)) := Grew.alloc (Grew.refl _) _;have cW := zqj g b nn T _ (keep_below hA hg) (hown.alloc (.cells #[.slice oa l c] 34)) hi hv (by omega);have hle : ((sumL (fun _ => false) T : Nat) : Int) + (m : Int) <= 4096 := by omega
 generalize sumL (fun _ => false) T = S at *;have CW := hidS cW;clear cW hown hi hv hx hs
 go_enter Tryz.func34, Tryz.ntmps34
 go_wp2_with fail;refine CW.out.mono ?_
 rintro e w2 ⟨rfl, hb2⟩;have hG := Grew.trans hA hb2;clear hb2 hA CW;have h4 : ¬ ((4096 : Int) < ((S : Nat) : Int) + (m : Int)) := by omega
 have h5 : (0 : Int) <= ((S : Nat) : Int) + (m : Int) := by omega
 go_wp2_with fail;refine (zqo _ _).mono ?_
 rintro e _ ⟨rfl, rfl⟩;go_wp2;go_ret;exact ⟨rfl, hG⟩
def xT : ByteArray := ⟨#[120]⟩
def nilS : Value := .slice none 0 0
def boxT (v : Value) : List (Int × Value) := [(1, v), (2, nilS), (3, nilS)]
theorem zqan {w w' : World} {base : Nat} {e : TypeId} {size : Nat} {v : Value} {n : Nat} {xs : List Value} (h : w.ownsRow base e size v n xs) (hb : Below w.heap.size w w') : w'.ownsRow base e size v n xs :=
 h.kept (show w.grownBy w' none from ⟨hb.os, hb.tape, hb.output, hb.size, fun k hk _ => hb.block k hk⟩) (by cases v.ownBlock <;> simp)
theorem zqp {w w' : World} {b nn : Nat} {D : DataW Value} (h : w.ownsMap Tryz.prog 24 Mc.hV b nn D) (hb : Below w.heap.size w w') : w'.ownsMap Tryz.prog 24 Mc.hV b nn D := by
 have hl := World.ownsMap.lt h;obtain ⟨es, clock, h1, h2⟩ := h;exact ⟨es, clock, (hb.block b hl).trans h1, h2⟩
theorem zqao {w : World} {b n : Nat} {D : DataW Value} (h : w.ownsMap Tryz.prog 24 Mc.hV b n D) : w.ownsMap Tryz.prog 24 Mc.hV b (Maps.size D) D := by
 obtain ⟨es, clock, h1, h2, h3, rfl⟩ := h;refine ⟨es, clock, h1, h2, ?_, rfl⟩
 simp [Maps.size, length_sorted]
theorem zqba (v u : Value) : (mapV (boxT v)).put (.int .u32 1) (.held u) = mapV (boxT u) := by
 simp [mapV, boxT, DataW.put, DataW.insert, Lit.before, Lit.sameKey]
theorem row_ne {w : World} {lo k g : Nat} {v : Value} {xs : List Value} {t : TypeId} {cs : Array Value} (h : w.ownsRow lo 9 1 v k xs) (hg : objAt w g = some (.cells cs t)) (ht : t ≠ 9) : v.ownBlock ≠ some g := by
 rcases h.2 with ⟨rfl, -⟩ | ⟨q, cap, cur, rfl, -, hq, -⟩
 ·simp [Value.ownBlock]
 ·intro e
  have e : q = g := by simpa [Value.ownBlock] using e
  unfold objAt at hg;rw [<- e, hq] at hg;exact ht (Obj.cells.inj (Option.some.inj hg)).2.1.symm
theorem zqay {w : World} {lo k b nn : Nat} {v : Value} {xs : List Value} {D : DataW Value} (h : w.ownsRow lo 9 1 v k xs) (hm : w.ownsMap Tryz.prog 24 Mc.hV b nn D) : v.ownBlock ≠ some b := by
 obtain ⟨es, clock, hb, -⟩ := hm
 rcases h.2 with ⟨rfl, -⟩ | ⟨q, cap, cur, rfl, -, hq, -⟩
 ·simp [Value.ownBlock]
 ·intro e
  have e : q = b := by simpa [Value.ownBlock] using e
  rw [<- e, hq] at hb
  cases hb
theorem zqa2 {w : World} {b nn : Nat} {v : Value} (h : w.ownsMap Tryz.prog 24 Mc.hV b nn (mapV (boxT v))) (u : Value) :
  ∃ w', (Instr.mapUpdate 56 (.map (some b)) (.int .u32 1) u).run Tryz.prog w = .ok () w' /\ w'.ownsMap Tryz.prog 24 Mc.hV b 3 (mapV (boxT u)) /\ w.grownBy w' (some b) := by
 have LK : Keyed Tryz.prog 24 := int_keyed Tryz.underlying24;obtain ⟨w', h1, h2, h3⟩ := World.ownsMap.update (zqao h) LK Tryz.underlying56 (by simp [mapV, boxT, Maps.size, maxLen]) (keyOf_int_mk Tryz.underlying24 (zqal (x := 1) ⟨by decide, by decide⟩)) (show Mc.hV u = some (.held u, []) from rfl);rw [zqba] at h2;have := zqao h2;exact ⟨w', h1, this, h3⟩
theorem zqav (g b nn lo k : Nat) (v1 : Value) (w : World) (hg : objAt w g = some (.cells #[.map (some b)] 58)) (hm : w.ownsMap Tryz.prog 24 Mc.hV b nn (mapV (boxT v1))) (ho : w.ownsRow lo 9 1 v1 k (List.replicate k (.string xT))) (hk : k < 4096) (hlo : lo <= w.heap.size) :
  Calls Tryz.prog 8 #[.pointer (some ⟨g, 0, none⟩), .int .u32 1, .string xT] w fun e w' => e = .returned .nilIface /\ ∃ v2, objAt w' g = some (.cells #[.map (some b)] 58) /\ w'.ownsMap Tryz.prog 24 Mc.hV b 3 (mapV (boxT v2)) /\ w'.ownsRow lo 9 1 v2 (k + 1) (List.replicate (k + 1) (.string xT)) /\
   (lo <= b -> Below lo w w') := by
 obtain ⟨oa, c, rfl⟩ : ∃ oa c, v1 = .slice oa k c := by
  rcases ho.2 with ⟨rfl, rfl⟩ | ⟨q, cap, cur, rfl, -⟩
  ·exact ⟨none, 0, rfl⟩
  ·exact ⟨_, _, rfl⟩
 have hn : ((boxT (.slice oa k c)).map (·.1)).Nodup := by simp [boxT]
 have cB := zqbe g b nn 1 (boxT (.slice oa k c)) 1 oa k c w hg hm hn (by intro e he; simp [boxT, nilS] at he; rcases he with rfl | rfl | rfl <;> exact ⟨_, _, _, rfl⟩) (by simp [boxT]) ⟨by decide, by decide⟩ (by simp [sumL, boxT, nilS, lenV]; omega);have hlg := lt_of_objAt hg;have hlb := World.ownsMap.lt hm
 go_enter Tryz.func8, Tryz.ntmps8
 go_wp2_with fail;refine cB.mono ?_
 rintro e w1 ⟨rfl, hb1⟩;have fg := keep_below hb1 hg;have lg := lt_of_objAt fg;have hm1 := zqp hm hb1;have ho1 := zqan ho hb1;have hA : Below w1.heap.size w1 ((w1.alloc (.cells #[.string xT] 9)).drew) := Grew.drewN (Grew.alloc (Grew.refl _) _) 1;have lk1 := (zqr (show w1.drew.ownsMap Tryz.prog 24 Mc.hV b nn (mapV (boxT (.slice oa k c))) from hm1) hn (x := 1) (v := .slice oa k c) (by simp [boxT]) ⟨by decide, by decide⟩).1;have lk2 := (zqr (zqp hm1 hA) hn (x := 1) (v := .slice oa k c) (by simp [boxT]) ⟨by decide, by decide⟩).1;have hB : ∀ W : World, (Instr.buildSlice 34 1 #[(0, .string xT)]).run Tryz.prog W = .ok (.slice (some ⟨W.heap.size, 0, none⟩) 1 1) (W.alloc (.cells #[.string xT] 9)) := fun W => by kernel_rfl
 obtain ⟨ti, zi, hi, hz, hs', hby, hzs⟩ : ∃ i z, Tryz.prog.info? 9 = some i /\ i.zero = some z /\ i.size = 1 /\ i.bytes = 16 /\ z.cells.size = 1 := ⟨(Tryz.prog.info? 9).get zqa, ((Tryz.prog.info? 9).get zqa).zero.get zqa, by kernel_rfl, by kernel_rfl, by kernel_rfl, by kernel_rfl, by kernel_rfl⟩
 have HO := hidS (zqan ho1 hA);have HM := hidS (zqp hm1 hA);have HI := hidS hi;have HZ := hidS (And.intro hz (And.intro hs' (And.intro hby hzs)));have HN := hidS (show ∀ (j : Nat) (u : Value), ([Value.string xT] : List Value)[j]? = some u -> ((w1.alloc (.cells #[.string xT] 9)).drew).cell? ((⟨w1.heap.size, 0, none⟩ : Addr).add j) = some u from World.news_of_block (cs := #[.string xT]) (objAt_alloc_at _ _ _ rfl));have HG1 := hidS (Grew.trans hb1 hA);have HFG := hidS (keep_below hA fg);have HNG := hidS (row_ne ho1 fg (by decide));have HNM := hidS (zqay ho1 hm1);have hsz : lo <= w1.heap.size := Nat.le_trans hlo hb1.size;have hgb : g ≠ b := fun e => by
  obtain ⟨es, clock, h1, -⟩ := hm1;unfold objAt at fg;rw [e, h1] at fg
  cases fg
 have FIN : Hid (∀ (g2 c2 : Nat) (w2 w3 : World), w2.ownsRow lo 9 1 (.slice (some ⟨g2, 0, none⟩) (k + 1) c2) (k + 1) (List.replicate k (.string xT) ++ [.string xT]) -> ((w1.alloc (.cells #[.string xT] 9)).drew).grownBy w2 (Value.slice oa k c).ownBlock -> ((Value.slice oa k c).ownBlock = some g2 \/ g2 = ((w1.alloc (.cells #[.string xT] 9)).drew).heap.size) ->
   w3.ownsMap Tryz.prog 24 Mc.hV b 3 (mapV (boxT (.slice (some ⟨g2, 0, none⟩) (k + 1) c2))) -> w2.grownBy w3 (some b) -> ∃ v2, objAt w3 g = some (.cells #[.map (some b)] 58) /\ w3.ownsMap Tryz.prog 24 Mc.hV b 3 (mapV (boxT v2)) /\ w3.ownsRow lo 9 1 v2 (k + 1) (List.replicate (k + 1) (.string xT)) /\ (lo <= b -> Below lo w w3)) := by
  intro g2 c2 w2 w3 ho2 hg2 hw2 m3 z3;have f2 := (hg2.block g (lt_of_objAt HFG.out) (fun e => HNG.out e.symm)).trans HFG.out;have hl2 : g < w2.heap.size := Nat.lt_of_lt_of_le (lt_of_objAt HFG.out) hg2.size;have hb2 : b < ((w1.alloc (.cells #[.string xT] 9)).drew).heap.size := World.ownsMap.lt HM.out;have hne : g2 ≠ b := by
   rcases hw2 with h | h
   ·intro e
    exact HNM.out (by rw [h, e])
   ·omega
  rw [<- List.replicate_succ'] at ho2;refine ⟨_, (z3.block g hl2 (fun e => hgb (Option.some.inj e))).trans f2, m3, ho2.kept z3 (by simp [Value.ownBlock]; exact hne), fun hlb2 => ?_⟩;have hw := HG1.out;refine ⟨z3.os.trans (hg2.os.trans hw.os), z3.tape.trans (hg2.tape.trans hw.tape), z3.output.trans (hg2.output.trans hw.output), Nat.le_trans hw.size (Nat.le_trans hg2.size z3.size), fun q hq => ?_⟩;have q1 : q < w.heap.size := by omega
  have q2 := Nat.lt_of_lt_of_le q1 hw.size;have q3 := Nat.lt_of_lt_of_le q2 hg2.size;refine (z3.block q q3 (fun e => by have := Option.some.inj e; omega)).trans ((hg2.block q q2 (fun e => ?_)).trans (hw.block q q1));have := (World.ownsRow.lt HO.out q e.symm).1
  omega
 clear hi hz hs' hby hzs ho1 hm1 cB hm ho hg hb1 hA hgb;go_wp2_with fail
 go_region_law (refine step_append_lies _ rfl (.tmp 25) (.tmp 27) 34 rfl lo 9 ti zi 1 16 Tryz.underlying34 HI.out HZ.out.1 HZ.out.2.1 HZ.out.2.2.1 HZ.out.2.2.2 (by decide) (.slice oa k c) k (List.replicate k (.string xT)) (by simp [Act.eval, Act.put]) HO.out ⟨w1.heap.size, 0, none⟩ 1 1 [.string xT] (by simp [Act.eval, Act.put]) rfl HN.out (by simp [Value.oneCell']) (by decide) (by unfold maxLen; omega) (by omega) (by simp; omega) _ rfl ?_; intro g2 c2 w2 ho2 hg2 hw2 hlt2; obtain ⟨w3, e3, m3, z3⟩ := zqa2 (World.ownsMap.kept HM.out hg2 (fun e => HNM.out e.symm)) (.slice (some ⟨g2, 0, none⟩) (k + 1) c2); have f2 : objAt w2 g = some (.cells #[.map (some b)] 58) := (hg2.block g (lt_of_objAt HFG.out) (fun e => HNG.out e.symm)).trans HFG.out; have l2 := lt_of_objAt f2)
 all_goals (go_wp2; go_ret; exact ⟨rfl, FIN.out _ _ _ _ ho2 hg2 hw2 m3 z3⟩)
namespace Mc
noncomputable def goM (call : Caller) (f : FuncId) (ys : List A) (H : Tr O) (n : Nm) : Option Q3 := match ys.all (A.lt n dp) with
 | true => call (.f f) ys H n
 | false => none
theorem go_step {w0 : World} (hT : Tabs w0) (hE : EtAt w0) {f : FuncId} {ys : List A} {H : Tr O} {n : Nm} {v : A} {H' : Tr O} {n' : Nm} (h : goM (zqac []) f ys H n = some (v, H', n')) {s : Sg} {w : World} {g : Nat} (hF : From w0 s w n) (hI : Inv Tryz.prog s w H n) (h0 : n.has 0 = true) (ha : s.a 0 = g) :
  Calls Tryz.prog f (ys.map (A.den s)).toArray w fun e w' => ∃ s', e = .returned (v.den s') /\ From w0 s' w' n' /\ Inv Tryz.prog s' w' H' n' /\ n'.has 0 = true /\ s'.a 0 = g := by
 unfold goM at h
 split at h
 ·rename_i hl
  refine Calls.mono (zq9 hT hE (l := []) (fun f hf => absurd hf List.not_mem_nil) (.f f) ys H n _ h hl s w hF hI) ?_
  rintro e w' ⟨s', rfl, k⟩;exact ⟨s', rfl, (from_stab w0).1 s w _ n hI hF s' w' _ n' k n' k.mono (fun _ h => h), k.inv, k.mono 0 h0, (k.ext 0 h0).1.trans ha⟩
 ·cases h
noncomputable def runS (call : Caller) : List (FuncId × (A -> List A) × (A -> Bool)) -> A -> Tr O -> Nm -> Bool
 | [], _, _, _ => true
 | e :: r, p, H, n => match goM call e.1 (e.2.1 p) H n with
  | some (v, H', n') => match e.2.2 v with
   | true => runS call r v H' n'
   | false => false
  | none => false
theorem runS_cons {call : Caller} {f : FuncId} {g : A -> List A} {c : A -> Bool} {r : List (FuncId × (A -> List A) × (A -> Bool))} {p : A} {H : Tr O} {n : Nm} (h : runS call ((f, g, c) :: r) p H n = true) : ∃ v H' n', goM call f (g p) H n = some (v, H', n') /\ c v = true /\ runS call r v H' n' = true := by
 unfold runS at h
 split at h
 ·rename_i v H' n' e
  split at h
  ·rename_i hc
   exact ⟨v, H', n', e, hc, h⟩
  ·cases h
 ·cases h
noncomputable def anyV : A -> Bool := fun _ => true
noncomputable def zq0 : A -> Bool
 | .V (.bool b) => b
 | _ => false
theorem trueV_ok {v : A} (h : zq0 v = true) : v = .V (.bool true) := by
 unfold zq0 at h
 split at h
 ·subst h; rfl
 ·cases h
noncomputable def nilV : A -> Bool
 | .V v => match v with
  | .nilIface => true
  | _ => false
 | _ => false
theorem nilV_ok {v : A} (h : nilV v = true) : v = .V .nilIface := by
 unfold nilV at h
 split at h
 ·split at h
  ·rfl
  ·cases h
 ·cases h
noncomputable def yT : ByteArray := ⟨#[121]⟩
noncomputable def yNil : A -> Bool
 | .T [.V (.string b), .V v] => match v, b.data.toList with
  | .nilIface, [x] => Nat.beq x.toNat 121
  | _, _ => false
 | _ => false
theorem yNil_ok {v : A} (h : yNil v = true) : v = .T [.V (.string yT), .V .nilIface] := by
 unfold yNil at h
 split at h
 ·rename_i b v'
  split at h
  ·rename_i v'' x hb
   have hx : x = 121 := by
    have := Nat.eq_of_beq_eq_true h;exact UInt8.toNat_inj.1 this
   subst hx;have : b = yT := by
    obtain ⟨d⟩ := b;have : d = #[121] := by rw [<- Array.toArray_toList (xs := d)]; simp only at hb; rw [hb]
    rw [this]
    rfl
   rw [this]
  ·cases h
 ·cases h
noncomputable def u32 (z : Int) : A := .V (.int .u32 z)
noncomputable def i64 (z : Int) : A := .V (.int .i64 z)
noncomputable def fullS : List (FuncId × (A -> List A) × (A -> Bool)) := [(10, fun v => [.P 0 0, u32 1, .V (.string yT)], anyV), (9, fun v => [v, i64 18], zq0), (8, fun v => [.P 0 0, u32 2, .V (.string yT)], nilV), (8, fun v => [.P 0 0, u32 2, .V (.string yT)], anyV), (9, fun v => [v, i64 18], zq0), (11, fun v => [.P 0 0, u32 1, i64 0], anyV), (9, fun v => [v, i64 18], zq0), (11, fun v => [.P 0 0, u32 4, i64 0], anyV), (9, fun v => [v, i64 15], zq0), (12, fun v => [.P 0 0, u32 2, i64 0], yNil), (11, fun v => [.P 0 0, u32 1, i64 4094], nilV), (11, fun v => [.P 0 0, u32 1, i64 9], anyV), (9, fun v => [v, i64 18], zq0)]
noncomputable def nilA : A := .V (.slice none 0 0)
noncomputable def fM : O := .M [(1, .D 2 0 0 4095), (2, nilA), (3, nilA)] 24 .u32
noncomputable def xsF (k : Nat) : List A := List.replicate k (.V (.string xT))
theorem zqa4 (s : Sg) (k : Nat) : (xsF k).map (A.den s) = List.replicate k (.string xT) := by
 unfold xsF;rw [List.map_replicate]
 simp only [A.den]
theorem zqbh (n : Nm) (k : Nat) : (xsF k).all (A.lt n dp) = true := by
 unfold xsF;exact List.all_eq_true.2 fun a ha => by rw [List.eq_of_mem_replicate ha]; rfl
attribute [irreducible] xsF
noncomputable def fU : O := .U (xsF 4095) 9 1 4095
noncomputable def fR : O := .R [.M 1] 58 (0, 0)
noncomputable def HF : Tr O := (((Tr.l : Tr O).set mx 0 (some fR)).set mx 1 (some fM)).set mx 2 (some fU)
noncomputable def n3 : Nm := ⟨3, fun _ => false⟩
set_option maxRecDepth 1000000 in
theorem full_run : runS (zqac []) fullS (.V undef) HF n3 = true := by decide +kernel
theorem zqaj (k : Nat) : HF.get k = if k = 2 then some fU else if k = 1 then some fM else if k = 0 then some fR else none := by
 unfold HF;rw [Tr.get_set mx _ 2 _ k (by decide), Tr.get_set mx _ 1 _ k (by decide), Tr.get_set mx _ 0 _ k (by decide), Tr.get_l]
theorem n3_has (k : Nat) : n3.has k = true ↔ k < 3 := by
 rw [Nm.has_iff]
 simp [n3]
theorem full_inv {w : World} {g b r cap lo : Nat} (hg : objAt w g = some (.cells #[.map (some b)] 58)) (hm : w.ownsMap Tryz.prog 24 hV b 3 (mapV (boxT (.slice (some ⟨r, 0, none⟩) 4095 cap)))) (ho : w.ownsRow lo 9 1 (.slice (some ⟨r, 0, none⟩) 4095 cap) 4095 (List.replicate 4095 (.string xT))) :
  Inv Tryz.prog ⟨fun k => match k with | 0 => g | 1 => b | _ => r, fun _ => cap⟩ w HF n3 := by
 have h1 : g ≠ b := fun e => by
  obtain ⟨es, clock, h1, -⟩ := hm;unfold objAt at hg;rw [e, h1] at hg
  cases hg
 have h2 : r ≠ g := fun e => row_ne ho hg (by decide) (by simp [Value.ownBlock, e]);have h3 : r ≠ b := fun e => zqay ho hm (by simp [Value.ownBlock, e]);refine ⟨fun k o hk => ?_, fun k o hk => ?_, fun j k o o' hj hk e => ?_, fun _ _ => rfl⟩
 ·rw [zqaj] at hk
  split at hk
  ·subst k
   cases hk
   have hh : w.ownsRow 0 9 1 (.slice (some ⟨r, 0, none⟩) 4095 cap) 4095 (List.replicate 4095 (.string xT)) := by
    obtain ⟨q1, q2⟩ := ho;refine ⟨q1, ?_⟩
    rcases q2 with q2 | ⟨q, c2, cur, e, -, q3⟩
    ·exact .inl q2
    ·exact .inr ⟨q, c2, cur, e, Nat.zero_le _, q3⟩
   rw [<- zqa4 ⟨fun k => match k with | 0 => g | 1 => b | _ => r, fun _ => cap⟩ 4095] at hh;exact hh
  ·split at hk
   ·subst k
    cases hk
    show w.ownsMap _ _ _ b 3 _
    have e : mapV (boxT (.slice (some ⟨r, 0, none⟩) 4095 cap)) = .map ([(1, A.D 2 0 0 4095), (2, nilA), (3, nilA)].map fun e => (Lit.int .u32 e.1, .held (e.2.den ⟨fun k => match k with | 0 => g | 1 => b | _ => r, fun _ => cap⟩))) := by
     simp [mapV, boxT, A.den, nilA, nilS]
    rw [e] at hm;exact hm
   ·split at hk
    ·subst k
     cases hk
     show objAt w g = _
     rw [hg]
     simp [A.den]
    ·cases hk
 ·rw [zqaj] at hk
  split at hk
  ·subst k; cases hk; exact ⟨by rw [n3_has]; omega, zqbh _ _⟩
  ·split at hk
   ·subst k; cases hk; exact ⟨by rw [n3_has]; omega, by decide +kernel⟩
   ·split at hk
    ·subst k; cases hk; exact ⟨by rw [n3_has]; omega, by decide +kernel⟩
    ·cases hk
 ·rw [zqaj] at hj hk
  have hj3 : j = 0 \/ j = 1 \/ j = 2 := by
   split at hj
   ·omega
   ·split at hj
    ·omega
    ·split at hj
     ·omega
     ·cases hj
  have hk3 : k = 0 \/ k = 1 \/ k = 2 := by
   split at hk
   ·omega
   ·split at hk
    ·omega
    ·split at hk
     ·omega
     ·cases hk
  rcases hj3 with rfl | rfl | rfl <;> rcases hk3 with rfl | rfl | rfl <;> simp only at e <;> first | rfl | (exfalso; omega)
noncomputable def H0 : Tr O := (Tr.l : Tr O).set mx 0 (some (.R [u32 1, u32 2, u32 3] 24 (0, 0)))
noncomputable def n1' : Nm := ⟨1, fun _ => false⟩
noncomputable def isNil : A -> Bool
 | .V v => match v with
  | .slice none 0 0 => true
  | _ => false
 | _ => false
theorem zqq {a : A} (h : isNil a = true) : a = nilA := by
 unfold isNil at h
 split at h
 ·split at h
  ·rfl
  ·cases h
 ·cases h
noncomputable def three : List (Int × A) -> Bool
 | [(x, a), (y, b), (z, c)] => decide (x = 1) && decide (y = 2) && decide (z = 3) && isNil a && isNil b && isNil c
 | _ => false
theorem zqaq {es : List (Int × A)} (h : three es = true) : es = [(1, nilA), (2, nilA), (3, nilA)] := by
 unfold three at h
 split at h
 ·simp only [Bool.and_eq_true, decide_eq_true_eq] at h
  obtain ⟨⟨⟨⟨⟨rfl, rfl⟩, rfl⟩, h1⟩, h2⟩, h3⟩ := h;rw [zqq h1, zqq h2, zqq h3]
 ·cases h
noncomputable def newB : Option Q3 -> Bool
 | some (v, H, n) => match offM H v with
  | some (g, m, es) => three es && n.has g && n.has m
  | none => false
 | none => false
set_option maxRecDepth 1000000 in
theorem zqbb : newB (goM (zqac []) 6 [.C 0 0 3 3] H0 n1') = true := by decide +kernel
theorem new_three (w : World) (hT : Tabs w) (hE : EtAt w) : Calls Tryz.prog 6 #[.slice (some ⟨w.heap.size, 0, none⟩) 3 3] (w.alloc (.cells #[.int .u32 1, .int .u32 2, .int .u32 3] 24)) fun e w' => ∃ g b, e = .returned (.pointer (some ⟨g, 0, none⟩)) /\ objAt w' g = some (.cells #[.map (some b)] 58) /\ w'.ownsMap Tryz.prog 24 hV b 3 (mapV (boxT nilS)) /\ w.heap.size <= g /\ w.heap.size <= b /\ Below w.heap.size w w' := by
 have hr := zqbb;unfold newB at hr
 split at hr
 ·rename_i v H n hgo
  split at hr
  ·rename_i g m es ho
   simp only [Bool.and_eq_true] at hr
   obtain ⟨⟨h1, h2⟩, h3⟩ := hr;have h1 := zqaq h1;subst h1;have hget : ∀ k, H0.get k = if k = 0 then some (.R [u32 1, u32 2, u32 3] 24 (0, 0)) else none := fun k => by
    unfold H0;rw [Tr.get_set mx _ 0 _ k (by decide), Tr.get_l]
   have hobj : objAt (w.alloc (.cells #[.int .u32 1, .int .u32 2, .int .u32 3] 24)) w.heap.size = some (.cells #[.int .u32 1, .int .u32 2, .int .u32 3] 24) := objAt_alloc_at _ _ _ rfl;have hI : Inv Tryz.prog ⟨fun _ => w.heap.size, fun _ => 0⟩ (w.alloc (.cells #[.int .u32 1, .int .u32 2, .int .u32 3] 24)) H0 n1' := by
    refine ⟨fun k o hk => ?_, fun k o hk => ?_, fun j k o o' hj hk e => ?_, fun _ _ => rfl⟩
    ·rw [hget] at hk
     split at hk
     ·subst k
      cases hk
      show objAt _ _ = _
      rw [hobj]
      simp [A.den, u32]
     ·cases hk
    ·rw [hget] at hk
     split at hk
     ·subst k
      cases hk
      exact ⟨by rw [Nm.has_iff]; simp [n1'], by decide +kernel⟩
     ·cases hk
    ·rw [hget] at hj hk
     split at hj
     ·split at hk
      ·omega
      ·cases hk
     ·cases hj
   have hF : From w ⟨fun _ => w.heap.size, fun _ => 0⟩ (w.alloc (.cells #[.int .u32 1, .int .u32 2, .int .u32 3] 24)) n1' := ⟨Grew.alloc (Grew.refl _) _, fun k _ => Nat.le_refl _⟩
   have hS := go_step hT hE hgo (g := w.heap.size) hF hI (by rw [Nm.has_iff]; simp [n1']) rfl
   simp only [List.map_cons, List.map_nil, A.den] at hS
   refine hS.mono ?_
   rintro e w' ⟨s', rfl, hF', hI', -, -⟩;obtain ⟨rfl, q1, q2, -⟩ := zq8 hI' ho;refine ⟨s'.a g, s'.a m, by simp only [A.den], q1, ?_, hF'.2 g h2, hF'.2 m h3, hF'.1⟩;have e : mapV (entV s' [(1, nilA), (2, nilA), (3, nilA)]) = mapV (boxT nilS) := by
    simp [mapV, entV, boxT, A.den, nilA, nilS]
   rw [e] at q2;exact q2
  ·cases hr
 ·cases hr
end Mc
theorem zqw (w : World) (hT : Tabs w) (hE : EtAt w) :
  Calls Tryz.prog 3 #[] w (Rt w (.bool true)) := by
 have cN := Mc.new_three w hT hE;have HT := hidS hT;have HE := hidS hE;have hB : ∀ W : World, (Instr.buildSlice 40 3 #[(0, .int .u32 1), (1, .int .u32 2), (2, .int .u32 3)]).run Tryz.prog W = .ok (.slice (some ⟨W.heap.size, 0, none⟩) 3 3) (W.alloc (.cells #[.int .u32 1, .int .u32 2, .int .u32 3] 24)) := fun W => by kernel_rfl
 go_enter Tryz.func3, Tryz.ntmps3
 go_wp2_with fail;refine cN.mono ?_
 rintro e w1 ⟨g, b, rfl, fg, hm, hg, hb, hG1⟩;clear cN hB;have cA := Mc.aw25_KT w1 (HT.out.later hG1) (HE.out.later hG1);have HG1 := hidS hG1;have HFG := hidS fg;have HM := hidS hm;clear hG1 fg hm;go_wp2_with fail;refine cA.mono ?_
 rintro e w2 ⟨rfl, hb2⟩;have hG2 := Grew.trans HG1.out hb2;have fg2 := keep_below hb2 HFG.out;have hm2 := zqp HM.out hb2;have HG2 := hidS hG2;have HFG2 := hidS fg2;have HM2 := hidS hm2;clear hb2 hG2 fg2 hm2 HG1 HFG HM hT hE cA;go_wp2_with fail
 go_loopw [12] (fun v wr => ∃ (j : Nat) (v1 : Value), v = .int .i64 j /\ j <= 4095 /\ objAt wr g = some (.cells #[.map (some b)] 58) /\ wr.ownsMap Tryz.prog 24 Mc.hV b 3 (mapV (boxT v1)) /\ wr.ownsRow w.heap.size 9 1 v1 j (List.replicate j (.string xT)) /\ Below w.heap.size w wr) (fun v _ => 4095 - (intOf v).toNat)
 case atStart => exact ⟨0, nilS, rfl, Nat.zero_le _, HFG2.out, HM2.out, World.ownsRow_nil _ _ _ _, HG2.out⟩
 case round =>
  clear HG2 HFG2 HM2;obtain ⟨j, v1, rfl, hj, fg, hm, ho, hG⟩ := hrel
  by_cases hlt : j < 4095
  ·have h1 : (j : Int) < 4095 := by omega
   have cP := zqav g b 3 w.heap.size j v1 wr fg hm ho (by omega) hG.size;have HG := hidS hG;clear fg hm ho hG;go_wp2_with fail;refine cP.mono ?_
   rintro e w4 ⟨rfl, v2, f4, m4, o4, z4⟩;have HG4 : Hid (Below w.heap.size w w4) := Below.trans HG.out (z4 hb);have HF4 := hidS f4;have HM4 := hidS m4;have HO4 := hidS o4;clear cP f4 m4 o4 z4 HG;go_wp2
   go_roundw
   case rel => first | exact ⟨j + 1, v2, by go_num, by omega, HF4.out, HM4.out, HO4.out, HG4.out⟩ | ((repeat' apply Exists.intro) <;> first | exact ⟨⟨j + 1, v2, by go_num, by omega, HF4.out, HM4.out, HO4.out, HG4.out⟩, rfl⟩ | exact undef)
   case measure => (simp [intOf] <;> omega)
  ·obtain rfl : j = 4095 := by omega
   obtain ⟨r, cap, rfl, hr⟩ : ∃ r cap, v1 = .slice (some ⟨r, 0, none⟩) 4095 cap /\ w.heap.size <= r := by
    rcases ho.2 with ⟨-, h⟩ | ⟨q, cap, cur, rfl, hq, -⟩
    ·cases h
    ·exact ⟨q, cap, rfl, hq⟩
   have hI0 := Mc.full_inv fg hm ho;have hF0 : Mc.From w ⟨fun k => match k with | 0 => g | 1 => b | _ => r, fun _ => cap⟩ wr Mc.n3 := ⟨hG, fun k _ => by
    match k with
    | 0 => exact hg
    | 1 => exact hb
    | k + 2 => exact hr⟩
   have hR0 := Mc.full_run;have ha0 : (⟨fun k => match k with | 0 => g | 1 => b | _ => r, fun _ => cap⟩ : Mc.Sg).a 0 = g := rfl;have hn0 : Mc.n3.has 0 = true := (Mc.n3_has 0).2 (by decide);generalize (⟨fun k => match k with | 0 => g | 1 => b | _ => r, fun _ => cap⟩ : Mc.Sg) = s0 at *;generalize Mc.n3 = nm0 at *;generalize Mc.HF = H0 at *;unfold Mc.fullS at hR0;clear fg hm ho hG hr hlt hj;obtain ⟨v1, H1, nm1, e1, c1, hR1⟩ := Mc.runS_cons hR0;have cS1 := Mc.go_step HT.out HE.out e1 hF0 hI0 hn0 ha0
   simp only [List.map_cons, List.map_nil, Mc.A.den, Mc.u32, Mc.i64, ha0] at cS1
   have HR1 := hidS hR1;clear hR0 hR1 e1 c1 hF0 hI0;go_wp2_with fail;refine cS1.mono ?_
   rintro e w5 ⟨s1, rfl, hF1, hI1, hn1, ha1⟩;have hR1 := HR1.out;clear cS1 HR1;obtain ⟨v2, H2, nm2, e2, c2, hR2⟩ := Mc.runS_cons hR1;have cS2 := Mc.go_step HT.out HE.out e2 hF1 hI1 hn1 ha1;obtain rfl := Mc.trueV_ok c2
   simp only [List.map_cons, List.map_nil, Mc.A.den, Mc.u32, Mc.i64, ha1] at cS2
   have HR2 := hidS hR2;clear hR1 hR2 e2 c2 hF1 hI1;go_wp2_with fail;refine cS2.mono ?_
   rintro e w6 ⟨s2, rfl, hF2, hI2, hn2, ha2⟩;have hR2 := HR2.out;clear cS2 HR2;obtain ⟨v3, H3, nm3, e3, c3, hR3⟩ := Mc.runS_cons hR2;have cS3 := Mc.go_step HT.out HE.out e3 hF2 hI2 hn2 ha2;obtain rfl := Mc.nilV_ok c3
   simp only [List.map_cons, List.map_nil, Mc.A.den, Mc.u32, Mc.i64, ha2] at cS3
   have HR3 := hidS hR3;clear hR2 hR3 e3 c3 hF2 hI2;go_wp2_with fail;refine cS3.mono ?_
   rintro e w7 ⟨s3, rfl, hF3, hI3, hn3, ha3⟩;have hR3 := HR3.out;clear cS3 HR3;obtain ⟨v4, H4, nm4, e4, c4, hR4⟩ := Mc.runS_cons hR3;have cS4 := Mc.go_step HT.out HE.out e4 hF3 hI3 hn3 ha3
   simp only [List.map_cons, List.map_nil, Mc.A.den, Mc.u32, Mc.i64, ha3] at cS4
   have HR4 := hidS hR4;clear hR3 hR4 e4 c4 hF3 hI3;go_wp2_with fail;refine cS4.mono ?_
   rintro e w8 ⟨s4, rfl, hF4, hI4, hn4, ha4⟩;have hR4 := HR4.out;clear cS4 HR4;obtain ⟨v5, H5, nm5, e5, c5, hR5⟩ := Mc.runS_cons hR4;have cS5 := Mc.go_step HT.out HE.out e5 hF4 hI4 hn4 ha4;obtain rfl := Mc.trueV_ok c5
   simp only [List.map_cons, List.map_nil, Mc.A.den, Mc.u32, Mc.i64, ha4] at cS5
   have HR5 := hidS hR5;clear hR4 hR5 e5 c5 hF4 hI4;go_wp2_with fail;refine cS5.mono ?_
   rintro e w9 ⟨s5, rfl, hF5, hI5, hn5, ha5⟩;have hR5 := HR5.out;clear cS5 HR5;obtain ⟨v6, H6, nm6, e6, c6, hR6⟩ := Mc.runS_cons hR5;have cS6 := Mc.go_step HT.out HE.out e6 hF5 hI5 hn5 ha5
   simp only [List.map_cons, List.map_nil, Mc.A.den, Mc.u32, Mc.i64, ha5] at cS6
   have HR6 := hidS hR6;clear hR5 hR6 e6 c6 hF5 hI5;go_wp2_with fail;refine cS6.mono ?_
   rintro e w10 ⟨s6, rfl, hF6, hI6, hn6, ha6⟩;have hR6 := HR6.out;clear cS6 HR6;obtain ⟨v7, H7, nm7, e7, c7, hR7⟩ := Mc.runS_cons hR6;have cS7 := Mc.go_step HT.out HE.out e7 hF6 hI6 hn6 ha6;obtain rfl := Mc.trueV_ok c7
   simp only [List.map_cons, List.map_nil, Mc.A.den, Mc.u32, Mc.i64, ha6] at cS7
   have HR7 := hidS hR7;clear hR6 hR7 e7 c7 hF6 hI6;go_wp2_with fail;refine cS7.mono ?_
   rintro e w11 ⟨s7, rfl, hF7, hI7, hn7, ha7⟩;have hR7 := HR7.out;clear cS7 HR7;obtain ⟨v8, H8, nm8, e8, c8, hR8⟩ := Mc.runS_cons hR7;have cS8 := Mc.go_step HT.out HE.out e8 hF7 hI7 hn7 ha7
   simp only [List.map_cons, List.map_nil, Mc.A.den, Mc.u32, Mc.i64, ha7] at cS8
   have HR8 := hidS hR8;clear hR7 hR8 e8 c8 hF7 hI7;go_wp2_with fail;refine cS8.mono ?_
   rintro e w12 ⟨s8, rfl, hF8, hI8, hn8, ha8⟩;have hR8 := HR8.out;clear cS8 HR8;obtain ⟨v9, H9, nm9, e9, c9, hR9⟩ := Mc.runS_cons hR8;have cS9 := Mc.go_step HT.out HE.out e9 hF8 hI8 hn8 ha8;obtain rfl := Mc.trueV_ok c9
   simp only [List.map_cons, List.map_nil, Mc.A.den, Mc.u32, Mc.i64, ha8] at cS9
   have HR9 := hidS hR9;clear hR8 hR9 e9 c9 hF8 hI8;go_wp2_with fail;refine cS9.mono ?_
   rintro e w13 ⟨s9, rfl, hF9, hI9, hn9, ha9⟩;have hR9 := HR9.out;clear cS9 HR9;obtain ⟨v10, H10, nm10, e10, c10, hR10⟩ := Mc.runS_cons hR9;have cS10 := Mc.go_step HT.out HE.out e10 hF9 hI9 hn9 ha9;obtain rfl := Mc.yNil_ok c10
   simp only [List.map_cons, List.map_nil, Mc.A.den, Mc.u32, Mc.i64, ha9, Mc.yT] at cS10
   have HR10 := hidS hR10;clear hR9 hR10 e10 c10 hF9 hI9;go_wp2_with fail;refine cS10.mono ?_
   rintro e w14 ⟨s10, rfl, hF10, hI10, hn10, ha10⟩;have hR10 := HR10.out;clear cS10 HR10;obtain ⟨v11, H11, nm11, e11, c11, hR11⟩ := Mc.runS_cons hR10;have cS11 := Mc.go_step HT.out HE.out e11 hF10 hI10 hn10 ha10;obtain rfl := Mc.nilV_ok c11
   simp only [List.map_cons, List.map_nil, Mc.A.den, Mc.u32, Mc.i64, ha10] at cS11
   have HR11 := hidS hR11;clear hR10 hR11 e11 c11 hF10 hI10;go_wp2_with fail;refine cS11.mono ?_
   rintro e w15 ⟨s11, rfl, hF11, hI11, hn11, ha11⟩;have hR11 := HR11.out;clear cS11 HR11;obtain ⟨v12, H12, nm12, e12, c12, hR12⟩ := Mc.runS_cons hR11;have cS12 := Mc.go_step HT.out HE.out e12 hF11 hI11 hn11 ha11
   simp only [List.map_cons, List.map_nil, Mc.A.den, Mc.u32, Mc.i64, ha11] at cS12
   have HR12 := hidS hR12;clear hR11 hR12 e12 c12 hF11 hI11;go_wp2_with fail;refine cS12.mono ?_
   rintro e w16 ⟨s12, rfl, hF12, hI12, hn12, ha12⟩;have hR12 := HR12.out;clear cS12 HR12;obtain ⟨v13, H13, nm13, e13, c13, hR13⟩ := Mc.runS_cons hR12;have cS13 := Mc.go_step HT.out HE.out e13 hF12 hI12 hn12 ha12;obtain rfl := Mc.trueV_ok c13
   simp only [List.map_cons, List.map_nil, Mc.A.den, Mc.u32, Mc.i64, ha12] at cS13
   have HR13 := hidS hR13;clear hR12 hR13 e13 c13 hF12 hI12;go_wp2_with fail;refine cS13.mono ?_
   rintro e w17 ⟨s13, rfl, hF13, hI13, hn13, ha13⟩;have hR13 := HR13.out;clear cS13 HR13;go_wp2;go_ret;exact ⟨rfl, hF13.1⟩
end Go.Proofs.YtnnnljcnnapnnaaGreatDoor
