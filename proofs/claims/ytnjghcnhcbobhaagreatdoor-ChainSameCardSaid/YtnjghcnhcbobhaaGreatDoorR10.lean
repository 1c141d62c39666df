/- R10 -/
import Derived.Test.YtnjghcnhcbobhaaGreatDoorR9
import Derived.Test.YtnjghcnhcbobhaaGreatDoorMa
set_option linter.unusedVariables false
set_option linter.unusedSimpArgs false
set_option maxRecDepth 100000
set_option maxHeartbeats 4000000
namespace Go.Proofs.YtnjghcnhcbobhaaGreatDoor
open Go.RowKit
attribute [local irreducible] strOf shaF zqap padB zqbv zqb5
attribute [local irreducible] macF
def zqds (z : Nat -> Int) : Nat -> Int := zqbw ⟨#[115, 97, 112, 119, 111, 111, 100, 32, 110, 111, 100, 101]⟩ (strOf 32 z) ByteArray.empty
def zqn0 (z : Nat -> Int) : Nat -> Int := zqbw ⟨#[115, 97, 112, 119, 111, 111, 100, 32, 108, 101, 97, 102]⟩ (strOf 32 z) ByteArray.empty
def tagF (z : Nat -> Int) : Nat -> Int := zqbw ⟨#[115, 97, 112, 119, 111, 111, 100, 32, 116, 97, 103]⟩ (strOf 32 z) ByteArray.empty
def zqcr (o t p : Nat -> Int) : Nat -> Int := zqbw ⟨#[115, 97, 112, 119, 111, 111, 100, 32, 115, 116, 97, 103, 101]⟩ (strOf 32 o ++ strOf 32 t) (strOf 32 p)
def zqdr (o : Nat -> Int) (m : ByteArray) : Nat -> Int := shaF (strOf 32 o ++ m)
theorem zqz8 (z : Nat -> Int) : Bytes 32 (zqds z) := zqt4 _ _ _
theorem zqoj (name secret info : ByteArray) (w : World) (h1 : name.size <= 100000) (h2 : secret.size <= 100000) (h3 : info.size <= 100000) :
  Calls Tryz.prog 108 #[.string name, .string secret, .string info] w (Rt w (.agg (ints .u8 32 (zqbw name secret info)))) := by
 have c1 := fun W : World => zqr7 name secret W (by omega) (by omega);have c2 := fun W : World => zq8y (macF name secret) info W h3;have e : oneF (strOf 32 (macF name secret)) info = zqbw name secret info := rfl;rw [e] at c2;clear e;generalize zqbw name secret info = L at *;generalize macF name secret = M at *;have hG := Grew.refl w;have fr : True := trivial
 go_enter Tryz.func108, Tryz.ntmps108
 go_wp2_with fail;generalize hW : w.alloc (.cells (ints .u8 32 (zqe)) 43) = w1;replace fr : zqd w1 (w.heap.size) = some (.cells (ints .u8 32 (zqe)) 43) := zqs hW;replace hG : Below w.heap.size w w1 := zqak hW;clear hW;have lfr := zqa fr;go_wp2_with fail
 (refine (c1 _).mono ?_; rintro e w2 ⟨rfl, hb⟩; replace fr := zqc hb fr; have lfr := zqa fr; replace hG : Below w.heap.size w w2 := Grew.trans (by exact zqf) hb; clear hb)
 go_wp2_with fail
 (refine (c2 _).mono ?_; rintro e w3 ⟨rfl, hb⟩; replace fr := zqc hb fr; have lfr := zqa fr; replace hG : Below w.heap.size w w3 := Grew.trans (by exact zqf) hb; clear hb)
 go_wp2;refine zqaf rfl _ 43 _ (0, 0) _ rfl (zqr _ fr) Tryz.underlying43 rfl (by rw [zqj]; kernel_rfl) rfl ⟨rfl, by exact zqf⟩
theorem zqw1 (z : Nat -> Int) (w : World) :
  Calls Tryz.prog 79 #[.agg (ints .u8 32 z)] w (Rt w (.agg (ints .u8 32 (tagF z)))) := by
 have c1 := fun W : World => zqek z W;have c2 : ∀ W : World, Calls Tryz.prog 108 #[.string ⟨#[115, 97, 112, 119, 111, 111, 100, 32, 116, 97, 103]⟩, .string (strOf 32 z), .string ⟨#[]⟩] W (Rt W (.agg (ints .u8 32 (tagF z)))) := fun W => zqoj ⟨#[115, 97, 112, 119, 111, 111, 100, 32, 116, 97, 103]⟩ (strOf 32 z) ByteArray.empty W (by decide) (by rw [zq1]; decide) (by decide);generalize tagF z = L at *;generalize strOf 32 z = Z at *;have hG := Grew.refl w;have fk : True := trivial;have fr : True := trivial
 go_enter Tryz.func79, Tryz.ntmps79
 go_wp2_with fail;generalize hW : (w.alloc (.cells (ints .u8 32 (z)) 43)).alloc (.cells (ints .u8 32 (zqe)) 43) = w1;replace fk : zqd w1 (w.heap.size) = some (.cells (ints .u8 32 (z)) 43) := zqs hW;replace fr : zqd w1 (w.heap.size + 1) = some (.cells (ints .u8 32 (zqe)) 43) := zqs hW;replace hG : Below w.heap.size w w1 := zqak hW;clear hW;have lfk := zqa fk;have lfr := zqa fr;go_wp2_with fail
 (refine (c1 _).mono ?_; rintro e w2 ⟨rfl, hb⟩; replace fk : zqd w2 (w.heap.size) = some (.cells (ints .u8 32 (z)) 43) := zqc hb (by exact zqh); have lfk := zqa fk; replace fr : zqd w2 (w.heap.size + 1) = some (.cells (ints .u8 32 (zqe)) 43) := zqc hb (by exact zqh); have lfr := zqa fr; replace hG : Below w.heap.size w w2 := Grew.trans (by exact zqf) hb; clear hb)
 go_wp2_with fail
 (refine (c2 _).mono ?_; rintro e w3 ⟨rfl, hb⟩; replace fk : zqd w3 (w.heap.size) = some (.cells (ints .u8 32 (z)) 43) := zqc hb (by exact zqh); have lfk := zqa fk; replace fr : zqd w3 (w.heap.size + 1) = some (.cells (ints .u8 32 (zqe)) 43) := zqc hb (by exact zqh); have lfr := zqa fr; replace hG : Below w.heap.size w w3 := Grew.trans (by exact zqf) hb; clear hb)
 go_wp2;refine zqaf rfl _ 43 _ (0, 0) _ rfl (zqr _ fr) Tryz.underlying43 rfl (by rw [zqj]; kernel_rfl) rfl ⟨rfl, by exact zqf⟩
theorem zqoq (o t p : Nat -> Int) (w : World) :
  Calls Tryz.prog 78 #[.agg (ints .u8 32 o), .agg (ints .u8 32 t), .agg (ints .u8 32 p)] w (Rt w (.agg (ints .u8 32 (zqcr o t p)))) := by
 have c1 := fun W : World => zqek o W;have c2 := fun W : World => zqek t W;have c3 := fun W : World => zqek p W;have hf : zqgv (strOf 32 o) (strOf 32 t) := by show _ + _ <= _; rw [zq1, zq1]; decide
 have c4 : ∀ W : World, Calls Tryz.prog 108 #[.string ⟨#[115, 97, 112, 119, 111, 111, 100, 32, 115, 116, 97, 103, 101]⟩, .string (strOf 32 o ++ strOf 32 t), .string (strOf 32 p)] W (Rt W (.agg (ints .u8 32 (zqcr o t p)))) := fun W => zqoj ⟨#[115, 97, 112, 119, 111, 111, 100, 32, 115, 116, 97, 103, 101]⟩ (strOf 32 o ++ strOf 32 t) (strOf 32 p) W (by decide) (by rw [ByteArray.size_append, zq1, zq1]; decide) (by rw [zq1]; decide);generalize zqcr o t p = L at *;generalize strOf 32 o = O1 at *;generalize strOf 32 t = T1 at *;generalize strOf 32 p = P1 at *;have hG := Grew.refl w;have fo : True := trivial;have ft : True := trivial;have fp : True := trivial;have fr : True := trivial
 go_enter Tryz.func78, Tryz.ntmps78
 go_wp2_with fail;generalize hW : (((w.alloc (.cells (ints .u8 32 (o)) 43)).alloc (.cells (ints .u8 32 (t)) 43)).alloc (.cells (ints .u8 32 (p)) 43)).alloc (.cells (ints .u8 32 (zqe)) 43) = w1;replace fo : zqd w1 (w.heap.size) = some (.cells (ints .u8 32 (o)) 43) := zqs hW;replace ft : zqd w1 (w.heap.size + 1) = some (.cells (ints .u8 32 (t)) 43) := zqs hW;replace fp : zqd w1 (w.heap.size + 1 + 1) = some (.cells (ints .u8 32 (p)) 43) := zqs hW;replace fr : zqd w1 (w.heap.size + 1 + 1 + 1) = some (.cells (ints .u8 32 (zqe)) 43) := zqs hW;replace hG : Below w.heap.size w w1 := zqak hW;clear hW;have lfo := zqa fo;have lft := zqa ft;have lfp := zqa fp;have lfr := zqa fr;go_wp2_with fail
 ((first | (with_reducible refine zqa2 8 zqb zqb zqb zqb zqb ?_) | refine zqar 8 zqb zqb zqb zqb zqb ?_); simp only [List.take_succ_cons, List.take_zero]; (repeat (first | go_big_quiet_skip | (go_big_quiet_want; go_big_quiet_op; first | go_big_quiet_on | (apply Exists.intro; refine ⟨fun _ => ?_, ?_⟩; (focus (first | (with_reducible exact Calls.of_more (c1 _)) | (with_reducible exact Calls.of_more (c2 _)) | (with_reducible exact Calls.of_more (c3 _)) | (with_reducible exact Calls.of_more (c4 _)))); go_big_quiet_on)))); refine wpQuiet_nil ?_; rintro _ ⟨mq, rfl⟩)
 (refine zqu (i := 8) (fuel := 0) zqb rfl ?_; intro K hK; go_simp; refine hK _ _ ?_; clear hK K)
 (refine wpAny_done zqb ?_ _)
 go_wp2;refine zqaf rfl _ 43 _ (0, 0) _ rfl (zqq _ (zqr _ fr)) Tryz.underlying43 rfl (by rw [zqj]; kernel_rfl) rfl ⟨rfl, by exact zqf⟩
theorem zqrn (o : Nat -> Int) (m : ByteArray) (w : World) (hm : m.size <= 100000) :
  Calls Tryz.prog 77 #[.agg (ints .u8 32 o), .string m] w (Rt w (.agg (ints .u8 32 (zqdr o m)))) := by
 have c1 := fun W : World => zqek o W;have hf : zqgv (strOf 32 o) m := by show _ + _ <= _; rw [zq1]; omega
 have c4 : ∀ W : World, Calls Tryz.prog 107 #[.string (strOf 32 o ++ m)] W (Rt W (.agg (ints .u8 32 (zqdr o m)))) := fun W => zqhq (strOf 32 o ++ m) W (by rw [ByteArray.size_append, zq1]; omega);generalize zqdr o m = L at *;generalize strOf 32 o = O1 at *;have hG := Grew.refl w;have fo : True := trivial;have fr : True := trivial
 go_enter Tryz.func77, Tryz.ntmps77
 go_wp2_with fail;generalize hW : (w.alloc (.cells (ints .u8 32 (o)) 43)).alloc (.cells (ints .u8 32 (zqe)) 43) = w1;replace fo : zqd w1 (w.heap.size) = some (.cells (ints .u8 32 (o)) 43) := zqs hW;replace fr : zqd w1 (w.heap.size + 1) = some (.cells (ints .u8 32 (zqe)) 43) := zqs hW;replace hG : Below w.heap.size w w1 := zqak hW;clear hW;have lfo := zqa fo;have lfr := zqa fr;go_wp2_with fail
 (refine (c1 _).mono ?_; rintro e w2 ⟨rfl, hb⟩; replace fo : zqd w2 (w.heap.size) = some (.cells (ints .u8 32 (o)) 43) := zqc hb (by exact zqh); have lfo := zqa fo; replace fr : zqd w2 (w.heap.size + 1) = some (.cells (ints .u8 32 (zqe)) 43) := zqc hb (by exact zqh); have lfr := zqa fr; replace hG : Below w.heap.size w w2 := Grew.trans (by exact zqf) hb; clear hb)
 go_wp2_with fail
 (refine (c4 _).mono ?_; rintro e w3 ⟨rfl, hb⟩; replace fo : zqd w3 (w.heap.size) = some (.cells (ints .u8 32 (o)) 43) := zqc hb (by exact zqh); have lfo := zqa fo; replace fr : zqd w3 (w.heap.size + 1) = some (.cells (ints .u8 32 (zqe)) 43) := zqc hb (by exact zqh); have lfr := zqa fr; replace hG : Below w.heap.size w w3 := Grew.trans (by exact zqf) hb; clear hb)
 go_wp2;refine zqaf rfl _ 43 _ (0, 0) _ rfl (zqr _ fr) Tryz.underlying43 rfl (by rw [zqj]; kernel_rfl) rfl ⟨rfl, by exact zqf⟩
end Go.Proofs.YtnjghcnhcbobhaaGreatDoor
namespace Go.Proofs.YtnjghcnhcbobhaaGreatDoor
open Go.RowKit
theorem zq3s : same 32 (zqds (upd zqe 0 1)) (zqn0 (upd zqe 0 1)) = false := by
 have h : (zqds (upd zqe 0 1) 0 == zqn0 (upd zqe 0 1) 0) = false := by decide +kernel
 cases e : same 32 (zqds (upd zqe 0 1)) (zqn0 (upd zqe 0 1)) with
 | false => rfl
 | true =>
  have := (same_iff _ _ _).1 e 0 (by decide);rw [this] at h
  simp at h
attribute [local irreducible] strOf shaF zqap padB zqbv zqb5
attribute [local irreducible] macF
attribute [local irreducible] zqbw oneF zqds zqn0 tagF zqcr zqdr
def zrlq : Prop := ∀ (z : Nat -> Int) (W : World), Bytes 32 z -> Tabs W -> Calls Tryz.prog 207 #[.agg (ints .u8 32 z)] W (Rt W (.agg (ints .u8 32 (zqds z))))
def zrlk : Prop := ∀ (z : Nat -> Int) (W : World), Bytes 32 z -> Tabs W -> Calls Tryz.prog 240 #[.agg (ints .u8 32 z)] W (Rt W (.agg (ints .u8 32 (zqn0 z))))
def zqdj (v : Value) : Sem Next := do pure (.value (<- Instr.build 44 #[(0, v)]))
@[go_sem ↓ high] theorem zrlf (ρ : Operand -> Value) (dd : Option Tmp) (x : Operand) (t : TypeId) (pos : String) (af : Array Edge) (gg : Option (Nat × Bool)) :
  execOp ρ ⟨dd, .build 44 #[(0, x)], t, pos, af, gg⟩ = zqdj (ρ x) := by simp [execOp, zqdj]
@[go_sem high] theorem zrgt (ρ : Operand -> Value) (dd : Option Tmp) (x : Operand) (t : TypeId) (pos : String) (af : Array Edge) (gg : Option (Nat × Bool)) :
  execOp ρ ⟨dd, .build 44 #[(0, x)], t, pos, af, gg⟩ = zqdj (ρ x) := by simp [execOp, zqdj]
@[go_sem] theorem zrny (w : World) : (zqdj (.int .u8 1)).run Tryz.prog w = .ok (.value (.agg (ints .u8 32 (upd zqe 0 1)))) w := by kernel_rfl
attribute [irreducible] zqdj
theorem zqsk (z M L : Nat -> Int) (w : World) (hT : Tabs w) (hz : z = upd zqe 0 1) (hs : same 32 M L = false) (c1 : ∀ W : World, Tabs W -> Calls Tryz.prog 207 #[.agg (ints .u8 32 z)] W (Rt W (.agg (ints .u8 32 M)))) (c2 : ∀ W : World, Tabs W -> Calls Tryz.prog 240 #[.agg (ints .u8 32 z)] W (Rt W (.agg (ints .u8 32 L)))) (aw : ∀ W : World, Tabs W -> Calls Tryz.prog 239 #[] W (Rt W (.bool true))) :
  Calls Tryz.prog 238 #[] w (Rt w (.bool true)) := by
 subst hz;have hTT : Hid (Tabs w) := hT;clear hT;have hG := Grew.refl w
 go_enter Tryz.func238, Tryz.ntmps238
 go_wp2_with fail
 (refine (aw _ (hTT.out.later hG)).mono ?_; rintro e w1 ⟨rfl, hb⟩; replace hG : Below w.heap.size w w1 := Grew.trans (by exact zqf) hb; clear hb)
 go_wp2_with fail
 (refine (c1 _ (hTT.out.later hG)).mono ?_; rintro e w2 ⟨rfl, hb⟩; replace hG : Below w.heap.size w w2 := Grew.trans (by exact zqf) hb; clear hb)
 go_wp2_with fail
 (refine (c2 _ (hTT.out.later hG)).mono ?_; rintro e w3 ⟨rfl, hb⟩; replace hG : Below w.heap.size w w3 := Grew.trans (by exact zqf) hb; clear hb)
 go_wp2;go_ret;exact ⟨rfl, by exact zqf⟩
theorem zqtz (hN : zrlq) (hL : zrlk) (aw : ∀ W : World, Tabs W -> Calls Tryz.prog 239 #[] W (Rt W (.bool true))) (w : World) (hT : Tabs w) :
  Calls Tryz.prog 238 #[] w (Rt w (.bool true)) := zqsk _ _ _ w hT rfl zq3s (fun W h => hN _ W (fun i hi => by unfold upd zqe; split <;> omega) h) (fun W h => hL _ W (fun i hi => by unfold upd zqe; split <;> omega) h) aw
attribute [local irreducible] catS
end Go.Proofs.YtnjghcnhcbobhaaGreatDoor
