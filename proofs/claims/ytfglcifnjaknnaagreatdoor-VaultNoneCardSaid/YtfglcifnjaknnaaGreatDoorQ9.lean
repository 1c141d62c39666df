/- Q9 -/
import Derived.Test.YtfglcifnjaknnaaGreatDoorR9
import Derived.Test.YtfglcifnjaknnaaGreatDoorMa
import Derived.Test.YtfglcifnjaknnaaGreatDoorBu
import Derived.Test.YtfglcifnjaknnaaGreatDoorR10
set_option linter.unusedVariables false
set_option linter.unusedSimpArgs false
set_option maxRecDepth 100000
set_option maxHeartbeats 4000000
namespace Go.Proofs.YtfglcifnjaknnaaGreatDoor
open Go.RowKit
attribute [local irreducible] strOf shaF zqcd padB zqc0 zqbv
attribute [local irreducible] macF
theorem zqsq (salt secret : ByteArray) (w : World) (h1 : salt.size <= 100000) (h2 : secret.size <= 100000) (hT : Tabs w) :
  Calls Tryz.prog 157 #[.string salt, .string secret] w (Rt w (.agg (ints .u8 32 (macF salt secret)))) := by
 have hTT : Hid (Tabs w) := hT;clear hT;have hm := fun g W => zq0y salt secret g W (by omega) (by omega);generalize macF salt secret = M at *;clear h1 h2;have hG := Grew.refl w;have fr : True := trivial;have fx : True := trivial
 go_enter Tryz.func157, Tryz.ntmps157
 go_wp2_with fail;generalize hW : (w.alloc (.cells (ints .u8 32 (zqd)) 29)).alloc (.cells #[.string secret] 9) = w1;replace fr : zqe w1 (w.heap.size) = some (.cells (ints .u8 32 (zqd)) 29) := zqs hW;replace fx : zqe w1 (w.heap.size + 1) = some (.cells #[.string secret] 9) := zqs hW;replace hG : Below w.heap.size w w1 := zqam hW;clear hW;have lfr := zqa fr;have lfx := zqa fx;go_wp2_with fail
 (refine (hm _ _ (zqg0 fx) (hTT.out.later hG)).mono ?_; rintro e w2 ⟨rfl, hb⟩; replace fr : zqe w2 (w.heap.size) = some (.cells (ints .u8 32 (zqd)) 29) := zqc hb (by exact zqh); have lfr := zqa fr; replace fx : zqe w2 (w.heap.size + 1) = some (.cells #[.string secret] 9) := zqc hb (by exact zqh); have lfx := zqa fx; replace hG : Below w.heap.size w w2 := Grew.trans (by exact zqf) hb; clear hb)
 go_wp2;refine zqag rfl _ 29 _ (0, 0) _ rfl (zqq _ fr) Tryz.underlying29 rfl (by rw [zqi]; kernel_rfl) rfl ⟨rfl, by exact zqf⟩
theorem zqnc (k : Nat -> Int) (info : ByteArray) (n : Int) (w : World) (hi : info.size <= 100000) (hT : Tabs w) :
  Calls Tryz.prog 173 #[.agg (ints .u8 32 k), .string info, .int .i64 n] w (Rt w (.tuple #[.string (if 0 <= n /\ n <= 8160 then strOf n.toNat (zqfd (strOf 32 k) info) else ByteArray.empty), .bool (decide (0 <= n /\ n <= 8160))])) := by
 by_cases hn : 0 <= n /\ n <= 8160
 case neg =>
  rw [if_neg hn, decide_eq_false hn]
  by_cases h0 : 0 <= n
  ·have h1 : 8160 < n := by omega
   have hG := Grew.refl w
   go_enter Tryz.func173, Tryz.ntmps173
   go_wp2;go_ret2;exact ⟨rfl, by exact zqf⟩
  ·have h1 : n < 0 := by omega
   have hG := Grew.refl w
   go_enter Tryz.func173, Tryz.ntmps173
   go_wp2;go_ret2;exact ⟨rfl, by exact zqf⟩
 have hTT : Hid (Tabs w) := hT;clear hT;rw [if_pos hn, decide_eq_true hn];obtain ⟨hn0, hn1⟩ := hn;obtain ⟨N, rfl⟩ := Int.eq_ofNat_of_zero_le hn0;have eN : ((N : Int)).toNat = N := by omega
 rw [eN];have hK : (strOf 32 k).size = 32 := zq5 _ _;have hKK : Hid (strOf 32 k = strOf 32 k) := rfl;have hS0 : Hid (strOf (32 * 0) (zqfd (strOf 32 k) info) = ByteArray.empty) := zqi6 _;have hSn : Hid (∀ m, strOf (32 * m) (zqfd (strOf 32 k) info) ++ tB (strOf 32 k) info (m + 1) = strOf (32 * (m + 1)) (zqfd (strOf 32 k) info)) := zqqf _ _;have hSz : Hid (∀ m, (strOf m (zqfd (strOf 32 k) info)).size = m) := fun m => zq5 _ _;have hSf : Hid (∀ m, N <= m -> (strOf m (zqfd (strOf 32 k) info)).extract 0 N = strOf N (zqfd (strOf 32 k) info)) := fun m h => zqr4 m N _ (zqjb _ _) h;have hT0 : Hid (tB (strOf 32 k) info 0 = ByteArray.empty) := rfl;have hTs : Hid (∀ m, (tB (strOf 32 k) info m).size <= 32) := zrlp _ _;have hT1 : Hid (∀ m, (tB (strOf 32 k) info (m + 1)).size = 32) := zqk3 _ _
 have hTm : Hid (∀ m, tB (strOf 32 k) info (m + 1) = strOf 32 (macF (strOf 32 k) (tB (strOf 32 k) info m ++ info ++ zqmb (m + 1)))) := fun m => rfl;generalize hst : zqfd (strOf 32 k) info = st at *;generalize htb : tB (strOf 32 k) info = tb at *;obtain ⟨K, hKe⟩ : ∃ K, Hid (strOf 32 k = K) := ⟨_, rfl⟩
 rw [hKe.out] at hK hTm;clear hst htb hn0 hKK;have hG := Grew.refl w;have fk : True := trivial;have fb : True := trivial
 go_enter Tryz.func173, Tryz.ntmps173
 go_wp2_with fail;generalize hW : (w.alloc (.cells (ints .u8 32 (k)) 29)).alloc (.cells #[.pointer none, .slice none 0 0] 245) = w1;replace fk : zqe w1 (w.heap.size) = some (.cells (ints .u8 32 (k)) 29) := zqs hW;replace fb : zqe w1 (w.heap.size + 1) = some (.cells #[.pointer none, .slice none 0 0] 245) := zqs hW;replace hG : Below w.heap.size w w1 := zqam hW;clear hW;have lfk := zqa fk;have lfb := zqa fb;have hB : BldAt w1 (w.heap.size + 1) ByteArray.empty := zqy2 fb;have lgb : w.heap.size < w.heap.size + 1 := by omega
 have lwb : w.heap.size <= w.heap.size + 1 := by omega
 clear fb lfb
 go_loopw [9, 10, 11] (fun l i _ wr => ∃ m : Nat, 32 * m <= N + 31 /\ i = .int .i64 ((m + 1 : Nat) : Int) /\ l = .string (tb m) /\ Below w.heap.size w wr /\ zqe wr w.heap.size = some (.cells (ints .u8 32 (k)) 29) /\ Hid (BldAt wr (w.heap.size + 1) (strOf (32 * m) st))) (fun _ i _ _ => N + 64 - 32 * (intOf i).toNat)
 case atStart => exact ⟨0, by omega, rfl, by rw [hT0.out]; rfl, hG, fk, by rw [hS0.out]; exact hB⟩
 case round =>
  clear hG fk lfk hB;obtain ⟨m, hm, rfl, rfl, hG, fk, hB⟩ := hrel;have lfk := zqa fk;have hsz := hSz.out (32 * m);have hsl : ((strOf (32 * m) st).size : Int) = 32 * (m : Int) := by rw [hsz]; omega
  by_cases hlt : 32 * m < N
  ·have hi0 : (32 : Int) * (m : Int) < (N : Int) := by omega
   have cM : ∀ (g : Nat) (W : World), StrsAt W (some ⟨g, 0, none⟩) 3 (zqnv (tb m) info (zqmb (m + 1))) -> Tabs W -> Calls Tryz.prog 78 #[.string K, .slice (some ⟨g, 0, none⟩) 3 3] W (Rt W (.agg (ints .u8 32 (macF K (tb m ++ info ++ zqmb (m + 1)))))) := fun g W => zq1l K (tb m) info (zqmb (m + 1)) g W (by omega) (by have := hTs.out m; rw [zqv4]; omega);have hnx := hSn.out m;have hTme := hTm.out m;have hz1 := hT1.out m;generalize macF K (tb m ++ info ++ zqmb (m + 1)) = M at *;obtain ⟨T2, hT2⟩ : ∃ T2, Hid (tb (m + 1) = T2) := ⟨_, rfl⟩
   rw [hT2.out] at hnx hTme hz1;have hTM : Hid (strOf 32 M = T2) := hTme.symm;generalize tb m = T1 at *;obtain ⟨S2, hS2⟩ : ∃ S2, Hid (strOf (32 * (m + 1)) st = S2) := ⟨_, rfl⟩
   rw [hS2.out] at hnx;have hNX : Hid (strOf (32 * m) st ++ T2 = S2) := hnx;generalize strOf (32 * m) st = S1 at *;have hck := fun q : More => zqdj (P := Tryz.prog) (src := 157) (dst := 9) Tryz.underlying157 Tryz.underlying5 Tryz.underlying9 w.heap.size 32 32 32 k (more wr q) (zqp q fk) (by omega);rw [hKe.out] at hck;clear hS0 hSn hSz hSf hT0 hTs hT1 hTm hnx hTme;go_wp2_with fail;refine (zq0v hB.out).mono ?_
   rintro e W1 ⟨rfl, rfl⟩;go_wp2_with fail
   (refine zqhj zqb zqb ?_; (repeat (first | refine zqv rfl ?_ | (refine zqn rfl ?_; apply Exists.intro))); refine zqbt ?_; intro γ hinj hbase; (repeat (first | (refine zqx rfl ?_; (refine zAa ?_)) | ((first | refine zqm rfl (fun _ => rfl) ?_ | (refine zAf ?_) | (refine zAd ?_) | ((try simp only [Nat.zero_add, Nat.reduceAdd]); apply zqbj zqy; (focus rfl); (focus (intro W; simp only [List.map_toArray, List.map_cons, List.map_nil]; first | (with_reducible exact zqsj _ W) | (with_reducible exact zqst _ _ _ W) | exact zqsj _ W | exact zqst _ _ _ W)); (focus (exact zq7))) | (apply zqaa; (focus rfl); (focus rfl); (focus rfl); (focus (intro W hC hF; (have hGW : Below w.heap.size w W := (by obtain ⟨mm, rfl⟩ := hC; exact Grew.more hG mm); (try (have hcv := fun mm => zra6 (i := m + 1) (known hF (List.mem_cons_self ..) (by decide +kernel)) (by omega) mm)); (try (have hE : StrsAt W (some ⟨γ 8, 0, none⟩) 3 (zqnv T1 info (zqmb (m + 1))) := zqx6 (known hF (List.mem_cons_self ..) (by decide +kernel))))); go_big_quiet_want; go_big_quiet_op; (first | go_big_quiet_on | (apply Exists.intro; refine ⟨fun _ => ?_, ?_⟩; (focus (first | (with_reducible exact Calls.of_more (cM _ _ (hE.later (zqo W _)) (hTT.out.later (Grew.trans hGW (zqo W _))))))); go_big_quiet_on)); exact wpQuiet_nil rfl)); (focus (first | exact fun _ => ⟨rfl, rfl⟩ | exact fun h => absurd h (by decide))))); (refine zAa ?_)) | refine zql rfl (fun _ => rfl) ?_ | (refine zAc ?_))))
   (refine zqce ?_; rintro _ ⟨mq, rfl⟩ hF; simp only [List.forall_mem_cons] at hF; obtain ⟨f12, -⟩ := hF)
   have f12' : zqe (more W1 mq) (γ 10) = some (.cells (ints .u8 32 (M)) 29) := f12;replace fk : zqe (more W1 mq) w.heap.size = some (.cells (ints .u8 32 (k)) 29) := zqp _ fk;replace hG : Below w.heap.size w (more W1 mq) := Grew.more hG _;replace hB : Hid (BldAt (more W1 mq) (w.heap.size + 1) S1) := hB.out.later (zqo W1 _);clear hinj hbase hck f12 lfk;generalize γ 10 = g12 at *;generalize γ 8 = g9 at *;generalize γ 6 = g7 at *;generalize more W1 mq = w9 at *;have hc := zqdj (P := Tryz.prog) (src := 157) (dst := 9) Tryz.underlying157 Tryz.underlying5 Tryz.underlying9 g12 32 32 32 M w9 f12' (by omega);rw [hTM.out] at hc;go_wp2_with fail
   (try rw [hc])
   go_wp2_with fail;refine (zqqt T2 hB.out (by omega)).mono ?_
   rintro e W2 ⟨rfl, hB2, hb2⟩;rw [hNX.out] at hB2;replace fk : zqe W2 w.heap.size = some (.cells (ints .u8 32 (k)) 29) := (hb2.block _ lgb).trans fk;replace hG : Below w.heap.size w W2 := hG.trans (hb2.mono lwb);clear hb2 f12' hc hB;go_wp2
   go_roundw
   case rel => exact ⟨m + 1, by omega, by go_num, by rw [hT2.out], hG, fk, by rw [hS2.out]; exact hB2⟩
   case measure => simp [intOf]; omega
  ·have hge : N <= 32 * m := by omega
   have hi0 : ¬ ((32 : Int) * (m : Int) < (N : Int)) := by omega
   have hex := hSf.out (32 * m) hge;have hle : (N : Int) <= 32 * (m : Int) := by omega
   have hN0 : (0 : Int) <= (N : Int) := by omega
   clear hSf hSz hSn hTm hTs hT1 hT0 hS0;go_wp2_with fail;refine (zq0v hB.out).mono ?_
   rintro e W1 ⟨rfl, rfl⟩;go_wp2_with fail;refine (zqhd hB.out).mono ?_
   rintro e W2 ⟨rfl, hb2⟩;replace hG : Below w.heap.size w W2 := hG.trans (hb2.mono lwb);go_wp2;go_ret2
   first | exact ⟨by rw [<- hex]; rfl, hG⟩ | exact ⟨by rw [<- hex], hG⟩
theorem zrbv : zqn7 := fun k info n W hk hi hT => zqnc k info n W hi hT
theorem zqwn (O : Nat -> Int) (hO : Bytes 32 O) (ty : TypeId) (g C : Nat) (w : World) (A : Nat -> Int) (t : TypeId) (h : zqe w g = some (.cells (ints .u8 32 A) t (0, 0))) :
  zqk5 Tryz.prog ty g 0 32 C (strOf 32 O) w (some (.cells (ints .u8 32 A) t (0, 0))) = .ok (.value (.int .i64 32)) (w.setRow g (ints .u8 32 O)) := by
 have hz : (strOf 32 O).size = 32 := zq5 _ _;unfold zqk5 zqej;unfold zqe at h;have hr := zqft (P := Tryz.prog) w 157 9 ty 5 g 0 32 C 32 (strOf 32 O) _ t Tryz.underlying157 zqb h (by rw [hz]; decide) (by rw [zqi]; decide);have l2 : (List.map (fun b : UInt8 => Value.int .u8 b.toNat) (strOf 32 O).data.toList).length = 32 := by
  rw [List.length_map];exact hz
 have e : ((ints .u8 32 A).toList.take 0 ++ (List.map (fun b : UInt8 => Value.int .u8 b.toNat) (strOf 32 O).data.toList).take 32 ++ (ints .u8 32 A).toList.drop (0 + 32)).toArray = ints .u8 32 O := by
  have e3 : (ints .u8 32 A).toList.drop (0 + 32) = [] := List.drop_eq_nil_of_le (by rw [Array.length_toList, zqi]; omega);rw [e3, List.take_zero, List.nil_append, List.append_nil, List.take_of_length_le (by omega)]
  apply Array.ext (by rw [zqi]; simpa using l2)
  intro i h1 h2;rw [zqi] at h2;have h3 : i < (strOf 32 O).size := by omega
  have := zqd6 32 O i h2 (hO i h2);rw [<- zqdr _ i h3] at this
  simp only [List.getElem_toArray, List.getElem_map]
  have e4 := zqal .u8 32 O i h2;rw [Array.getElem?_eq_getElem (by rw [zqi]; exact h2)] at e4;rw [Option.some.inj e4, <- this]
  rfl
 rw [e] at hr
 simp only [Sem.run_bind, hr, Result.andThen_ok, Sem.run_pure]
 rfl
theorem one_any (k : Nat -> Int) (info : ByteArray) (w : World) (hi : info.size <= 100000) (hT : Tabs w) :
  Calls Tryz.prog 156 #[.agg (ints .u8 32 k), .string info] w (Rt w (.agg (ints .u8 32 (oneF (strOf 32 k) info)))) := by
 have hTT : Hid (Tabs w) := hT;clear hT;have c1 : ∀ W : World, Tabs W -> Calls Tryz.prog 173 #[.agg (ints .u8 32 k), .string info, .int .i64 32] W (Rt W (.tuple #[.string (strOf 32 (oneF (strOf 32 k) info)), .bool true])) := fun W h => by
  have := zqnc k info 32 W hi h;rw [if_pos ⟨by decide, by decide⟩, decide_eq_true ⟨by decide, by decide⟩, show ((32 : Int)).toNat = 32 from rfl, zq5y] at this;exact this
 have hcp := zqwn (oneF (strOf 32 k) info) (zqqy _ _);generalize oneF (strOf 32 k) info = O at *;have hG := Grew.refl w;have fk : True := trivial;have fr : True := trivial;have fo : True := trivial
 go_enter Tryz.func156, Tryz.ntmps156
 go_wp2_with fail;generalize hW : ((w.alloc (.cells (ints .u8 32 (k)) 29)).alloc (.cells (ints .u8 32 (zqd)) 29)).alloc (.cells (ints .u8 32 (zqd)) 29) = w1;replace fk : zqe w1 (w.heap.size) = some (.cells (ints .u8 32 (k)) 29) := zqs hW;replace fr : zqe w1 (w.heap.size + 1) = some (.cells (ints .u8 32 (zqd)) 29) := zqs hW;replace fo : zqe w1 (w.heap.size + 1 + 1) = some (.cells (ints .u8 32 (zqd)) 29) := zqs hW;replace hG : Below w.heap.size w w1 := zqam hW;clear hW;have lfk := zqa fk;have lfr := zqa fr;have lfo := zqa fo;go_wp2_with fail
 (refine (c1 _ (hTT.out.later hG)).mono ?_; rintro e w2 ⟨rfl, hb⟩; replace fk : zqe w2 (w.heap.size) = some (.cells (ints .u8 32 (k)) 29) := zqc hb (by exact zqh); have lfk := zqa fk; replace fr : zqe w2 (w.heap.size + 1) = some (.cells (ints .u8 32 (zqd)) 29) := zqc hb (by exact zqh); have lfr := zqa fr; replace fo : zqe w2 (w.heap.size + 1 + 1) = some (.cells (ints .u8 32 (zqd)) 29) := zqc hb (by exact zqh); have lfo := zqa fo; replace hG : Below w.heap.size w w2 := Grew.trans (by exact zqf) hb; clear hb)
 have nro : ¬ (w.heap.size + 1 = w.heap.size + 1 + 1) := by omega
 have nor : ¬ (w.heap.size + 1 + 1 = w.heap.size + 1) := by omega
 go_wp2;refine zqag rfl _ 29 _ (0, 0) _ rfl (zqq _ (zqk _ _ fr (by omega))) Tryz.underlying29 rfl (by rw [zqi]; kernel_rfl) rfl ⟨rfl, by exact zqf⟩
end Go.Proofs.YtfglcifnjaknnaaGreatDoor
namespace Go.Proofs.YtfglcifnjaknnaaGreatDoor
open Go.RowKit
theorem zq5c (name secret info : ByteArray) : oneF (strOf 32 (macF name secret)) info = zqbw name secret info := rfl
theorem zra7 (z : Nat -> Int) : zqbw ⟨#[115, 97, 112, 119, 111, 111, 100, 32, 110, 111, 100, 101]⟩ (strOf 32 z) (catS (fun _ => ByteArray.empty) 0) = zqda z := rfl
theorem zrbm (z : Nat -> Int) : zqbw ⟨#[115, 97, 112, 119, 111, 111, 100, 32, 108, 101, 97, 102]⟩ (strOf 32 z) (catS (fun _ => ByteArray.empty) 0) = zqmo z := rfl
theorem zrdr (z : Nat -> Int) : zqbw ⟨#[115, 97, 112, 119, 111, 111, 100, 32, 116, 97, 103]⟩ (strOf 32 z) (catS (fun _ => ByteArray.empty) 0) = tagF z := rfl
theorem zq57 (o t p : Nat -> Int) : zqbw ⟨#[115, 97, 112, 119, 111, 111, 100, 32, 115, 116, 97, 103, 101]⟩ (strOf 32 o ++ strOf 32 t) (strOf 32 p) = zqd9 o t p := rfl
theorem zq97 (o : Nat -> Int) (m : ByteArray) : shaF (strOf 32 o ++ m) = zqf6 o m := rfl
attribute [local irreducible] strOf shaF zqcd padB zqc0 zqbv
attribute [local irreducible] macF
attribute [local irreducible] zqbw oneF zqda zqmo tagF zqd9 zqf6
theorem zqij (name secret : ByteArray) (oa : Option Addr) (n c : Nat) (F : Nat -> ByteArray) (w : World) (h1 : name.size <= 100000) (h2 : secret.size <= 100000) (h3 : (catS F n).size <= 100000) (h4 : n <= 100000) (hnc : n <= c) (hS : StrsAt w oa n F) (hT : Tabs w) :
  Calls Tryz.prog 140 #[.string name, .string secret, .slice oa n c] w (Rt w (.agg (ints .u8 32 (zqbw name secret (catS F n))))) := by
 have hTT : Hid (Tabs w) := hT;have c1 := fun (W : World) (h : Tabs W) => zqsq name secret W h1 h2 h;have c2 : ∀ W : World, Below w.heap.size w W -> Calls Tryz.prog 153 #[.slice oa n c, .string ⟨#[]⟩] W (Rt W (.string (catS F n))) := fun W hW => zqu0 oa n c F W (hS.later hW) hnc (by omega);have c3 : ∀ W : World, Tabs W -> Calls Tryz.prog 156 #[.agg (ints .u8 32 (macF name secret)), .string (catS F n)] W (Rt W (.agg (ints .u8 32 (zqbw name secret (catS F n))))) := fun W h => by
  have := one_any (macF name secret) (catS F n) W h3 h;rw [zq5c] at this;exact this
 generalize zqbw name secret (catS F n) = L at *;generalize catS F n = S at *;generalize macF name secret = M at *;clear hT hS h1 h2 h3 h4;have hG := Grew.refl w;have fr : True := trivial
 go_enter Tryz.func140, Tryz.ntmps140
 go_wp2_with fail;generalize hW : w.alloc (.cells (ints .u8 32 (zqd)) 29) = w1;replace fr : zqe w1 (w.heap.size) = some (.cells (ints .u8 32 (zqd)) 29) := zqs hW;replace hG : Below w.heap.size w w1 := zqam hW;clear hW;have lfr := zqa fr;go_wp2_with fail
 (refine (c1 _ (hTT.out.later hG)).mono ?_; rintro e w2 ⟨rfl, hb⟩; replace fr := zqc hb fr; have lfr := zqa fr; replace hG : Below w.heap.size w w2 := Grew.trans (by exact zqf) hb; clear hb)
 go_wp2_with fail
 (refine (c2 _ hG).mono ?_; rintro e w3 ⟨rfl, hb⟩; replace fr := zqc hb fr; have lfr := zqa fr; replace hG : Below w.heap.size w w3 := Grew.trans (by exact zqf) hb; clear hb)
 go_wp2_with fail
 (refine (c3 _ (hTT.out.later hG)).mono ?_; rintro e w4 ⟨rfl, hb⟩; replace fr := zqc hb fr; have lfr := zqa fr; replace hG : Below w.heap.size w w4 := Grew.trans (by exact zqf) hb; clear hb)
 go_wp2;refine zqag rfl _ 29 _ (0, 0) _ rfl (zqq _ fr) Tryz.underlying29 rfl (by rw [zqi]; kernel_rfl) rfl ⟨rfl, by exact zqf⟩
theorem zqp6 (z : Nat -> Int) (w : World) (hT : Tabs w) :
  Calls Tryz.prog 235 #[.agg (ints .u8 32 z)] w (Rt w (.agg (ints .u8 32 (zqda z)))) := by
 have hTT : Hid (Tabs w) := hT;clear hT;have c2 : ∀ W : World, Tabs W -> Calls Tryz.prog 140 #[.string ⟨#[115, 97, 112, 119, 111, 111, 100, 32, 110, 111, 100, 101]⟩, .string (strOf 32 z), .slice none 0 0] W (Rt W (.agg (ints .u8 32 (zqda z)))) := fun W h => by
  have := zqij ⟨#[115, 97, 112, 119, 111, 111, 100, 32, 110, 111, 100, 101]⟩ (strOf 32 z) none 0 0 (fun _ => ByteArray.empty) W (by decide) (by rw [zq5]; decide) (by decide) (by decide) (by decide) (zqgj _ _) h;rw [zra7] at this;exact this
 obtain ⟨Z, hZ⟩ : ∃ Z, Hid (strOf 32 z = Z) := ⟨_, rfl⟩
 rw [hZ.out] at c2;generalize zqda z = L at *;have hG := Grew.refl w;have fk : True := trivial;have fr : True := trivial
 go_enter Tryz.func235, Tryz.ntmps235
 go_wp2_with fail;generalize hW : (w.alloc (.cells (ints .u8 32 (z)) 29)).alloc (.cells (ints .u8 32 (zqd)) 29) = w1;replace fk : zqe w1 (w.heap.size) = some (.cells (ints .u8 32 (z)) 29) := zqs hW;replace fr : zqe w1 (w.heap.size + 1) = some (.cells (ints .u8 32 (zqd)) 29) := zqs hW;replace hG : Below w.heap.size w w1 := zqam hW;clear hW;have lfk := zqa fk;have lfr := zqa fr;have hc := zqdj (P := Tryz.prog) (src := 157) (dst := 9) Tryz.underlying157 Tryz.underlying5 Tryz.underlying9 w.heap.size 32 32 32 z w1 fk (by omega);rw [hZ.out] at hc
 (try rw [hc])
 go_wp2_with fail
 (refine (c2 _ (hTT.out.later hG)).mono ?_; rintro e w2 ⟨rfl, hb⟩; replace fk : zqe w2 (w.heap.size) = some (.cells (ints .u8 32 (z)) 29) := zqc hb (by exact zqh); have lfk := zqa fk; replace fr : zqe w2 (w.heap.size + 1) = some (.cells (ints .u8 32 (zqd)) 29) := zqc hb (by exact zqh); have lfr := zqa fr; replace hG : Below w.heap.size w w2 := Grew.trans (by exact zqf) hb; clear hb)
 go_wp2;refine zqag rfl _ 29 _ (0, 0) _ rfl (zqq _ fr) Tryz.underlying29 rfl (by rw [zqi]; kernel_rfl) rfl ⟨rfl, by exact zqf⟩
theorem zrj6 : zrfb := fun z W hz hT => zqp6 z W hT
theorem zqy3 (z : Nat -> Int) (w : World) (hT : Tabs w) :
  Calls Tryz.prog 246 #[.agg (ints .u8 32 z)] w (Rt w (.agg (ints .u8 32 (zqmo z)))) := by
 have hTT : Hid (Tabs w) := hT;clear hT;have c2 : ∀ W : World, Tabs W -> Calls Tryz.prog 140 #[.string ⟨#[115, 97, 112, 119, 111, 111, 100, 32, 108, 101, 97, 102]⟩, .string (strOf 32 z), .slice none 0 0] W (Rt W (.agg (ints .u8 32 (zqmo z)))) := fun W h => by
  have := zqij ⟨#[115, 97, 112, 119, 111, 111, 100, 32, 108, 101, 97, 102]⟩ (strOf 32 z) none 0 0 (fun _ => ByteArray.empty) W (by decide) (by rw [zq5]; decide) (by decide) (by decide) (by decide) (zqgj _ _) h;rw [zrbm] at this;exact this
 obtain ⟨Z, hZ⟩ : ∃ Z, Hid (strOf 32 z = Z) := ⟨_, rfl⟩
 rw [hZ.out] at c2;generalize zqmo z = L at *;have hG := Grew.refl w;have fk : True := trivial;have fr : True := trivial
 go_enter Tryz.func246, Tryz.ntmps246
 go_wp2_with fail;generalize hW : (w.alloc (.cells (ints .u8 32 (z)) 29)).alloc (.cells (ints .u8 32 (zqd)) 29) = w1;replace fk : zqe w1 (w.heap.size) = some (.cells (ints .u8 32 (z)) 29) := zqs hW;replace fr : zqe w1 (w.heap.size + 1) = some (.cells (ints .u8 32 (zqd)) 29) := zqs hW;replace hG : Below w.heap.size w w1 := zqam hW;clear hW;have lfk := zqa fk;have lfr := zqa fr;have hc := zqdj (P := Tryz.prog) (src := 157) (dst := 9) Tryz.underlying157 Tryz.underlying5 Tryz.underlying9 w.heap.size 32 32 32 z w1 fk (by omega);rw [hZ.out] at hc
 (try rw [hc])
 go_wp2_with fail
 (refine (c2 _ (hTT.out.later hG)).mono ?_; rintro e w2 ⟨rfl, hb⟩; replace fk : zqe w2 (w.heap.size) = some (.cells (ints .u8 32 (z)) 29) := zqc hb (by exact zqh); have lfk := zqa fk; replace fr : zqe w2 (w.heap.size + 1) = some (.cells (ints .u8 32 (zqd)) 29) := zqc hb (by exact zqh); have lfr := zqa fr; replace hG : Below w.heap.size w w2 := Grew.trans (by exact zqf) hb; clear hb)
 go_wp2;refine zqag rfl _ 29 _ (0, 0) _ rfl (zqq _ fr) Tryz.underlying29 rfl (by rw [zqi]; kernel_rfl) rfl ⟨rfl, by exact zqf⟩
theorem zris : zrdj := fun z W hz hT => zqy3 z W hT
theorem zq6k (z : Nat -> Int) (w : World) (hT : Tabs w) :
  Calls Tryz.prog 106 #[.agg (ints .u8 32 z)] w (Rt w (.agg (ints .u8 32 (tagF z)))) := by
 have hTT : Hid (Tabs w) := hT;clear hT;have c2 : ∀ W : World, Tabs W -> Calls Tryz.prog 140 #[.string ⟨#[115, 97, 112, 119, 111, 111, 100, 32, 116, 97, 103]⟩, .string (strOf 32 z), .slice none 0 0] W (Rt W (.agg (ints .u8 32 (tagF z)))) := fun W h => by
  have := zqij ⟨#[115, 97, 112, 119, 111, 111, 100, 32, 116, 97, 103]⟩ (strOf 32 z) none 0 0 (fun _ => ByteArray.empty) W (by decide) (by rw [zq5]; decide) (by decide) (by decide) (by decide) (zqgj _ _) h;rw [zrdr] at this;exact this
 obtain ⟨Z, hZ⟩ : ∃ Z, Hid (strOf 32 z = Z) := ⟨_, rfl⟩
 rw [hZ.out] at c2;generalize tagF z = L at *;have hG := Grew.refl w;have fk : True := trivial;have fr : True := trivial
 go_enter Tryz.func106, Tryz.ntmps106
 go_wp2_with fail;generalize hW : (w.alloc (.cells (ints .u8 32 (z)) 29)).alloc (.cells (ints .u8 32 (zqd)) 29) = w1;replace fk : zqe w1 (w.heap.size) = some (.cells (ints .u8 32 (z)) 29) := zqs hW;replace fr : zqe w1 (w.heap.size + 1) = some (.cells (ints .u8 32 (zqd)) 29) := zqs hW;replace hG : Below w.heap.size w w1 := zqam hW;clear hW;have lfk := zqa fk;have lfr := zqa fr;have hc := zqdj (P := Tryz.prog) (src := 157) (dst := 9) Tryz.underlying157 Tryz.underlying5 Tryz.underlying9 w.heap.size 32 32 32 z w1 fk (by omega);rw [hZ.out] at hc
 (try rw [hc])
 go_wp2_with fail
 (refine (c2 _ (hTT.out.later hG)).mono ?_; rintro e w2 ⟨rfl, hb⟩; replace fk : zqe w2 (w.heap.size) = some (.cells (ints .u8 32 (z)) 29) := zqc hb (by exact zqh); have lfk := zqa fk; replace fr : zqe w2 (w.heap.size + 1) = some (.cells (ints .u8 32 (zqd)) 29) := zqc hb (by exact zqh); have lfr := zqa fr; replace hG : Below w.heap.size w w2 := Grew.trans (by exact zqf) hb; clear hb)
 go_wp2;refine zqag rfl _ 29 _ (0, 0) _ rfl (zqq _ fr) Tryz.underlying29 rfl (by rw [zqi]; kernel_rfl) rfl ⟨rfl, by exact zqf⟩
theorem zqxe (o t p : Nat -> Int) (w : World) (hT : Tabs w) :
  Calls Tryz.prog 105 #[.agg (ints .u8 32 o), .agg (ints .u8 32 t), .agg (ints .u8 32 p)] w (Rt w (.agg (ints .u8 32 (zqd9 o t p)))) := by
 have hTT : Hid (Tabs w) := hT;clear hT;have hf : zqmw (strOf 32 o) (strOf 32 t) := by show _ + _ <= _; rw [zq5, zq5]; decide
 have cL : ∀ (g : Nat) (W : World), StrsAt W (some ⟨g, 0, none⟩) 1 (oneS (strOf 32 p)) -> Tabs W -> Calls Tryz.prog 140 #[.string ⟨#[115, 97, 112, 119, 111, 111, 100, 32, 115, 116, 97, 103, 101]⟩, .string (strOf 32 o ++ strOf 32 t), .slice (some ⟨g, 0, none⟩) 1 1] W (Rt W (.agg (ints .u8 32 (zqd9 o t p)))) := fun g W hS h => by
  have := zqij ⟨#[115, 97, 112, 119, 111, 111, 100, 32, 115, 116, 97, 103, 101]⟩ (strOf 32 o ++ strOf 32 t) (some ⟨g, 0, none⟩) 1 1 (oneS (strOf 32 p)) W (by decide) (by rw [ByteArray.size_append, zq5, zq5]; decide) (by rw [zqfc, zq5]; decide) (by decide) (by decide) hS h;rw [zqfc, zq57] at this;exact this
 obtain ⟨O1, hO1⟩ : ∃ O1, Hid (strOf 32 o = O1) := ⟨_, rfl⟩
 obtain ⟨T1, hT1⟩ : ∃ T1, Hid (strOf 32 t = T1) := ⟨_, rfl⟩
 obtain ⟨P1, hP1⟩ : ∃ P1, Hid (strOf 32 p = P1) := ⟨_, rfl⟩
 rw [hO1.out, hT1.out] at hf;rw [hO1.out, hT1.out, hP1.out] at cL;generalize zqd9 o t p = L at *;have hG := Grew.refl w;have fo : True := trivial;have ft : True := trivial;have fp : True := trivial;have fr : True := trivial
 go_enter Tryz.func105, Tryz.ntmps105
 go_wp2_with fail;generalize hW : (((w.alloc (.cells (ints .u8 32 (o)) 29)).alloc (.cells (ints .u8 32 (t)) 29)).alloc (.cells (ints .u8 32 (p)) 29)).alloc (.cells (ints .u8 32 (zqd)) 29) = w1;replace fo : zqe w1 (w.heap.size) = some (.cells (ints .u8 32 (o)) 29) := zqs hW;replace ft : zqe w1 (w.heap.size + 1) = some (.cells (ints .u8 32 (t)) 29) := zqs hW;replace fp : zqe w1 (w.heap.size + 1 + 1) = some (.cells (ints .u8 32 (p)) 29) := zqs hW;replace fr : zqe w1 (w.heap.size + 1 + 1 + 1) = some (.cells (ints .u8 32 (zqd)) 29) := zqs hW;replace hG : Below w.heap.size w w1 := zqam hW;clear hW;have lfo := zqa fo;have lft := zqa ft;have lfp := zqa fp;have lfr := zqa fr
 have hco := fun m : More => zqdj (P := Tryz.prog) (src := 157) (dst := 9) Tryz.underlying157 Tryz.underlying5 Tryz.underlying9 (w.heap.size) 32 32 32 o (more w1 m) (zqp m fo) (by omega);rw [hO1.out] at hco;have hct := fun m : More => zqdj (P := Tryz.prog) (src := 157) (dst := 9) Tryz.underlying157 Tryz.underlying5 Tryz.underlying9 (w.heap.size + 1) 32 32 32 t (more w1 m) (zqp m ft) (by omega);rw [hT1.out] at hct;have hcp := fun m : More => zqdj (P := Tryz.prog) (src := 157) (dst := 9) Tryz.underlying157 Tryz.underlying5 Tryz.underlying9 (w.heap.size + 1 + 1) 32 32 32 p (more w1 m) (zqp m fp) (by omega);rw [hP1.out] at hcp;go_wp2_with fail
 (refine zqsx 9 zqb zqb zqb zqb zqb ?_; simp only [List.take_succ_cons, List.take_zero]; (repeat (first | refine zqv rfl ?_ | (refine zqn rfl ?_; apply Exists.intro))); refine zqbt ?_; intro γ hinj hbase; (repeat (first | (refine zqx rfl ?_; (refine zAa ?_)) | ((first | refine zqm rfl (fun _ => rfl) ?_ | (refine zAf ?_) | (refine zAd ?_) | ((try simp only [Nat.zero_add, Nat.reduceAdd]); apply zqbj zqy; (focus rfl); (focus (intro W; simp only [List.map_toArray, List.map_cons, List.map_nil]; first | (with_reducible exact zqlp _ W) | exact zqlp _ W)); (focus (exact zq7))) | (apply zqaa; (focus rfl); (focus rfl); (focus rfl); (focus (intro W hC hF; (have hGW : Below w.heap.size w W := (by obtain ⟨mm, rfl⟩ := hC; exact Grew.more hG mm); (try (have hE : StrsAt W (some ⟨γ 7, 0, none⟩) 1 (oneS P1) := zqg0 (known hF (List.mem_cons_self ..) (by decide +kernel))))); go_big_quiet_want; go_big_quiet_op; (first | go_big_quiet_on | (apply Exists.intro; refine ⟨fun _ => ?_, ?_⟩; (focus (first | (with_reducible exact Calls.of_more (cL _ _ (hE.later (zqo W _)) (hTT.out.later (Grew.trans hGW (zqo W _))))))); go_big_quiet_on)); exact wpQuiet_nil rfl)); (focus (first | exact fun _ => ⟨rfl, rfl⟩ | exact fun h => absurd h (by decide))))); (refine zAa ?_)) | refine zql rfl (fun _ => rfl) ?_ | (refine zAc ?_))))
 (refine zqfr ?_; rintro _ ⟨mq, rfl⟩ hF; simp only [List.forall_mem_cons] at hF; obtain - := hF)
 (refine zqt (i := 9) (fuel := 0) zqb rfl ?_; intro K hK; go_simp; refine hK _ _ ?_; clear hK K)
 (refine wpAny_done zqb ?_ _)
 go_wp2;refine zqag rfl _ 29 _ (0, 0) _ rfl (zqp _ (zqq _ fr)) Tryz.underlying29 rfl (by rw [zqi]; kernel_rfl) rfl ⟨rfl, by exact zqf⟩
theorem zq1v (o : Nat -> Int) (m : ByteArray) (w : World) (hm : m.size <= 100000) (hT : Tabs w) :
  Calls Tryz.prog 104 #[.agg (ints .u8 32 o), .string m] w (Rt w (.agg (ints .u8 32 (zqf6 o m)))) := by
 have hTT : Hid (Tabs w) := hT;clear hT;have cS := fun (g : Nat) (t : TypeId) (fr : Nat × Nat) (W : World) => zq2z (strOf 32 o) m g t fr W (by rw [zq5]; omega);rw [zq97] at cS;obtain ⟨O1, hO1⟩ : ∃ O1, Hid (strOf 32 o = O1) := ⟨_, rfl⟩
 rw [hO1.out] at cS;generalize zqf6 o m = L at *;have hG := Grew.refl w;have fo : True := trivial;have fr : True := trivial
 go_enter Tryz.func104, Tryz.ntmps104
 go_wp2_with fail;generalize hW : (w.alloc (.cells (ints .u8 32 (o)) 29)).alloc (.cells (ints .u8 32 (zqd)) 29) = w1;replace fo : zqe w1 (w.heap.size) = some (.cells (ints .u8 32 (o)) 29) := zqs hW;replace fr : zqe w1 (w.heap.size + 1) = some (.cells (ints .u8 32 (zqd)) 29) := zqs hW;replace hG : Below w.heap.size w w1 := zqam hW;clear hW;have lfo := zqa fo;have lfr := zqa fr;have hc := zqdj (P := Tryz.prog) (src := 157) (dst := 9) Tryz.underlying157 Tryz.underlying5 Tryz.underlying9 w.heap.size 32 32 32 o w1 fo (by omega);rw [hO1.out] at hc
 (try rw [hc])
 go_wp2_with fail;have fx : zqe (w1.alloc (.cells #[.string O1, .string m] 9)) w1.heap.size = some (.cells #[.string O1, .string m] 9) := zqg _ _ _ rfl;replace fo : zqe (w1.alloc (.cells #[.string O1, .string m] 9)) (w.heap.size) = some (.cells (ints .u8 32 (o)) 29) := zqj _ fo;replace fr : zqe (w1.alloc (.cells #[.string O1, .string m] 9)) (w.heap.size + 1) = some (.cells (ints .u8 32 (zqd)) 29) := zqj _ fr;replace hG : Below w.heap.size w (w1.alloc (.cells #[.string O1, .string m] 9)) := Grew.alloc hG _;clear lfo lfr;generalize w1.alloc (.cells #[.string O1, .string m] 9) = w2 at *;generalize w1.heap.size = gx at *;have lfo := zqa fo;have lfr := zqa fr;have lfx := zqa fx;go_wp2_with fail
 (refine (cS _ _ _ _ fx (hTT.out.later hG)).mono ?_; rintro e w3 ⟨rfl, hb⟩; replace fo : zqe w3 (w.heap.size) = some (.cells (ints .u8 32 (o)) 29) := zqc hb (by exact zqh); have lfo := zqa fo; replace fr : zqe w3 (w.heap.size + 1) = some (.cells (ints .u8 32 (zqd)) 29) := zqc hb (by exact zqh); have lfr := zqa fr; replace fx : zqe w3 (gx) = some (.cells #[.string O1, .string m] 9) := zqc hb (by exact zqh); have lfx := zqa fx; replace hG : Below w.heap.size w w3 := Grew.trans (by exact zqf) hb; clear hb)
 go_wp2;refine zqag rfl _ 29 _ (0, 0) _ rfl (zqq _ fr) Tryz.underlying29 rfl (by rw [zqi]; kernel_rfl) rfl ⟨rfl, by exact zqf⟩
end Go.Proofs.YtfglcifnjaknnaaGreatDoor
