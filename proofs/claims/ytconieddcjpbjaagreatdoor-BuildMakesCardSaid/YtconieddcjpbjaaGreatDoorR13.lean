/- R13 -/
import Derived.Test.YtconieddcjpbjaaGreatDoorR12
import Derived.Test.YtconieddcjpbjaaGreatDoorTrk
import Derived.Test.YtconieddcjpbjaaGreatDoorRel
import Derived.Test.YtconieddcjpbjaaGreatDoorR11
import Derived.Test.YtconieddcjpbjaaGreatDoorQ13
set_option maxRecDepth 100000
set_option maxHeartbeats 4000000
namespace Go.Proofs.YtconieddcjpbjaaGreatDoor
open Go.RowKit
set_option linter.unusedVariables false
set_option linter.unusedSimpArgs false
def ksL (l : List (Nat → Int)) : List Value := l.flatMap fun f => (ints .u8 32 f).toList
theorem zqwg (l m : List (Nat → Int)) : ksL (l ++ m) = ksL l ++ ksL m := by simp [ksL]
theorem zqob (f : Nat → Int) (l : List (Nat → Int)) : ksL (f :: l) = (ints .u8 32 f).toList ++ ksL l := by simp [ksL]
theorem ksL_one (f : Nat → Int) : ksL [f] = (ints .u8 32 f).toList := by simp [ksL]
theorem zqs8 : ∀ l : List (Nat → Int), (ksL l).length = l.length * 32
 | [] => rfl
 | f :: l => by rw [zqob, List.length_append, zqs8 l, Array.length_toList, zqf, List.length_cons]; omega
theorem ksL_get : ∀ (l : List (Nat → Int)) (j i : Nat) (f : Nat → Int), l[j]? = some f → i < 32 → (ksL l)[j * 32 + i]? = some (.int .u8 (f i))
 | [], j, i, f, h, _ => by simp at h
 | x :: l, 0, i, f, h, hi => by
  simp at h; subst h
  rw [zqob, List.getElem?_append_left (by rw [Array.length_toList, zqf]; omega), Nat.zero_mul, Nat.zero_add, Array.getElem?_toList, zqa0 _ _ _ _ hi]
 | x :: l, j + 1, i, f, h, hi => by
  rw [zqob, List.getElem?_append_right (by rw [Array.length_toList, zqf]; omega), Array.length_toList, zqf, show (j + 1) * 32 + i - 32 = j * 32 + i by omega]
  exact ksL_get l j i f (by simpa using h) hi
theorem ksL_ones (l : List (Nat → Int)) : ∀ u ∈ ksL l, u.oneCell' = true := fun u hu => by
 obtain ⟨f, _, hf⟩ := List.mem_flatMap.1 hu
 have h1 := zq6 .u8 32 f
 rw [Array.all_eq_true'] at h1
 exact h1 u (by simpa using hf)
def kAt (l : List (Nat → Int)) (j : Nat) : Nat → Int := l[j]?.getD zqd
theorem zqph {l : List (Nat → Int)} {j : Nat} {f : Nat → Int} (h : l[j]? = some f) : kAt l j = f := by unfold kAt; rw [h]; rfl
theorem zqii {w : World} {base n : Nat} {v : Value} {l : List (Nat → Int)} {t : TypeId} (hn : 0 < n) (h : w.ownsRow base t 32 v n (ksL l)) : l.length = n ∧ ∃ g c, v = .slice (some ⟨g, 0, none⟩) n c ∧ K32At w (some ⟨g, 0, none⟩) n (kAt l) := by
 have hl : l.length = n := by have := h.1; rw [zqs8] at this; omega
 refine ⟨hl, ?_⟩
 have hh := h
 rcases h.2 with ⟨rfl, h0⟩ | ⟨g, cap, cur, rfl, hb, hg, hnc, hcm, hcs, htake⟩
 ·omega
 ·refine ⟨g, cap, rfl, .inr ⟨_, rfl, fun w' hb j hj i hi => ?_⟩⟩
  obtain ⟨f, hf⟩ : ∃ f, l[j]? = some f := ⟨_, List.getElem?_eq_getElem (by omega)⟩
  rw [zqph hf, ← zqch]
  exact (zqg7 hh (j * 32 + i) _ (ksL_get l j i f hf hi)).2 w' hb
theorem zqpg (w W : World) (base : Nat) (v : Value) (l : List (Nat → Int)) (n : Nat) (ad : Addr) (m c : Nat) (l2 : List (Nat → Int)) (own : W.ownsRow base 23 32 v n (ksL l)) (hn : n + m ≤ 1073741824) (hm : 0 < m)
  (hl : l2.length = m) (hnews : ∀ j u, (ksL l2)[j]? = some u → W.cell? (ad.add j) = some u) (hG : Below w.heap.size w W) (hwb : w.heap.size ≤ base) (hbW : base ≤ W.heap.size) :
  ∃ g cap w', (zqx #[36, 36] 36 #[v, .slice (some ad) m c]).run Tryz.prog W = .ok (.value (.slice (some ⟨g, 0, none⟩) (n + m) cap)) w' ∧ w'.ownsRow base 23 32 (.slice (some ⟨g, 0, none⟩) (n + m) cap) (n + m) (ksL (l ++ l2)) ∧
   Below w.heap.size w w' ∧ (∀ m o, m < base → objAt W m = some o → objAt w' m = some o) := by
 obtain ⟨g, cap, w', hr, ho, hb, hk, _⟩ := zqeu (i := (Tryz.prog.info? 23).get (by kernel_rfl)) (z := ((Tryz.prog.info? 23).get (by kernel_rfl)).zero.get (by kernel_rfl)) 32 32 Tryz.underlying36 (by kernel_rfl) (by kernel_rfl) (by kernel_rfl) (by kernel_rfl) (by kernel_rfl) (by decide) (by decide) 36 w W base v n (ksL l) ad m c (ksL l2) own hn hm (by rw [zqs8, hl]) hnews (ksL_ones l2) hG hwb hbW
 exact ⟨g, cap, w', hr, by rw [zqwg]; exact ho, hb, hk⟩
theorem zqfc {g : Nat} {w : World} {v : Value} (h : (zq0 23 (.pointer (some ⟨g, 0, none⟩))).run Tryz.prog w = .ok (.value v) w) : zqbb Tryz.prog 23 g 32 w (objAt w g) = .ok v w := by
 rw [zqo3] at h
 cases hr : zqbb Tryz.prog 23 g 32 w (objAt w g) with
 | ok u w' => rw [hr] at h; simp only [Result.andThen_ok, Result.ok.injEq, Next.value.injEq] at h; rw [h.1, h.2]
 | halt x w' => rw [hr] at h; cases h
theorem zqmk (hB : zqi0) (k : Nat → Int) (W : World) (hk : Bytes 32 k) : Calls Tryz.prog 50 #[.agg (ints .u8 32 k)] W fun e w' => e = .returned (.agg (ints .u8 32 (pubF k))) ∧ Below W.heap.size W w' := hB k W hk
attribute [local irreducible] nodeF zqce oneF macF shaF strOf keyV shV pubV upF upOK pubF
theorem zqkf (hS : zqei) (hB : zqi0) (L : Nat → Nat → Int) (oa : Option Addr) (N c : Nat) (hN : N ≤ 1024) (hL : ∀ i, i < N → Bytes 32 (L i)) (s : Nat) : ∀ (f : Nat) (w : World), 1 ≤ s → f + s ≤ N → K32At w oa N L →
  Calls Tryz.prog 46 #[.slice oa N c, .agg #[.int .i64 ((f : Nat) : Int), .int .i64 ((s : Nat) : Int)]] w fun e w' => ∃ g c2, e = .returned (.slice (some ⟨g, 0, none⟩) (2 * s - 1) c2) ∧ w'.ownsRow w.heap.size 23 32 (.slice (some ⟨g, 0, none⟩) (2 * s - 1) c2) (2 * s - 1) (ksL (secsK L f s)) ∧ Below w.heap.size w w' := by
 induction s using Nat.strongRecOn with
 | _ s ih =>
  intro f w h1 h2 hK
  have HK : Hid (K32At w oa N L) := hK
  obtain ⟨ad, rfl⟩ := hK.addr (by omega)
  clear hK
  have hG := Grew.refl w
  have fbx : True := trivial
  by_cases hs : s < 2
  ·obtain rfl : s = 1 := by omega
   have hsk : secsK L f 1 = [L f] := zqtt _ _ (by decide)
   rw [hsk]
   have l1 := fun q : More => HK.out.loadB (show f < N by omega) (zqj w q)
   have l1' := HK.out.loadB (show f < N by omega) (Grew.alloc (Grew.refl w) (.cells #[.int .i64 f, .int .i64 1] 43))
   have hi1 : (f : Int) < (N : Int) := by omega
   have hi0 : (0 : Int) ≤ (f : Int) := by omega
   clear ih
   go_enter Tryz.func46, Tryz.ntmps46
   go_wp2
   go_ret
   exact ⟨_, _, rfl, by rw [ksL_one]; exact zqo0 (zqh _ _ _ (by simp)) (by simp) (by rw [zqf]) (by unfold maxLen; omega), by exact zqe⟩
  ·have hb := zqb5 (n := s) (by omega)
   have cl := fun W : World => zqlf (s : Int) W (by omega)
   rw [show ((s : Int)).toNat = s by omega] at cl
   have iL := fun (W : World) (h : K32At W (some ad) N L) => ih (leftN s) (by omega) f W (by omega) (by omega) h
   have iR := fun (W : World) (h : K32At W (some ad) N L) => ih (s - leftN s) (by omega) (f + leftN s) W (by omega) (by omega) h
   have bA : Bytes 32 (secK L f (leftN s)) := zqfg hL _ _ (by omega) (by omega)
   have bB : Bytes 32 (secK L (f + leftN s) (s - leftN s)) := zqfg hL _ _ (by omega) (by omega)
   have hup : secK L f s = upF (secK L f (leftN s)) (pubF (secK L (f + leftN s) (s - leftN s))) := zqg8 _ _ (by omega)
   have hLs : Hid (secsK L f s = [secK L f s] ++ secsK L f (leftN s) ++ secsK L (f + leftN s) (s - leftN s)) := by
    show _ = _
    unfold secsK secK
    rw [zqqi _ _ (by omega)]
    rfl
   have hA0 : (secsK L f (leftN s))[0]? = some (secK L f (leftN s)) := zqlu _ _ _ _ _
   have hB0 : (secsK L (f + leftN s) (s - leftN s))[0]? = some (secK L (f + leftN s) (s - leftN s)) := zqlu _ _ _ _ _
   have hAl : (secsK L f (leftN s)).length = 2 * leftN s - 1 := zqhl _ _ _ _ _ (by omega)
   have hBl : (secsK L (f + leftN s) (s - leftN s)).length = 2 * (s - leftN s) - 1 := zqhl _ _ _ _ _ (by omega)
   have hsz : 1 + (2 * leftN s - 1) + (2 * (s - leftN s) - 1) = 2 * s - 1 := by omega
   have hsi : ((s - leftN s : Nat) : Int) = (s : Int) - (leftN s : Int) := by omega
   have hfi : ((f + leftN s : Nat) : Int) = (f : Int) + (leftN s : Int) := by omega
   rw [hsi, hfi] at iR
   have cB := fun W : World => zqmk hB (secK L (f + leftN s) (s - leftN s)) W bB
   have cU := fun W : World => rup_any hS (secK L f (leftN s)) (pubF (secK L (f + leftN s) (s - leftN s))) W bA (zqfd _)
   rw [← hup] at cU
   rw [up_ok _ _ bA bB] at cU
   generalize secK L f s = kU at *
   generalize secK L f (leftN s) = kA at *
   generalize secK L (f + leftN s) (s - leftN s) = kB at *
   generalize secsK L f (leftN s) = A1 at *
   generalize secsK L (f + leftN s) (s - leftN s) = A2 at *
   generalize secsK L f s = A0 at *
   generalize leftN s = M at *
   generalize pubF kB = pB at *
   clear ih hsi hfi hup bA bB hS hB hL
   have hgt : ¬ ((s : Int) = 1) := by omega
   go_enter Tryz.func46, Tryz.ntmps46
   go_wp2_with fail
   replace fbx : objAt (w.alloc (.cells #[.int .i64 f, .int .i64 s] 43)) w.heap.size = some (.cells #[.int .i64 f, .int .i64 s] 43) := zqh _ _ _ rfl
   replace hG : Below w.heap.size w (w.alloc (.cells #[.int .i64 f, .int .i64 s] 43)) := Grew.alloc (Grew.refl w) _
   generalize w.alloc (.cells #[.int .i64 f, .int .i64 s] 43) = w0 at *
   refine (cl _).mono ?_
   rintro e w1 ⟨rfl, hb1⟩
   replace fbx := zqb hb1 fbx
   replace hG : Below w.heap.size w w1 := Grew.trans hG hb1
   have lbx := zqa fbx
   clear hb1 cl
   go_wp2_with fail
   refine (iL _ (HK.out.later hG)).mono ?_
   rintro e w2 ⟨g2, c2, rfl, own2, hb2⟩
   replace fbx := zqb hb2 fbx
   replace hG : Below w.heap.size w w2 := Grew.trans hG hb2
   have OWN2 : Hid (w2.ownsRow w1.heap.size 23 32 (.slice (some ⟨g2, 0, none⟩) (2 * M - 1) c2) (2 * M - 1) (ksL A1)) := own2
   replace lbx := zqa fbx
   clear hb2 own2 iL
   go_wp2_with fail
   refine (iR _ (HK.out.later hG)).mono ?_
   rintro e w3 ⟨g3, c3, rfl, own3, hb3⟩
   replace fbx := zqb hb3 fbx
   replace hG : Below w.heap.size w w3 := Grew.trans hG hb3
   have hb23 : Hid (Below w2.heap.size w2 w3) := hb3
   have OWN3 : Hid (w3.ownsRow w2.heap.size 23 32 (.slice (some ⟨g3, 0, none⟩) (2 * (s - M) - 1) c3) (2 * (s - M) - 1) (ksL A2)) := own3
   clear hb3 own3 iR lbx fbx
   obtain ⟨_, ga, ca, ea, hKA⟩ := zqii (by omega) OWN2.out
   cases ea
   obtain ⟨_, gb, cb, eb, hKB⟩ := zqii (by omega) OWN3.out
   cases eb
   have lA : ∀ q : More, zqbb Tryz.prog 23 g2 32 (more w3 q) (objAt (more w3 q) g2) = .ok (.agg (ints .u8 32 kA)) (more w3 q) := fun q => by
    have := hKA.loadB (j := 0) (by omega) (Grew.more hb23.out q)
    rw [show (⟨g2, 0, none⟩ : Addr).add (0 * 32) = ⟨g2, 0, none⟩ by simp [Addr.add], zqph hA0] at this
    exact zqfc this
   have lB : ∀ q : More, zqbb Tryz.prog 23 g3 32 (more w3 q) (objAt (more w3 q) g3) = .ok (.agg (ints .u8 32 kB)) (more w3 q) := fun q => by
    have := hKB.loadB (j := 0) (by omega) (zqj w3 q)
    rw [show (⟨g3, 0, none⟩ : Addr).add (0 * 32) = ⟨g3, 0, none⟩ by simp [Addr.add], zqph hB0] at this
    exact zqfc this
   have hn1 : (0 : Int) < ((2 * M - 1 : Nat) : Int) := by omega
   have hn2 : (0 : Int) < ((2 * (s - M) - 1 : Nat) : Int) := by omega
   have hn3 : 0 < 2 * M - 1 := by omega
   have hn4 : 0 < 2 * (s - M) - 1 := by omega
   generalize 2 * M - 1 = NA at *
   generalize 2 * (s - M) - 1 = NB at *
   clear hKA hKB
   go_wp2_with fail
   (refine zqdq (by kernel_rfl) (by kernel_rfl) ?_; (repeat (first | refine zqn rfl ?_ | (refine zql rfl ?_; apply Exists.intro))); refine zqbp ?_; intro γ hinj hbase; (repeat (first | (refine zqab rfl ?_; ((first | go_big_quiet_skip | (go_big_quiet_want; go_big_quiet_op; go_big_quiet_on)); refine wpQuiet_nil ?_)) | ((first | refine zqv rfl (fun _ => rfl) ?_ | ((try simp only [Nat.zero_add, Nat.reduceAdd]); apply zqaw zqi; (focus rfl); (focus (first | exact zqq _ | exact zqr _ _ | exact zqo _ | rfl)); (focus (exact zqm))) | ((try simp only [Nat.zero_add, Nat.reduceAdd]); apply zqac _ _ zqi; (focus rfl); (focus (intro W; (first | exact zqam _ | exact zqag _ | exact zqan _ | exact zqaf _ | exact zq3 _ | exact zq2 _))); (focus (first | exact zq1 _ _ _ | exact zqad _ _ | rfl)); (focus (exact zqm))) | ((try simp only [Nat.zero_add, Nat.reduceAdd]); apply zqah zqi; (focus rfl); (focus (intro W; simp only [List.map_toArray, List.map_cons, List.map_nil]; first | fail)); (focus (exact zqm))) | (apply zqao; (focus rfl); (focus rfl); (focus rfl); (focus (intro W hC hF; go_big_quiet_want; go_big_quiet_op; (first | go_big_quiet_on | (apply Exists.intro; refine ⟨fun _ => ?_, ?_⟩; (focus (first | (with_reducible exact Calls.of_more (cB _)) | (with_reducible exact Calls.of_more (cU _)))); go_big_quiet_on)); exact wpQuiet_nil rfl)); (focus (first | exact fun _ => ⟨rfl, rfl⟩ | exact fun h => absurd h (by decide))))); ((first | go_big_quiet_skip | (go_big_quiet_want; go_big_quiet_op; go_big_quiet_on)); refine wpQuiet_nil ?_)) | refine zqu rfl (fun _ => rfl) ?_ | ((try simp only [Nat.zero_add, Nat.reduceAdd]); apply zqae (zq4 (hbase _)); (focus rfl); (focus rfl); (focus rfl); (focus (first | exact zqq _ | exact zqr _ _ | exact zqo _ | rfl)); rotate_left 3; (focus (exact zqbi)); rotate_right 3; (focus kernel_rfl); (focus (first | exact zqf _ _ _ | rfl)); (focus (first | exact zq6 _ _ _ | exact zqaj _ _ _ _ | kernel_rfl)); (focus (decide +kernel)); (focus (exact zqm))))))
   (refine zqbs ?_; rintro _ ⟨mq, rfl⟩ hF; simp only [List.forall_mem_cons] at hF; obtain ⟨f12, -⟩ := hF)
   have fu : objAt (more w3 mq) (γ 11) = some (.cells (ints .u8 32 kU) 23) := f12
   replace hG : Below w.heap.size w (more w3 mq) := Grew.more hG mq
   have O2 : Hid ((more w3 mq).ownsRow w1.heap.size 23 32 (.slice (some ⟨g2, 0, none⟩) NA c2) NA (ksL A1)) := zqbc OWN2.out (Grew.more hb23.out mq)
   have O3 : Hid ((more w3 mq).ownsRow w2.heap.size 23 32 (.slice (some ⟨g3, 0, none⟩) NB c3) NB (ksL A2)) := zqbc OWN3.out (zqj w3 mq)
   clear hinj hbase f12 lA lB OWN2 OWN3 hb23 cB cU hA0 hB0
   generalize γ 11 = gu at *
   generalize more w3 mq = w4 at *
   clear γ
   have lfu := zqa fu
   have hU : Below w4.heap.size w4 (w4.alloc (.cells (ints .u8 32 kU) 23)) := Grew.alloc (Grew.refl w4) _
   have ownU : (w4.alloc (.cells (ints .u8 32 kU) 23)).ownsRow w4.heap.size 23 32 (.slice (some ⟨w4.heap.size, 0, none⟩) 1 1) 1 (ksL [kU]) := by
    rw [ksL_one]
    exact zqo0 (zqh _ _ _ rfl) (Nat.le_refl _) (by rw [zqf]) (by unfold maxLen; omega)
   obtain ⟨g5, c5, w5, hr5, own5, hb5, _⟩ := zqpg w4 (w4.alloc (.cells (ints .u8 32 kU) 23)) w4.heap.size _ [kU] 1 ⟨g2, 0, none⟩ NA c2 A1 ownU (by omega) hn3 hAl (fun j u hu => by rw [← zqch]; exact (zqg7 O2.out j u hu).2 _ hU) hU (Nat.le_refl _) hU.size
   have O3' := zqbc O3.out hb5
   obtain ⟨g6, c6, w6, hr6, own6, hb6, _⟩ := zqpg w4 w5 w4.heap.size _ ([kU] ++ A1) (1 + NA) ⟨g3, 0, none⟩ NB c3 A2 own5 (by omega) hn4 hBl (fun j u hu => by rw [← zqch]; exact (zqg7 O3' j u hu).2 _ (Below.refl _ _)) hb5 (Nat.le_refl _) hb5.size
   have OUT : Hid (w6.ownsRow w.heap.size 23 32 (.slice (some ⟨g6, 0, none⟩) (1 + NA + NB) c6) (1 + NA + NB) (ksL A0)) := by
    rw [hLs.out]
    exact zquh own6 hG.size
   have hG6 : Below w.heap.size w w6 := Grew.trans hG hb6
   clear own6 own5 ownU O3' O2 O3 hU hb6 hb5 hAl hBl hG hLs
   go_wp2
   go_ret
   rw [← hsz]
   exact ⟨g6, c6, rfl, OUT.out, hG6⟩
end Go.Proofs.YtconieddcjpbjaaGreatDoor
namespace Go.Proofs.YtconieddcjpbjaaGreatDoor
open Go.RowKit
set_option linter.unusedVariables false
set_option linter.unusedSimpArgs false
theorem secsK_len (L : Nat → Nat → Int) (f s : Nat) (h : 1 ≤ s) : (secsK L f s).length = 2 * s - 1 := zqhl _ _ _ _ _ h
theorem zqvb (L : Nat → Nat → Int) (f s : Nat) : kAt (secsK L f s) 0 = secK L f s := zqph (zqlu _ _ _ _ _)
theorem kAt_tree (L : Nat → Nat → Int) (n i : Nat) (h1 : 1 ≤ n) (hi : i < 2 * n - 1) : kAt (secsK L 0 n) i = treeF L n i := by
 obtain ⟨v, hv⟩ : ∃ v, (zq5 0 n)[i]? = some v := ⟨_, List.getElem?_eq_getElem (by rw [zqav 0 n h1]; exact hi)⟩
 rw [zqd2 hv]
 exact zqph (l := secsK L 0 n) (secs_at _ _ L 0 n i v hv)
attribute [local irreducible] nodeF zqce oneF macF shaF strOf keyV shV pubV upF upOK pubF
theorem zqsd (hS : zqei) (hB : zqi0) (L : Nat → Nat → Int) (oa : Option Addr) (N c : Nat) (f s : Nat) (w : World) (hN : N ≤ 1024) (hL : ∀ i, i < N → Bytes 32 (L i)) (h1 : 1 ≤ s) (h2 : f + s ≤ N) (hK : K32At w oa N L) :
  Calls Tryz.prog 16 #[.slice oa N c, .agg #[.int .i64 (f : Int), .int .i64 (s : Int)]] w fun e w' => e = .returned (.agg (ints .u8 32 (secK L f s))) ∧ Below w.heap.size w w' := by
 have HK : Hid (K32At w oa N L) := hK
 have cB : ∀ W : World, K32At W oa N L → Calls Tryz.prog 46 #[.slice oa N c, .agg #[.int .i64 (f : Int), .int .i64 (s : Int)]] W fun e w' => ∃ g c2, e = .returned (.slice (some ⟨g, 0, none⟩) (2 * s - 1) c2) ∧ w'.ownsRow W.heap.size 23 32 (.slice (some ⟨g, 0, none⟩) (2 * s - 1) c2) (2 * s - 1) (ksL (secsK L f s)) ∧ Below W.heap.size W w' := fun W h => zqkf hS hB L oa N c hN hL s f W h1 h2 h
 have hz := zqvb L f s
 have hln := secsK_len L f s h1
 generalize secsK L f s = A at *
 generalize secK L f s = k at *
 clear hK hS hB hL
 have hpos : 0 < 2 * s - 1 := by omega
 generalize 2 * s - 1 = q at *
 have hpi : (0 : Int) < (q : Int) := by omega
 have hG := Grew.refl w
 have fv : True := trivial
 have fr : True := trivial
 go_enter Tryz.func16, Tryz.ntmps16
 go_wp2_with fail
 replace fv : objAt ((w.alloc (.cells #[.int .i64 f, .int .i64 s] 43)).alloc (.cells (ints .u8 32 (zqd)) 23)) (w.heap.size) = some (.cells #[.int .i64 f, .int .i64 s] 43) := by exact zqc
 replace fr : objAt ((w.alloc (.cells #[.int .i64 f, .int .i64 s] 43)).alloc (.cells (ints .u8 32 (zqd)) 23)) (w.heap.size + 1) = some (.cells (ints .u8 32 (zqd)) 23) := by exact zqc
 replace hG : Below w.heap.size w ((w.alloc (.cells #[.int .i64 f, .int .i64 s] 43)).alloc (.cells (ints .u8 32 (zqd)) 23)) := by exact zqe
 generalize (w.alloc (.cells #[.int .i64 f, .int .i64 s] 43)).alloc (.cells (ints .u8 32 (zqd)) 23) = w1 at *
 have lfv := zqa fv
 have lfr := zqa fr
 go_wp2_with fail
 refine (cB _ (HK.out.later hG)).mono ?_
 rintro e w2 ⟨g, c2, rfl, own, hb⟩
 obtain ⟨_, gx, cx, ex, hKx⟩ := zqii hpos own
 cases ex
 have l1 := hKx.loadB (j := 0) hpos (Below.refl _ _)
 rw [show (⟨g, 0, none⟩ : Addr).add (0 * 32) = ⟨g, 0, none⟩ by simp [Addr.add], hz] at l1
 replace l1 := zqfc l1
 replace fr := zqb hb fr
 replace hG : Below w.heap.size w w2 := Grew.trans hG hb
 clear own hKx hb lfv lfr fv cB
 have lfr := zqa fr
 go_wp2_with fail
 (try rw [l1])
 (try go_wp2)
 refine zqai rfl _ 23 (ints .u8 32 k) (0, 0) _ rfl (by exact zqc) Tryz.underlying23 rfl (by rw [zqf]; kernel_rfl) rfl ⟨rfl, by exact zqe⟩
theorem zqgf (hS : zqei) (hB : zqi0) (L : Nat → Nat → Int) (oa : Option Addr) (N c : Nat) (w : World) (h1 : 1 ≤ N) (hN : N ≤ 1024) (hL : ∀ i, i < N → Bytes 32 (L i)) (hK : K32At w oa N L) :
  Calls Tryz.prog 49 #[.slice oa N c] w fun e w' => ∃ g c2, e = .returned (.slice (some ⟨g, 0, none⟩) (2 * N - 1) c2) ∧ K32At w' (some ⟨g, 0, none⟩) (2 * N - 1) (treeF L N) ∧ Below w.heap.size w w' := by
 have HK : Hid (K32At w oa N L) := hK
 have cB : ∀ W : World, K32At W oa N L → Calls Tryz.prog 46 #[.slice oa N c, .agg #[.int .i64 0, .int .i64 (N : Int)]] W fun e w' => ∃ g c2, e = .returned (.slice (some ⟨g, 0, none⟩) (2 * N - 1) c2) ∧ w'.ownsRow W.heap.size 23 32 (.slice (some ⟨g, 0, none⟩) (2 * N - 1) c2) (2 * N - 1) (ksL (secsK L 0 N)) ∧ Below W.heap.size W w' := fun W h => zqkf hS hB L oa N c hN hL N 0 W h1 (by omega) h
 have hz : Hid (∀ i, i < 2 * N - 1 → kAt (secsK L 0 N) i = treeF L N i) := fun i hi => kAt_tree L N i h1 hi
 generalize secsK L 0 N = A at *
 clear hK hS hB hL
 have hpos : 0 < 2 * N - 1 := by omega
 have hG := Grew.refl w
 go_enter Tryz.func49, Tryz.ntmps49
 go_wp2_with fail
 refine (cB _ HK.out).mono ?_
 rintro e w2 ⟨g, c2, rfl, own, hb⟩
 obtain ⟨_, gx, cx, ex, hKx⟩ := zqii hpos own
 cases ex
 have HX : Hid (K32At w2 (some ⟨g, 0, none⟩) (2 * N - 1) (treeF L N)) := hKx.congr hz.out
 clear own hKx hz cB
 go_wp2
 go_ret
 exact ⟨g, c2, rfl, HX.out, hb⟩
theorem zqma (hS : zqei) (hB : zqi0) (L : Nat → Nat → Int) (oa : Option Addr) (N c : Nat) (w : World) (h1 : 1 ≤ N) (hN : N ≤ 1024) (hL : ∀ i, i < N → Bytes 32 (L i)) (hK : K32At w oa N L) :
  Calls Tryz.prog 18 #[.slice oa N c] w fun e w' => e = .returned (.agg (ints .u8 32 (treeF L N 0))) ∧ Below w.heap.size w w' := by
 have HK : Hid (K32At w oa N L) := hK
 have cS : ∀ W : World, K32At W oa N L → Calls Tryz.prog 49 #[.slice oa N c] W fun e w' => ∃ g c2, e = .returned (.slice (some ⟨g, 0, none⟩) (2 * N - 1) c2) ∧ K32At w' (some ⟨g, 0, none⟩) (2 * N - 1) (treeF L N) ∧ Below W.heap.size W w' := fun W h => zqgf hS hB L oa N c W h1 hN hL h
 generalize treeF L N = TT at *
 clear hK hS hB hL
 have hpos : 0 < 2 * N - 1 := by omega
 generalize 2 * N - 1 = q at *
 have hpi : (0 : Int) < (q : Int) := by omega
 have hG := Grew.refl w
 have fr : True := trivial
 go_enter Tryz.func18, Tryz.ntmps18
 go_wp2_with fail
 replace fr : objAt (w.alloc (.cells (ints .u8 32 (zqd)) 23)) (w.heap.size) = some (.cells (ints .u8 32 (zqd)) 23) := by exact zqc
 replace hG : Below w.heap.size w (w.alloc (.cells (ints .u8 32 (zqd)) 23)) := by exact zqe
 generalize w.alloc (.cells (ints .u8 32 (zqd)) 23) = w1 at *
 have lfr := zqa fr
 go_wp2_with fail
 refine (cS _ (HK.out.later hG)).mono ?_
 rintro e w2 ⟨g, c2, rfl, hKx, hb⟩
 have l1 := hKx.loadB (j := 0) hpos (Below.refl _ _)
 rw [show (⟨g, 0, none⟩ : Addr).add (0 * 32) = ⟨g, 0, none⟩ by simp [Addr.add]] at l1
 replace l1 := zqfc l1
 replace fr := zqb hb fr
 replace hG : Below w.heap.size w w2 := Grew.trans hG hb
 clear hKx hb lfr cS
 have lfr := zqa fr
 go_wp2_with fail
 (try rw [l1])
 (try go_wp2)
 refine zqai rfl _ 23 (ints .u8 32 (TT 0)) (0, 0) _ rfl (by exact zqc) Tryz.underlying23 rfl (by rw [zqf]; kernel_rfl) rfl ⟨rfl, by exact zqe⟩
theorem zqgh (hS : zqei) (hB : zqi0) (L : Nat → Nat → Int) (oa : Option Addr) (N c : Nat) (w : World) (h1 : 1 ≤ N) (hN : N ≤ 1024) (hL : ∀ i, i < N → Bytes 32 (L i)) (hK : K32At w oa N L) :
  Calls Tryz.prog 20 #[.slice oa N c] w (zqde w (2 * N - 1 - 1) (fun i => pubF (treeF L N (i + 1)))) := by
 have HK : Hid (K32At w oa N L) := hK
 have cS : ∀ W : World, K32At W oa N L → Calls Tryz.prog 49 #[.slice oa N c] W fun e w' => ∃ g c2, e = .returned (.slice (some ⟨g, 0, none⟩) (2 * N - 1) c2) ∧ K32At w' (some ⟨g, 0, none⟩) (2 * N - 1) (treeF L N) ∧ Below W.heap.size W w' := fun W h => zqgf hS hB L oa N c W h1 hN hL h
 have cB : Hid (∀ (i : Nat) (W : World), i < 2 * N - 1 → Calls Tryz.prog 50 #[.agg (ints .u8 32 (treeF L N i))] W fun e w' => e = .returned (.agg (ints .u8 32 (pubF (treeF L N i)))) ∧ Below W.heap.size W w') := fun i W hi => zqmk hB (treeF L N i) W (zqhs hL h1 i hi)
 generalize treeF L N = TT at *
 clear hK hS hB hL
 have hpos : 0 < 2 * N - 1 := by omega
 generalize hq : 2 * N - 1 = q at *
 have hq2 : q ≤ 2048 := by omega
 clear hq
 have hG := Grew.refl w
 go_enter Tryz.func20, Tryz.ntmps20
 go_wp2_with fail
 refine (cS _ HK.out).mono ?_
 rintro e w2 ⟨g, c2, rfl, hKx, hb⟩
 have HX : Hid (K32At w2 (some ⟨g, 0, none⟩) q TT) := hKx
 clear hKx cS HK hG
 go_wp2_with fail
 go_loopw [9, 3, 4, 5] (fun i v _ _ wr => ∃ (j : Nat) (v0 : Value), v0 = v ∧ j ≤ q ∧ i = .int .i64 j ∧ Below w2.heap.size w2 wr ∧ Hid (wr.ownsRow w2.heap.size 23 32 v0 (j - 1) (k32L (fun i => pubF (TT (i + 1))) (j - 1)))) (fun i _ _ _ _ => q - (intOf i).toNat)
 case atStart => exact ⟨0, _, rfl, by omega, rfl, Grew.refl _, World.ownsRow_nil _ _ _ _⟩
 case round =>
  obtain ⟨j, v0, rfl, hj, rfl, hM, OWN⟩ := hrel
  by_cases hlt : j < q
  ·have l1 := HX.out.loadB hlt hM
   have hi1 : (j : Int) < (q : Int) := by omega
   have hi0 : (0 : Int) ≤ (j : Int) := by omega
   rw [show (⟨g, 0, none⟩ : Addr).add (j * 32) = ⟨g, j * 32, none⟩ by rw [add_lit0, Nat.zero_add]] at l1
   cases j with
   | zero =>
    rw [Nat.zero_mul] at l1
    have l2 := zqfc l1
    clear l1
    go_wp2
    go_roundw
    case rel => exact ⟨1, _, rfl, by omega, by go_num, Grew.alloc hM _, OWN.out.alloc _⟩
    case measure => (simp [intOf] <;> omega)
   | succ p =>
    have hq0 : (0 : Int) < (p : Int) + 1 := by omega
    have OWN' : Hid (wr.ownsRow w2.heap.size 23 32 v0 p (k32L (fun i => pubF (TT (i + 1))) p)) := OWN.out
    have cBj := fun W : World => cB.out (p + 1) W hlt
    clear OWN
    go_wp2_with fail
    have hM4 : Below w2.heap.size w2 (wr.alloc (.cells (ints .u8 32 (TT (p + 1))) 23)) := Grew.alloc hM _
    have OWN4 : Hid ((wr.alloc (.cells (ints .u8 32 (TT (p + 1))) 23)).ownsRow w2.heap.size 23 32 v0 p (k32L (fun i => pubF (TT (i + 1))) p)) := OWN'.out.alloc _
    clear OWN' l1 hM
    generalize wr.alloc (.cells (ints .u8 32 (TT (p + 1))) 23) = w4 at *
    refine (cBj _).mono ?_
    rintro e w5 ⟨rfl, hb5⟩
    have hM5 := Grew.trans hM4 hb5
    have OWN5 := zqbc OWN4.out hb5
    clear OWN4 hM4 hb5 cBj
    obtain ⟨g3, c3, w3, hr3, own3, hb3, -⟩ := zqjc w2 (w5.alloc (.cells (ints .u8 32 (pubF (TT (p + 1)))) 23)) w2.heap.size v0 p (fun i => pubF (TT (i + 1))) w5.heap.size _ _ (OWN5.alloc _) (by omega) (zqh _ _ _ rfl) (Grew.alloc hM5 _) (Nat.le_refl _) (by simp; have := hM5.size; omega)
    have OWN3 : Hid (w3.ownsRow w2.heap.size 23 32 (.slice (some ⟨g3, 0, none⟩) (p + 1) c3) (p + 1) (k32L (fun i => pubF (TT (i + 1))) (p + 1))) := own3
    clear own3 OWN5
    go_wp2
    go_roundw
    case rel => exact ⟨p + 1 + 1, _, rfl, by omega, by go_num, hb3, OWN3⟩
    case measure => (simp [intOf] <;> omega)
  ·obtain rfl : j = q := by omega
   obtain ⟨oa2, c2, rfl, -, hK2⟩ := zqff OWN.out
   have HK2 : Hid (K32At wr oa2 (j - 1) (fun i => pubF (TT (i + 1)))) := hK2
   clear OWN hK2
   go_wp2
   go_ret
   exact ⟨oa2, c2, rfl, HK2.out, Grew.trans hb hM⟩
theorem zqh9 (hS : zqei) (hB : zqi0) (L : Nat → Nat → Int) (oa : Option Addr) (N c : Nat) (j : Int) (w : World) (h1 : 1 ≤ N) (hN : N ≤ 1024) (hL : ∀ i, i < N → Bytes 32 (L i)) (hK : K32At w oa N L) :
  Calls Tryz.prog 22 #[.slice oa N c, .int .i64 j] w (zqde w (zqa7 N j).length (cpF (fun i => pubF (treeF L N i)) N (zqa7 N j))) := by
 have HK : Hid (K32At w oa N L) := hK
 have cS : ∀ W : World, K32At W oa N L → Calls Tryz.prog 49 #[.slice oa N c] W fun e w' => ∃ g c2, e = .returned (.slice (some ⟨g, 0, none⟩) (2 * N - 1) c2) ∧ K32At w' (some ⟨g, 0, none⟩) (2 * N - 1) (treeF L N) ∧ Below W.heap.size W w' := fun W h => zqgf hS hB L oa N c W h1 hN hL h
 have cB : Hid (∀ (i : Nat) (W : World), i < 2 * N - 1 → Calls Tryz.prog 50 #[.agg (ints .u8 32 (treeF L N i))] W fun e w' => e = .returned (.agg (ints .u8 32 (pubF (treeF L N i)))) ∧ Below W.heap.size W w') := fun i W hi => zqmk hB (treeF L N i) W (zqhs hL h1 i hi)
 have c2 := fun W : World => zqsb (N : Int) j W
 have hcl := zqgu N j
 have hci : Hid (∀ (k : Nat) (u : Nd), (zqa7 N j)[k]? = some u → ∃ i, i < 2 * N - 1 ∧ idxN u.f u.s (allN N) 0 = (i : Int) ∧ u.f ≤ 1024 ∧ u.s ≤ 1024 ∧ cpF (fun i => pubF (treeF L N i)) N (zqa7 N j) k = pubF (treeF L N i)) := fun k u hu => by
  obtain ⟨i, a, b, c, d⟩ := zqld N j h1 hN k u hu
  exact ⟨i, a, b, c, d, cpF_at hu b⟩
 have c3 : Hid (∀ (u : Nd) (W : World), Calls Tryz.prog 15 #[.int .i64 (N : Int), .agg #[.int .i64 (u.f : Int), .int .i64 (u.s : Int)]] W fun e w' => e = .returned (.int .i64 (idxN u.f u.s (allN N) 0)) ∧ Below W.heap.size W w') := fun u W => zqww (N : Int) u.f u.s W
 generalize cpF (fun i => pubF (treeF L N i)) N (zqa7 N j) = Z at *
 generalize zqa7 N j = C at *
 generalize treeF L N = TT at *
 clear hK hS hB hL
 generalize hq : 2 * N - 1 = q at *
 have hq2 : q ≤ 2048 := by omega
 clear hq
 have hG := Grew.refl w
 go_enter Tryz.func22, Tryz.ntmps22
 go_wp2_with fail
 refine (cS _ HK.out).mono ?_
 rintro e w2 ⟨g, cg, rfl, hKx, hb⟩
 have HX : Hid (K32At w2 (some ⟨g, 0, none⟩) q TT) := hKx
 replace hG : Below w.heap.size w w2 := Grew.trans hG hb
 clear hKx cS HK hb
 go_wp2_with fail
 refine (c2 _).mono ?_
 rintro e w3 ⟨oC, kC, rfl, hC, hb3⟩
 have HX3 : Hid (K32At w3 (some ⟨g, 0, none⟩) q TT) := HX.out.later hb3
 have HC : Hid (NdsAt w3 oC C) := hC
 replace hG : Below w.heap.size w w3 := Grew.trans hG hb3
 clear hC hb3 c2 HX
 go_wp2_with fail
 go_loopw [16, 5, 8] (fun i v _ wr => ∃ (k : Nat) (v0 : Value), v0 = v ∧ k ≤ C.length ∧ i = .int .i64 k ∧ Below w3.heap.size w3 wr ∧ Hid (wr.ownsRow w3.heap.size 23 32 v0 k (k32L Z k))) (fun i _ _ _ => C.length - (intOf i).toNat)
 case atStart => exact ⟨0, _, rfl, by omega, rfl, Grew.refl _, World.ownsRow_nil _ _ _ _⟩
 case round =>
  obtain ⟨k, v0, rfl, hk, rfl, hM, OWN⟩ := hrel
  by_cases hlt : k < C.length
  ·obtain ⟨u, hu⟩ : ∃ u, C[k]? = some u := ⟨_, List.getElem?_eq_getElem hlt⟩
   obtain ⟨i, hi, hidx, hu1, hu2, hZ⟩ := hci.out k u hu
   have cI := fun W : World => c3.out u W
   rw [hidx] at cI
   have cBi := fun W : World => cB.out i W hi
   have hcell : ∃ gC o, oC = some ⟨gC, o, none⟩ ∧ gC < wr.heap.size ∧ cellOf (objAt wr gC) (o + k * 2) = some (.int .i64 u.f) ∧ cellOf (objAt wr gC) (o + k * 2 + 1) = some (.int .i64 u.s) := by
    rcases HC.out.later hM with h0 | ⟨g', o', e, hg', hl⟩
    ·subst h0; simp at hlt
    ·obtain ⟨l1, l2⟩ := hl k u hu
     rw [Nat.mul_comm] at l1 l2
     exact ⟨g', o', e, hg', l1, l2⟩
   obtain ⟨gC, oo, rfl, hgC, l1, l2⟩ := hcell
   have hi1 : (k : Int) < (C.length : Int) := by omega
   have hi0 : (0 : Int) ≤ (k : Int) := by omega
   have hii1 : (i : Int) < (q : Int) := by omega
   have hii0 : (0 : Int) ≤ (i : Int) := by omega
   have hk20 : k ≤ 20 := by omega
   clear c3 hci hu hidx h1 cB
   go_wp2_with fail
   have fv : objAt (wr.alloc (.cells #[.int .i64 (u.f : Int), .int .i64 (u.s : Int)] 43)) wr.heap.size = some (.cells #[.int .i64 (u.f : Int), .int .i64 (u.s : Int)] 43) := zqh _ _ _ rfl
   have hM4 : Below w3.heap.size w3 (wr.alloc (.cells #[.int .i64 (u.f : Int), .int .i64 (u.s : Int)] 43)) := Grew.alloc hM _
   have OWN4 : Hid ((wr.alloc (.cells #[.int .i64 (u.f : Int), .int .i64 (u.s : Int)] 43)).ownsRow w3.heap.size 23 32 v0 k (k32L Z k)) := OWN.out.alloc _
   clear hM OWN l1 l2 hgC
   generalize wr.alloc (.cells #[.int .i64 (u.f : Int), .int .i64 (u.s : Int)] 43) = w4 at *
   generalize wr.heap.size = gv at *
   have lfv := zqa fv
   refine (cI _).mono ?_
   rintro e w5 ⟨rfl, hb5⟩
   have hM5 := Grew.trans hM4 hb5
   have OWN5 : Hid (w5.ownsRow w3.heap.size 23 32 v0 k (k32L Z k)) := zqbc OWN4.out hb5
   have l3 := HX3.out.loadB hi hM5
   rw [show (⟨g, 0, none⟩ : Addr).add (i * 32) = ⟨g, i * 32, none⟩ by rw [add_lit0, Nat.zero_add]] at l3
   clear hM4 OWN4 hb5 cI fv lfv
   go_wp2_with fail
   refine (cBi _).mono ?_
   rintro e w6 ⟨rfl, hb6⟩
   have hM6 := Grew.trans hM5 hb6
   have OWN6 := zqbc OWN5.out hb6
   clear OWN5 hM5 hb6 cBi l3
   obtain ⟨g3, c3, w7, hr3, own3, hb7, -⟩ := zqjc w3 (w6.alloc (.cells (ints .u8 32 (pubF (TT i))) 23)) w3.heap.size v0 k Z w6.heap.size _ _ (OWN6.alloc _) (by omega) (by rw [hZ]; exact zqh _ _ _ rfl) (Grew.alloc hM6 _) (Nat.le_refl _) (by simp; have := hM6.size; omega)
   have OWN7 : Hid (w7.ownsRow w3.heap.size 23 32 (.slice (some ⟨g3, 0, none⟩) (k + 1) c3) (k + 1) (k32L Z (k + 1))) := own3
   clear own3 OWN6
   go_wp2
   go_roundw
   case rel => exact ⟨k + 1, _, rfl, by omega, by go_num, hb7, OWN7⟩
   case measure => (simp [intOf] <;> omega)
  ·obtain rfl : k = C.length := by omega
   obtain ⟨oa2, c2, rfl, -, hK2⟩ := zqff OWN.out
   have HK2 : Hid (K32At wr oa2 C.length Z) := hK2
   clear OWN hK2
   go_wp2
   go_ret
   exact ⟨oa2, c2, rfl, HK2.out, Grew.trans hG hM⟩
end Go.Proofs.YtconieddcjpbjaaGreatDoor
