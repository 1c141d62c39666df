/- L11 -/
import Derived.Test.YtfglcifnjaknnaaGreatDoorR11
import Derived.Test.YtfglcifnjaknnaaGreatDoorOw
import Derived.Test.YtfglcifnjaknnaaGreatDoorR10
import Derived.Deep.RegionHeld3
set_option linter.unusedVariables false
set_option linter.unusedSimpArgs false
set_option maxRecDepth 100000
set_option maxHeartbeats 4000000
namespace Go.Proofs.YtfglcifnjaknnaaGreatDoor
open Go.RowKit
theorem zqw4 (oa ob : Option Addr) (c d : Nat) (L : List Nd) (w : World) (hA : NdsAt w oa L) (hB : NdsAt w ob L) (hL : L.length <= 100000) :
  Calls Tryz.prog 243 #[.slice oa L.length c, .slice ob L.length d] w (Rt w (.bool true)) := by
 have HA : Hid (NdsAt w oa L) := hA;have HB : Hid (NdsAt w ob L) := hB;clear hA hB
 go_enter Tryz.func243, Tryz.ntmps243
 go_wp2_with fail
 go_loopw [13, 5] (fun i _ wr => ∃ k : Nat, k <= L.length /\ i = .int .i64 k /\ Below w.heap.size w wr) (fun i _ _ => L.length - (intOf i).toNat)
 case atStart => exact ⟨0, by omega, rfl, Grew.refl _⟩
 case round =>
  obtain ⟨k, hk, rfl, hM⟩ := hrel
  by_cases hlt : k < L.length
  ·obtain ⟨u, hu⟩ : ∃ u, L[k]? = some u := ⟨_, List.getElem?_eq_getElem hlt⟩
   rcases HA.out.later hM with h0 | ⟨g, o, rfl, hg, hl⟩
   ·subst h0; simp at hlt
   obtain ⟨l1, l2⟩ := hl k u hu;have l1' : cellOf (zqe wr g) (o + k * 2) = some (.int .i64 u.f) := by rw [Nat.mul_comm]; exact l1
   have l2' : cellOf (zqe wr g) (o + k * 2 + 1) = some (.int .i64 u.s) := by rw [Nat.mul_comm]; exact l2
   rcases HB.out.later hM with h0 | ⟨g', o', rfl, hg', hl'⟩
   ·subst h0; simp at hlt
   obtain ⟨m1, m2⟩ := hl' k u hu;have m1' : cellOf (zqe wr g') (o' + k * 2) = some (.int .i64 u.f) := by rw [Nat.mul_comm]; exact m1
   have m2' : cellOf (zqe wr g') (o' + k * 2 + 1) = some (.int .i64 u.s) := by rw [Nat.mul_comm]; exact m2
   have hi1 : (k : Int) < (L.length : Int) := by omega
   have hi0 : (0 : Int) <= (k : Int) := by omega
   clear hl hl' l1 l2 m1 m2;go_wp2_with fail
   ((first | (with_reducible refine zqab zqb zqb ?_) | refine zq2 zqb zqb ?_); (refine zAi ?_); refine wpQuiet_nil ?_; rintro _ ⟨mq, rfl⟩)
   have hM2 := Grew.trans hM (zqo wr mq);generalize more wr mq = w2 at *;go_wp2
   go_roundw
   case rel => first | exact ⟨k + 1, by omega, by go_num, hM2⟩ | ((repeat' apply Exists.intro) <;> first | exact ⟨⟨k + 1, by omega, by go_num, hM2⟩, rfl⟩ | exact undef)
   case measure => (simp [intOf] <;> omega)
  ·obtain rfl : k = L.length := by omega
   go_wp2;go_ret;exact ⟨rfl, hM⟩
theorem zrkx : zqw 3 = 2 := zqrc (j := 1) (by decide) (by decide)
theorem zrks : zqw 2 = 1 := zqrc (j := 0) (by decide) (by decide)
theorem all3 : allN 3 = [⟨0, 3⟩, ⟨0, 2⟩, ⟨0, 1⟩, ⟨1, 1⟩, ⟨2, 1⟩] := by
 have e : allN ((3 : Nat) : Int) = zqae 0 3 := zqhi (by decide) (by decide);rw [show (3 : Int) = ((3 : Nat) : Int) from rfl, e, zqa9 (by decide), zrkx, zqa9 (f := 0) (s := 2) (by decide), zrks, zqbl (by decide), zqbl (by decide), zqbl (by decide)]
 rfl
theorem zq9r {w : World} {g : Nat} {t : TypeId} {fr : Nat × Nat} (h : zqe w g = some (.cells #[.int .i64 0, .int .i64 3, .int .i64 0, .int .i64 2, .int .i64 0, .int .i64 1, .int .i64 1, .int .i64 1, .int .i64 2, .int .i64 1] t fr)) : NdsAt w (some ⟨g, 0, none⟩) (allN 3) := by
 rw [all3];refine .inr ⟨g, 0, rfl, zqa h, fun i v hv => ?_⟩;rw [h, zqb9, zqb9, Nat.zero_add];have hi : i < 5 := (List.getElem?_eq_some_iff.1 hv).1
 rcases (by omega : i = 0 \/ i = 1 \/ i = 2 \/ i = 3 \/ i = 4) with rfl | rfl | rfl | rfl | rfl <;> (simp at hv; subst hv; exact ⟨rfl, rfl⟩)
theorem zqsa (pA : ∀ (n : Int) (W : World), Calls Tryz.prog 209 #[.int .i64 n] W (zqqb W (allN n))) (aw10 : ∀ W : World, Tabs W -> Calls Tryz.prog 242 #[] W (Rt W (.bool true))) (w : World) (hT : Tabs w) :
  Calls Tryz.prog 241 #[] w (Rt w (.bool true)) := by
 have hTT : Hid (Tabs w) := hT;clear hT;have c1 := fun W : World => pA 3 W;have hl : (allN 3).length = 5 := by rw [all3]; rfl
 have HL : Hid (∀ (W : World) (g : Nat) (t : TypeId) (fr : Nat × Nat), zqe W g = some (.cells #[.int .i64 0, .int .i64 3, .int .i64 0, .int .i64 2, .int .i64 0, .int .i64 1, .int .i64 1, .int .i64 1, .int .i64 2, .int .i64 1] t fr) -> NdsAt W (some ⟨g, 0, none⟩) (allN 3)) := fun W g t fr h => zq9r h;generalize allN 3 = L at *;have hG := Grew.refl w
 go_enter Tryz.func241, Tryz.ntmps241
 go_wp2_with fail
 (refine (aw10 _ (hTT.out.later hG)).mono ?_; rintro e w1 ⟨rfl, hb⟩; replace hG : Below w.heap.size w w1 := Grew.trans (by exact zqf) hb; clear hb)
 go_wp2_with fail;refine (c1 _).mono ?_
 rintro e w2 ⟨oa, c, rfl, hN, hb⟩;have hG2 : Below w.heap.size w w2 := Grew.trans hG hb;clear hb;have HN : Hid (NdsAt w2 oa L) := hN;clear hN;go_wp2_with fail;have c2 := fun W d (h : NdsAt W oa L) (h2 : NdsAt W (some ⟨w2.heap.size, 0, none⟩) L) => zqw4 oa (some ⟨w2.heap.size, 0, none⟩) c d L W h h2 (by omega);rw [hl] at c2;refine (c2 _ _ (HN.out.later (Grew.alloc (Grew.refl _) _)) (HL.out _ _ _ _ (zqg _ _ _ rfl))).mono ?_
 rintro e w3 ⟨rfl, hb3⟩;have hG3 : Below w.heap.size w w3 := Grew.trans (Grew.alloc hG2 _) hb3;go_wp2;go_ret;exact ⟨rfl, hG3⟩
theorem zqte (aw : ∀ W : World, Tabs W -> Calls Tryz.prog 244 #[] W (Rt W (.bool true))) (w : World) (hT : Tabs w) :
  Calls Tryz.prog 242 #[] w (Rt w (.bool true)) := by
 have hG := Grew.refl w
 go_enter Tryz.func242, Tryz.ntmps242
 go_wp2_with fail
 (refine (aw _ hT).mono ?_; rintro e w1 ⟨rfl, hb⟩; replace hG : Below w.heap.size w w1 := Grew.trans (by exact zqf) hb; clear hb)
 go_wp2;go_ret;exact ⟨rfl, by exact zqf⟩
def AllC : Prop := ∀ (n : Int) (W : World), Calls Tryz.prog 209 #[.int .i64 n] W (zqqb W (allN n))
theorem zqzs (v : Nd) : ∀ (L : List Nd) (i k : Nat), L.Nodup -> L[k]? = some v -> idxN v.f v.s L i = ((i + k : Nat) : Int)
 | [], i, k, _, h => by simp at h
 | u :: L, i, 0, _, h => by
  simp at h
  subst h;rw [idxN, if_pos ⟨rfl, rfl⟩]
  simp
 | u :: L, i, k + 1, hn, h => by
  have hn' := List.nodup_cons.1 hn;have h' : L[k]? = some v := by simpa using h
  have hm : v ∈ L := List.mem_of_getElem? h';have hne : ¬ (u.f = v.f /\ u.s = v.s) := fun e => hn'.1 (by
   have : u = v := by cases u; cases v; simp_all
   rw [this]; exact hm)
  rw [idxN, if_neg hne, zqzs v L (i + 1) k hn'.2 h']
  congr 1
  omega
theorem zqxj (n j : Nat) (h0 : 1 <= n) (h : j < n) : (zqdy n j).Nodup := by
 rw [<- zqhp n j h0 h];exact List.Nodup.sublist List.filter_sublist (List.pairwise_reverse.2 ((zqmd 0 n h0).imp fun h => h.symm))
theorem w64 (x : Nat) (h : x <= 1048576) : wrap64 (x : Int) = (x : Int) := by unfold wrap64; omega
theorem zq1r (n : Nat) : madeCells (Value.int .i64 0).cells n = ints .i64 n zqd := by
 have hc : (Value.int .i64 0).cells = #[Value.int .i64 0] := rfl;unfold madeCells ints;rw [hc]
 apply Array.ext (by simp)
 intro i h1 h2
 simp [Nat.mod_one, zqd]
@[go_sem high] theorem zrfp (w : World) : (Instr.makeSlice 175 (.int .i64 1024) (.int .i64 1024)).run Tryz.prog w = .ok (.slice (some ⟨w.heap.size, 0, none⟩) 1024 1024) (w.alloc (.cells (ints .i64 1024 zqd) 3)) := by
 obtain ⟨i, hi, hz, hs, hb⟩ : ∃ i, Tryz.prog.info? 3 = some i /\ i.zero = some (.int .i64 0) /\ i.size = 1 /\ i.bytes = 8 := ⟨(Tryz.prog.info? 3).get zqb, by kernel_rfl, by kernel_rfl, by kernel_rfl, by kernel_rfl⟩
 have h := run_make (P := Tryz.prog) w 175 3 i _ Tryz.underlying175 hi hz .i64 .i64 1024 1024 (by decide) (by decide) (by rw [hb]; decide) (by decide);rw [hs, zq1r] at h;exact h
theorem NdsAt.cells {w : World} {oa : Option Addr} {L : List Nd} {k : Nat} {u : Nd} (h : NdsAt w oa L) (hu : L[k]? = some u) : ∃ g o, oa = some ⟨g, o, none⟩ /\ g < w.heap.size /\ cellOf (zqe w g) (o + k * 2) = some (.int .i64 u.f) /\ cellOf (zqe w g) (o + k * 2 + 1) = some (.int .i64 u.s) := by
 rcases h with h0 | ⟨g, o, rfl, hg, hl⟩
 ·subst h0; simp at hu
 ·obtain ⟨l1, l2⟩ := hl k u hu
  rw [Nat.mul_comm] at l1 l2;exact ⟨g, o, rfl, hg, l1, l2⟩
def zq9w (w : World) (L : List Nd) (e : Ending) (w' : World) : Prop := ∃ oa c, e = .returned (.slice oa L.length c) /\ L.length <= c /\ NdsAt w' oa L /\ Below w.heap.size w w'
theorem NdsAt.drop {w : World} {g o : Nat} {L : List Nd} (h : NdsAt w (some ⟨g, o, none⟩) L) (i : Nat) : NdsAt w (some ⟨g, o + i * 2, none⟩) (L.drop i) := by
 rcases h with h | ⟨g', o', e, hg, hl⟩
 ·exact .inl (by rw [h]; exact List.drop_nil)
 ·cases e
  refine .inr ⟨g, _, rfl, hg, fun k v hv => ?_⟩;rw [List.getElem?_drop] at hv;obtain ⟨l1, l2⟩ := hl _ _ hv;rw [show o + i * 2 + 2 * k = o + 2 * (i + k) by omega];exact ⟨l1, l2⟩
end Go.Proofs.YtfglcifnjaknnaaGreatDoor
