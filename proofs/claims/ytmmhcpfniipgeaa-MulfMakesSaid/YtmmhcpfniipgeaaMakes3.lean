/- MulfMakes. -/
import Derived.Test.YtmmhcpfniipgeaaRefProd
import Derived.Test.YtmmhcpfniipgeaaInvMakes
namespace Go.Proofs.Ytmmhcpfniipgeaa
open Go.RowKit
set_option linter.unusedVariables false
set_option linter.unusedSimpArgs false

theorem hid_of {p : Prop} (h : p) : Hid p := h
theorem grown_of_below {w w' : World} (hb : Below w.heap.size w w') : w.grownBy w' none := ⟨hb.os, hb.tape, hb.output, hb.size, fun k hk _ => hb.block k hk⟩
theorem own_below {w w' : World} {base : Nat} {e : TypeId} {size : Nat} {v : Value} {n : Nat} {xs : List Value} (h : w.ownsRow base e size v n xs) (hb : Below w.heap.size w w') : w'.ownsRow base e size v n xs :=
  h.kept (grown_of_below hb) (by cases v.ownBlock <;> simp)
/-- an append of one number -/
theorem append_num (w W : World) (v : Value) (j : Nat) (G : Nat → Int) (g2 : Nat) (ty : TypeId) (own : W.ownsRow (w.heap.size + 2) 41 16 v j (numsL G j)) (hj : j ≤ 20)
    (hg2 : objAt W g2 = some (.cells (ints .i64 16 (numN (G j))) 41)) (hG : Below w.heap.size w W) (h2 : w.heap.size + 2 ≤ W.heap.size) :
    ∃ v' w', (appendNext #[56, 56] ty #[v, .slice (some ⟨g2, 0, none⟩) 1 1]).run Try.prog W = .ok (.value v') w' ∧ w'.ownsRow (w.heap.size + 2) 41 16 v' (j + 1) (numsL G (j + 1)) ∧
      Below w.heap.size w w' ∧ ∀ n o, n < w.heap.size + 2 → objAt W n = some o → objAt w' n = some o := by
  obtain ⟨v', w', hr, ho, hg, _⟩ := run_append_own (P := Try.prog) W (w.heap.size + 2) 56 ty 41 ((Try.prog.info? 41).get (by kernel_rfl)) (((Try.prog.info? 41).get (by kernel_rfl)).zero.get (by kernel_rfl)) 16 128
    Try.underlying56 (by kernel_rfl) (by kernel_rfl) (by kernel_rfl) (by kernel_rfl) (by kernel_rfl) (by decide) v j (numsL G j) own ⟨g2, 0, none⟩ 1 1 (ints .i64 16 (numN (G j))).toList (by rw [Array.length_toList, ints_size])
    (fun i u hu => by
      unfold objAt at hg2
      have ha : ((⟨g2, 0, none⟩ : Addr).add i) = ⟨g2, i, none⟩ := by unfold Addr.add; split <;> simp_all
      rw [ha, cell_of_row W g2 i _ _ _ hg2]
      simpa using hu) (fun u hu => (Array.all_eq_true_iff_forall_mem.1 (ints_ones .i64 16 (numN (G j)))) u (by simpa using hu)) (by unfold maxLen; omega) (by omega) h2
  refine ⟨v', w', by unfold appendNext; simp only [Sem.run_bind, hr, Result.andThen_ok, Sem.run_pure], ho, hG.grown hg (by omega) (fun k hk => ?_), fun n o hn hob => ?_⟩
  · have := (own.lt k hk).1; omega
  · have hlt := lt_of_objAt hob
    refine (hg.block n hlt fun e => ?_).trans hob
    have := (own.lt n e.symm).1
    omega
theorem nv_prod (F : Nat → Nat → Int) : ∀ n, nv (prodF F n) = prodN (fun i => nv (F i)) n
  | 0 => nv_one
  | n + 1 => by rw [prodF, nv_mul, nv_prod F n]; rfl
def build1Next (v : Value) : Sem Next := do pure (.value (← Instr.buildSlice 56 1 #[(0, v)]))
@[go_sem ↓ high] theorem op_build1 (ρ : Operand → Value) (d : Option Tmp) (x : Operand) (t : TypeId) (pos : String) (af : Array Edge) (g : Option (Nat × Bool)) :
    execOp ρ ⟨d, .buildSlice 56 1 #[(0, x)], t, pos, af, g⟩ = build1Next (ρ x) := by
  unfold execOp build1Next
  simp only [List.map_toArray, List.map_cons, List.map_nil]
@[go_sem high] theorem op_build1' (ρ : Operand → Value) (d : Option Tmp) (x : Operand) (t : TypeId) (pos : String) (af : Array Edge) (g : Option (Nat × Bool)) :
    execOp ρ ⟨d, .buildSlice 56 1 #[(0, x)], t, pos, af, g⟩ = build1Next (ρ x) := op_build1 ρ d x t pos af g
@[go_sem] theorem run_build1 (f : Nat → Int) (W : World) : (build1Next (.agg (ints .i64 16 f))).run Try.prog W = .ok (.value (.slice (some ⟨W.heap.size, 0, none⟩) 1 1)) (W.alloc (.cells (ints .i64 16 f) 41)) := by
  unfold build1Next
  simp only [Sem.run_bind, build1, Result.andThen_ok, Sem.run_pure]
attribute [irreducible] build1Next
@[go_sem ↓ high] theorem append_nums (ty : TypeId) (cs : Array Bool) (args : Array Value) : builtin .append #[56, 56] ty cs args = appendNext #[56, 56] ty args := by unfold appendNext; rfl
structure MkInv (F : Nat → Nat → Int) (a b : Nat → Int) (w : World) (j : Nat) (v : Value) (wr : World) : Prop where
  u : ∀ k, k < j → Under 18014398509481984 (F k)
  g : Below w.heap.size w wr
  fa : objAt wr w.heap.size = some (.cells (ints .u64 5 a) 37)
  fb : objAt wr (w.heap.size + 1) = some (.cells (ints .u64 5 b) 37)
  own : wr.ownsRow (w.heap.size + 2) 41 16 v j (numsL (fun i => nv (F i)) j)
set_option maxRecDepth 100000 in
set_option maxHeartbeats 4000000 in
theorem makes3_any (a b : Nat → Int) (x : Int) (F : Nat → Nat → Int) (n c : Nat) (oa : Option Addr) (w : World) (ha : W64 5 a) (hb : W64 5 b) (hx : 0 ≤ x ∧ x ≤ 4294967295)
    (hF : ∀ j, j < n → ∀ i, i < 5 → 0 ≤ F j i ∧ F j i ≤ 18446744073709551615) (hn : n ≤ 9223372036854775807) (hl : ElemsAt w oa n F) :
    Calls Try.prog 10 #[.agg (ints .u64 5 a), .agg (ints .u64 5 b), .int .u32 x, .slice oa n c] w fun e w' => e = .returned (.bool true) ∧ Below w.heap.size w w' := by
  have hLd : Hid (ElemsAt w oa n F) := hl
  clear hl
  have hG := Grew.refl w
  have fa : True := trivial
  have fb : True := trivial
  have hla : underB 18014398509481984 a = true → Under 18014398509481984 a := fun h i hi => ⟨(ha i hi).1, (underB_iff _ _).1 h i hi⟩
  have hlb : underB 18014398509481984 b = true → Under 18014398509481984 b := fun h i hi => ⟨(hb i hi).1, (underB_iff _ _).1 h i hi⟩
  generalize hA : underB 18014398509481984 a = A
  generalize hB : underB 18014398509481984 b = B
  go_enter Try.func10, Try.ntmps10
  go_wp2_with fail
  (refine (awake3_any _).mono ?_; rintro e w1 ⟨rfl, hb⟩; replace fa : objAt w1 (w.heap.size) = some (.cells (ints .u64 5 a) 37) := keep_below hb (by (repeat (first | assumption | exact objAt_alloc_at _ _ _ rfl | (refine objAt_alloc_at _ _ _ ?_; (simp; done)) | refine keep_alloc _ ?_ | refine keep_drewN _ ?_ | refine keep_more _ ?_ | exact keep_row _ (by assumption) | refine keep_setRow _ _ ?_ (by first | omega | (simp; omega) | simp)))); have lfa := lt_of_objAt fa; replace fb : objAt w1 (w.heap.size + 1) = some (.cells (ints .u64 5 b) 37) := keep_below hb (by (repeat (first | assumption | exact objAt_alloc_at _ _ _ rfl | (refine objAt_alloc_at _ _ _ ?_; (simp; done)) | refine keep_alloc _ ?_ | refine keep_drewN _ ?_ | refine keep_more _ ?_ | exact keep_row _ (by assumption) | refine keep_setRow _ _ ?_ (by first | omega | (simp; omega) | simp)))); have lfb := lt_of_objAt fb; replace hG : Below w.heap.size w w1 := Grew.trans (by (repeat (first | assumption | exact Grew.refl _ | refine Grew.more ?_ _ | refine Grew.alloc ?_ _ | refine Grew.drewN ?_ _ | refine Grew.setRow ?_ _ _ (by omega) | refine Grew.setRow ?_ _ _ (by simp; omega) | refine Grew.setRow ?_ _ _ (by simp)))) hb; clear hb)
  go_wp2_with fail
  (refine (loose_is a _ hA).mono ?_; rintro e w2 ⟨rfl, hb⟩; replace fa : objAt w2 (w.heap.size) = some (.cells (ints .u64 5 a) 37) := keep_below hb (by (repeat (first | assumption | exact objAt_alloc_at _ _ _ rfl | (refine objAt_alloc_at _ _ _ ?_; (simp; done)) | refine keep_alloc _ ?_ | refine keep_drewN _ ?_ | refine keep_more _ ?_ | exact keep_row _ (by assumption) | refine keep_setRow _ _ ?_ (by first | omega | (simp; omega) | simp)))); have lfa := lt_of_objAt fa; replace fb : objAt w2 (w.heap.size + 1) = some (.cells (ints .u64 5 b) 37) := keep_below hb (by (repeat (first | assumption | exact objAt_alloc_at _ _ _ rfl | (refine objAt_alloc_at _ _ _ ?_; (simp; done)) | refine keep_alloc _ ?_ | refine keep_drewN _ ?_ | refine keep_more _ ?_ | exact keep_row _ (by assumption) | refine keep_setRow _ _ ?_ (by first | omega | (simp; omega) | simp)))); have lfb := lt_of_objAt fb; replace hG : Below w.heap.size w w2 := Grew.trans (by (repeat (first | assumption | exact Grew.refl _ | refine Grew.more ?_ _ | refine Grew.alloc ?_ _ | refine Grew.drewN ?_ _ | refine Grew.setRow ?_ _ _ (by omega) | refine Grew.setRow ?_ _ _ (by simp; omega) | refine Grew.setRow ?_ _ _ (by simp)))) hb; clear hb)
  cases A
  · go_wp2
    go_ret
    exact ⟨rfl, by (repeat (first | assumption | exact Grew.refl _ | refine Grew.more ?_ _ | refine Grew.alloc ?_ _ | refine Grew.drewN ?_ _ | refine Grew.setRow ?_ _ _ (by omega) | refine Grew.setRow ?_ _ _ (by simp; omega) | refine Grew.setRow ?_ _ _ (by simp)))⟩
  · go_wp2_with fail
    (refine (loose_is b _ hB).mono ?_; rintro e w3 ⟨rfl, hb⟩; replace fa : objAt w3 (w.heap.size) = some (.cells (ints .u64 5 a) 37) := keep_below hb (by (repeat (first | assumption | exact objAt_alloc_at _ _ _ rfl | (refine objAt_alloc_at _ _ _ ?_; (simp; done)) | refine keep_alloc _ ?_ | refine keep_drewN _ ?_ | refine keep_more _ ?_ | exact keep_row _ (by assumption) | refine keep_setRow _ _ ?_ (by first | omega | (simp; omega) | simp)))); have lfa := lt_of_objAt fa; replace fb : objAt w3 (w.heap.size + 1) = some (.cells (ints .u64 5 b) 37) := keep_below hb (by (repeat (first | assumption | exact objAt_alloc_at _ _ _ rfl | (refine objAt_alloc_at _ _ _ ?_; (simp; done)) | refine keep_alloc _ ?_ | refine keep_drewN _ ?_ | refine keep_more _ ?_ | exact keep_row _ (by assumption) | refine keep_setRow _ _ ?_ (by first | omega | (simp; omega) | simp)))); have lfb := lt_of_objAt fb; replace hG : Below w.heap.size w w3 := Grew.trans (by (repeat (first | assumption | exact Grew.refl _ | refine Grew.more ?_ _ | refine Grew.alloc ?_ _ | refine Grew.drewN ?_ _ | refine Grew.setRow ?_ _ _ (by omega) | refine Grew.setRow ?_ _ _ (by simp; omega) | refine Grew.setRow ?_ _ _ (by simp)))) hb; clear hb)
    cases B
    · go_wp2
      go_ret
      exact ⟨rfl, by (repeat (first | assumption | exact Grew.refl _ | refine Grew.more ?_ _ | refine Grew.alloc ?_ _ | refine Grew.drewN ?_ _ | refine Grew.setRow ?_ _ _ (by omega) | refine Grew.setRow ?_ _ _ (by simp; omega) | refine Grew.setRow ?_ _ _ (by simp)))⟩
    · by_cases h40 : n ≤ 20
      · have hua := hla hA
        have hub := hlb hB
        clear hla hlb hA hB
        have hs3 := hG.size
        have hb3 := lfb
        go_wp2_with fail
        go_loopw [9, 31] (fun v i wr => ∃ j : Nat, j ≤ n ∧ i = .int .i64 j ∧ MkInv F a b w j v wr) (fun _ i _ => n - (intOf i).toNat)
        case atStart => exact ⟨0, by omega, rfl, ⟨fun k hk => by omega, by (repeat (first | assumption | exact Grew.refl _ | refine Grew.more ?_ _ | refine Grew.alloc ?_ _ | refine Grew.drewN ?_ _ | refine Grew.setRow ?_ _ _ (by omega) | refine Grew.setRow ?_ _ _ (by simp; omega) | refine Grew.setRow ?_ _ _ (by simp))), by (repeat (first | assumption | exact objAt_alloc_at _ _ _ rfl | (refine objAt_alloc_at _ _ _ ?_; (simp; done)) | refine keep_alloc _ ?_ | refine keep_drewN _ ?_ | refine keep_more _ ?_ | exact keep_row _ (by assumption) | refine keep_setRow _ _ ?_ (by first | omega | (simp; omega) | simp))), by (repeat (first | assumption | exact objAt_alloc_at _ _ _ rfl | (refine objAt_alloc_at _ _ _ ?_; (simp; done)) | refine keep_alloc _ ?_ | refine keep_drewN _ ?_ | refine keep_more _ ?_ | exact keep_row _ (by assumption) | refine keep_setRow _ _ ?_ (by first | omega | (simp; omega) | simp))), ⟨rfl, .inl ⟨rfl, rfl⟩⟩⟩⟩
        case round =>
          clear fa fb hG lfa lfb
          obtain ⟨j, hj, rfl, I⟩ := hrel
          obtain ⟨hu, hG, fa, fb, own⟩ := I
          have lfa := lt_of_objAt fa
          have lfb := lt_of_objAt fb
          have Hu : Hid (∀ k, k < j → Under 18014398509481984 (F k)) := hu
          clear hu
          have OWN := hid_of own
          clear own
          by_cases hlt : j < n
          · rcases hLd.out with h0 | ⟨ad, rfl, hl⟩
            · omega
            have l1 := hl wr hG j hlt
            clear hl
            have hFj := hF j hlt
            have HU : Hid (underB 18014398509481984 (F j) = true → Under 18014398509481984 (F j)) := fun h i hi => ⟨(hFj i hi).1, (underB_iff _ _).1 h i hi⟩
            generalize hL : underB 18014398509481984 (F j) = L at *
            go_wp2_with fail
            refine (loose_is (F j) _ hL).mono ?_
            rintro e w4 ⟨rfl, hb4⟩
            have OWN4 := hid_of (own_below (World.ownsRow.alloc OWN.out _) hb4)
            replace fa : objAt w4 (w.heap.size) = some (.cells (ints .u64 5 a) 37) := keep_below hb4 (by (repeat (first | assumption | exact objAt_alloc_at _ _ _ rfl | (refine objAt_alloc_at _ _ _ ?_; (simp; done)) | refine keep_alloc _ ?_ | refine keep_drewN _ ?_ | refine keep_more _ ?_ | exact keep_row _ (by assumption) | refine keep_setRow _ _ ?_ (by first | omega | (simp; omega) | simp))))
            replace fb : objAt w4 (w.heap.size + 1) = some (.cells (ints .u64 5 b) 37) := keep_below hb4 (by (repeat (first | assumption | exact objAt_alloc_at _ _ _ rfl | (refine objAt_alloc_at _ _ _ ?_; (simp; done)) | refine keep_alloc _ ?_ | refine keep_drewN _ ?_ | refine keep_more _ ?_ | exact keep_row _ (by assumption) | refine keep_setRow _ _ ?_ (by first | omega | (simp; omega) | simp))))
            have fe : objAt w4 wr.heap.size = some (.cells (ints .u64 5 (F j)) 37) := keep_below hb4 (by (repeat (first | assumption | exact objAt_alloc_at _ _ _ rfl | (refine objAt_alloc_at _ _ _ ?_; (simp; done)) | refine keep_alloc _ ?_ | refine keep_drewN _ ?_ | refine keep_more _ ?_ | exact keep_row _ (by assumption) | refine keep_setRow _ _ ?_ (by first | omega | (simp; omega) | simp))))
            replace hG : Below w.heap.size w w4 := Grew.trans (by (repeat (first | assumption | exact Grew.refl _ | refine Grew.more ?_ _ | refine Grew.alloc ?_ _ | refine Grew.drewN ?_ _ | refine Grew.setRow ?_ _ _ (by omega) | refine Grew.setRow ?_ _ _ (by simp; omega) | refine Grew.setRow ?_ _ _ (by simp)))) hb4
            clear hb4 OWN lfa lfb
            have lfa := lt_of_objAt fa
            have lfb := lt_of_objAt fb
            have lfe := lt_of_objAt fe
            cases L
            · go_wp2
              go_ret
              exact ⟨rfl, by (repeat (first | assumption | exact Grew.refl _ | refine Grew.more ?_ _ | refine Grew.alloc ?_ _ | refine Grew.drewN ?_ _ | refine Grew.setRow ?_ _ _ (by omega) | refine Grew.setRow ?_ _ _ (by simp; omega) | refine Grew.setRow ?_ _ _ (by simp)))⟩
            · clear l1 hL
              go_wp2_with fail
              refine (limbsNv_any (F j) _ hFj).mono ?_
              rintro e w5 ⟨rfl, hb5⟩
              have OWN5 := hid_of (own_below OWN4.out hb5)
              replace fa : objAt w5 (w.heap.size) = some (.cells (ints .u64 5 a) 37) := keep_below hb5 (by (repeat (first | assumption | exact objAt_alloc_at _ _ _ rfl | (refine objAt_alloc_at _ _ _ ?_; (simp; done)) | refine keep_alloc _ ?_ | refine keep_drewN _ ?_ | refine keep_more _ ?_ | exact keep_row _ (by assumption) | refine keep_setRow _ _ ?_ (by first | omega | (simp; omega) | simp))))
              replace fb : objAt w5 (w.heap.size + 1) = some (.cells (ints .u64 5 b) 37) := keep_below hb5 (by (repeat (first | assumption | exact objAt_alloc_at _ _ _ rfl | (refine objAt_alloc_at _ _ _ ?_; (simp; done)) | refine keep_alloc _ ?_ | refine keep_drewN _ ?_ | refine keep_more _ ?_ | exact keep_row _ (by assumption) | refine keep_setRow _ _ ?_ (by first | omega | (simp; omega) | simp))))
              replace hG : Below w.heap.size w w5 := Grew.trans (by (repeat (first | assumption | exact Grew.refl _ | refine Grew.more ?_ _ | refine Grew.alloc ?_ _ | refine Grew.drewN ?_ _ | refine Grew.setRow ?_ _ _ (by omega) | refine Grew.setRow ?_ _ _ (by simp; omega) | refine Grew.setRow ?_ _ _ (by simp)))) hb5
              clear hb5 OWN4 lfa lfb fe lfe
              have lfa := lt_of_objAt fa
              have lfb := lt_of_objAt fb
              obtain ⟨v', w6, hrun, own6, hG6, hk6⟩ := append_num w (w5.alloc (.cells (ints .i64 16 (numN (nv (F j)))) 41)) _ j (fun i => nv (F i)) w5.heap.size 56 (World.ownsRow.alloc OWN5.out _) (by omega) (by (repeat (first | assumption | exact objAt_alloc_at _ _ _ rfl | (refine objAt_alloc_at _ _ _ ?_; (simp; done)) | refine keep_alloc _ ?_ | refine keep_drewN _ ?_ | refine keep_more _ ?_ | exact keep_row _ (by assumption) | refine keep_setRow _ _ ?_ (by first | omega | (simp; omega) | simp)))) (by (repeat (first | assumption | exact Grew.refl _ | refine Grew.more ?_ _ | refine Grew.alloc ?_ _ | refine Grew.drewN ?_ _ | refine Grew.setRow ?_ _ _ (by omega) | refine Grew.setRow ?_ _ _ (by simp; omega) | refine Grew.setRow ?_ _ _ (by simp)))) (by simp; omega)
              have fa6 := hk6 _ _ (by omega) (show objAt (w5.alloc (.cells (ints .i64 16 (numN (nv (F j)))) 41)) (w.heap.size) = some (.cells (ints .u64 5 a) 37) by (repeat (first | assumption | exact objAt_alloc_at _ _ _ rfl | (refine objAt_alloc_at _ _ _ ?_; (simp; done)) | refine keep_alloc _ ?_ | refine keep_drewN _ ?_ | refine keep_more _ ?_ | exact keep_row _ (by assumption) | refine keep_setRow _ _ ?_ (by first | omega | (simp; omega) | simp))))
              have fb6 := hk6 _ _ (by omega) (show objAt (w5.alloc (.cells (ints .i64 16 (numN (nv (F j)))) 41)) (w.heap.size + 1) = some (.cells (ints .u64 5 b) 37) by (repeat (first | assumption | exact objAt_alloc_at _ _ _ rfl | (refine objAt_alloc_at _ _ _ ?_; (simp; done)) | refine keep_alloc _ ?_ | refine keep_drewN _ ?_ | refine keep_more _ ?_ | exact keep_row _ (by assumption) | refine keep_setRow _ _ ?_ (by first | omega | (simp; omega) | simp))))
              have I6 : Hid (MkInv F a b w (j + 1) v' w6) := ⟨fun k hk => by
                rcases (by omega : k < j ∨ k = j) with h | rfl
                · exact Hu.out k h
                · exact HU.out (by trivial), hG6, fa6, fb6, own6⟩
              clear OWN5 own6 hG6 hk6 fa6 fb6
              go_wp2
              go_roundw
              case rel => exact ⟨j + 1, by omega, by go_num, I6.out⟩
              case measure => simp [intOf] <;> omega
          · obtain rfl : j = n := by omega
            clear hlt
            obtain ⟨oa2, c2, rfl, hN⟩ := nums_of_own OWN.out
            have hE := hLd.out.later hG
            clear OWN hLd
            have hG0 := hG
            go_wp2_with fail
            (refine wp_rel (by kernel_rfl) (by kernel_rfl) ?_; (repeat (first | refine exv_skip rfl ?_ | (refine exv_call rfl ?_; apply Exists.intro))); refine exv_nil ?_; intro γ hinj hbase; (repeat (first | (refine rel_quiet rfl ?_; ((first | go_big_quiet_skip | (go_big_quiet_want; go_big_quiet_op; go_big_quiet_on)); refine wpQuiet_nil ?_)) | (first | (refine rel_skip_some rfl (fun _ => rfl) ?_; ((first | go_big_quiet_skip | (go_big_quiet_want; go_big_quiet_op; go_big_quiet_on)); refine wpQuiet_nil ?_)) | refine rel_skip_none rfl (fun _ => rfl) ?_) | ((try simp only [Nat.zero_add, Nat.reduceAdd]); apply rel_box alloc_cls; (focus rfl); (focus (first | exact cells_agg _ | exact cells_int _ _ | exact cells_bool _ | rfl)); (focus ((repeat (refine fits_cons ⟨by (first | exact stab_full _ _ _ | exact stab_hdr _ _ _ | exact stab_hdr_at _ _ _ _ | exact stab_full_at _ _ _ _ (hinj _ _ (by decide))), by (first | exact stab_full _ _ _ | exact stab_hdr _ _ _ | exact stab_hdr_at _ _ _ _ | exact stab_full_at _ _ _ _ (hinj _ _ (by decide)))⟩ ?_)); exact fits_nil (by (first | exact stab_full _ _ _ | exact stab_hdr _ _ _ | exact stab_hdr_at _ _ _ _ | exact stab_full_at _ _ _ _ (hinj _ _ (by decide)))))); ((first | go_big_quiet_skip | (go_big_quiet_want; go_big_quiet_op; go_big_quiet_on)); refine wpQuiet_nil ?_)) | ((try simp only [Nat.zero_add, Nat.reduceAdd]); apply rel_alloc _ _ alloc_cls; (focus rfl); (focus (intro W; (first | exact zero_key _ | exact zero_elem _ | exact zero_num _))); (focus exact cells_ints _ _ _); (focus ((repeat (refine fits_cons ⟨by (first | exact stab_full _ _ _ | exact stab_hdr _ _ _ | exact stab_hdr_at _ _ _ _ | exact stab_full_at _ _ _ _ (hinj _ _ (by decide))), by (first | exact stab_full _ _ _ | exact stab_hdr _ _ _ | exact stab_hdr_at _ _ _ _ | exact stab_full_at _ _ _ _ (hinj _ _ (by decide)))⟩ ?_)); exact fits_nil (by (first | exact stab_full _ _ _ | exact stab_hdr _ _ _ | exact stab_hdr_at _ _ _ _ | exact stab_full_at _ _ _ _ (hinj _ _ (by decide)))))); ((first | go_big_quiet_skip | (go_big_quiet_want; go_big_quiet_op; go_big_quiet_on)); refine wpQuiet_nil ?_)) | ((try simp only [Nat.zero_add, Nat.reduceAdd]); apply rel_slice alloc_cls; (focus rfl); (focus (intro W; simp only [List.map_toArray, List.map_cons, List.map_nil]; first | fail)); (focus ((repeat (refine fits_cons ⟨by (first | exact stab_full _ _ _ | exact stab_hdr _ _ _ | exact stab_hdr_at _ _ _ _ | exact stab_full_at _ _ _ _ (hinj _ _ (by decide))), by (first | exact stab_full _ _ _ | exact stab_hdr _ _ _ | exact stab_hdr_at _ _ _ _ | exact stab_full_at _ _ _ _ (hinj _ _ (by decide)))⟩ ?_)); exact fits_nil (by (first | exact stab_full _ _ _ | exact stab_hdr _ _ _ | exact stab_hdr_at _ _ _ _ | exact stab_full_at _ _ _ _ (hinj _ _ (by decide)))))); ((first | go_big_quiet_skip | (go_big_quiet_want; go_big_quiet_op; go_big_quiet_on)); refine wpQuiet_nil ?_)) | ((try simp only [Nat.zero_add, Nat.reduceAdd]); apply rel_store (setRow_cls (hbase _)); (focus rfl); (focus rfl); (focus rfl); (focus (first | exact cells_agg _ | exact cells_int _ _ | exact cells_bool _ | rfl)); rotate_left 3; (focus (first | exact List.mem_cons_self .. | exact List.mem_cons_of_mem _ (List.mem_cons_self ..) | exact List.mem_cons_of_mem _ (List.mem_cons_of_mem _ (List.mem_cons_self ..)) | exact List.mem_cons_of_mem _ (List.mem_cons_of_mem _ (List.mem_cons_of_mem _ (List.mem_cons_self ..))) | exact List.mem_cons_of_mem _ (List.mem_cons_of_mem _ (List.mem_cons_of_mem _ (List.mem_cons_of_mem _ (List.mem_cons_self ..)))))); rotate_right 3; (focus kernel_rfl); (focus exact ints_size _ _ _); (focus exact ints_ones _ _ _); (focus (decide +kernel)); (focus ((repeat (refine fits_cons ⟨by (first | exact stab_full _ _ _ | exact stab_hdr _ _ _ | exact stab_hdr_at _ _ _ _ | exact stab_full_at _ _ _ _ (hinj _ _ (by decide))), by (first | exact stab_full _ _ _ | exact stab_hdr _ _ _ | exact stab_hdr_at _ _ _ _ | exact stab_full_at _ _ _ _ (hinj _ _ (by decide)))⟩ ?_)); exact fits_nil (by (first | exact stab_full _ _ _ | exact stab_hdr _ _ _ | exact stab_hdr_at _ _ _ _ | exact stab_full_at _ _ _ _ (hinj _ _ (by decide))))))) | (apply rel_fact; (focus rfl); (focus rfl); (focus rfl); (focus (intro W hC hF; go_big_quiet_want; go_big_quiet_op; (first | go_big_quiet_on | (apply Exists.intro; refine ⟨fun _ => ?_, ?_⟩; (focus (first | (with_reducible exact Calls.of_more (limbsNv_any a _ ha)) | (with_reducible exact Calls.of_more (limbsNv_any b _ hb)))); go_big_quiet_on)); exact wpQuiet_nil rfl)); (focus (exact fun _ => rfl)); ((first | go_big_quiet_skip | (go_big_quiet_want; go_big_quiet_op; go_big_quiet_on)); refine wpQuiet_nil ?_)))))
            (refine rel_nil ?_; rintro _ ⟨mq, rfl⟩ hF; simp only [List.forall_mem_cons] at hF; obtain ⟨fy, fx, -⟩ := hF)
            replace fa : objAt (more wr mq) w.heap.size = some (.cells (ints .u64 5 a) 37) := by (repeat (first | assumption | exact objAt_alloc_at _ _ _ rfl | (refine objAt_alloc_at _ _ _ ?_; (simp; done)) | refine keep_alloc _ ?_ | refine keep_drewN _ ?_ | refine keep_more _ ?_ | exact keep_row _ (by assumption) | refine keep_setRow _ _ ?_ (by first | omega | (simp; omega) | simp)))
            replace fb : objAt (more wr mq) (w.heap.size + 1) = some (.cells (ints .u64 5 b) 37) := by (repeat (first | assumption | exact objAt_alloc_at _ _ _ rfl | (refine objAt_alloc_at _ _ _ ?_; (simp; done)) | refine keep_alloc _ ?_ | refine keep_drewN _ ?_ | refine keep_more _ ?_ | exact keep_row _ (by assumption) | refine keep_setRow _ _ ?_ (by first | omega | (simp; omega) | simp)))
            replace hG : Below w.heap.size w (more wr mq) := by (repeat (first | assumption | exact Grew.refl _ | refine Grew.more ?_ _ | refine Grew.alloc ?_ _ | refine Grew.drewN ?_ _ | refine Grew.setRow ?_ _ _ (by omega) | refine Grew.setRow ?_ _ _ (by simp; omega) | refine Grew.setRow ?_ _ _ (by simp)))
            replace fx : objAt (more wr mq) (γ 4) = some (.cells (ints .i64 16 (numN (nv a))) 41) := fx
            replace fy : objAt (more wr mq) (γ 5) = some (.cells (ints .i64 16 (numN (nv b))) 41) := fy
            replace hN := hN.later (below_more wr mq)
            replace hE := hE.later (below_more wr mq)
            clear hinj hbase lfa lfb hG0
            generalize γ 4 = gx at *
            generalize γ 5 = gy at *
            generalize more wr mq = w7 at *
            clear γ
            have lfa := lt_of_objAt fa
            have lfb := lt_of_objAt fb
            have lfx := lt_of_objAt fx
            have lfy := lt_of_objAt fy
            have p1 := fun w => mulN_any (nv a) (nv b) w (nv_bd a) (nv_bd b)
            have p2 := fun w => mulN_any (nv a) (nv a) w (nv_bd a) (nv_bd a)
            have p3 := fun w => smallN_any x w hx.1 hx.2
            have p4 := fun w => mulN_any (nv a) x w (nv_bd a) ⟨hx.1, by omega⟩
            have p5 := fun m => productN_any (fun i => nv (F i)) j c2 oa2 (more w7 m) (fun i _ => nv_bd (F i)) hn (hN.later (below_more w7 m))
            have q1 := fun w => mul_any a b w hua hub
            have q2 := fun w => square_any a w hua
            have q3 := fun w => times_any a x w hua hx
            have q4 := fun m => product_any F j c oa (more w7 m) Hu.out hn (hE.later (below_more w7 m))
            have i1 := fun w => is_any (mulF a b) _ w (tight_mul a b hua hub) (nv_mul a b)
            have i2 := fun w => is_any (mulF a a) _ w (tight_mul a a hua hua) (nv_mul a a)
            have i3 := fun w => is_any (timesF a x) _ w (tight_times a x hua hx) (nv_times a x)
            have i4 := fun w => is_any (prodF F j) _ w (tight_prod F j Hu.out) (nv_prod F j)
            clear hN hE Hu hF
            go_wp2_with fail
            ((first | (with_reducible refine wp_region_on (by kernel_rfl) (by kernel_rfl) ?_) | refine wp_region_more (by kernel_rfl) (by kernel_rfl) ?_); (repeat (first | go_big_quiet_skip | (go_big_quiet_want; go_big_quiet_op; first | go_big_quiet_on | (apply Exists.intro; refine ⟨fun _ => ?_, ?_⟩; (focus (first | (with_reducible exact Calls.of_more (q1 _)) | (with_reducible exact Calls.of_more (p1 _)) | (with_reducible exact Calls.of_more (i1 _)) | (with_reducible exact Calls.of_more (q2 _)) | (with_reducible exact Calls.of_more (p2 _)) | (with_reducible exact Calls.of_more (i2 _)) | (with_reducible exact Calls.of_more (q3 _)) | (with_reducible exact Calls.of_more (p3 _)) | (with_reducible exact Calls.of_more (p4 _)) | (with_reducible exact Calls.of_more (i3 _)) | (with_reducible exact Calls.of_more (q4 _)) | (with_reducible exact Calls.of_more (p5 _)) | (with_reducible exact Calls.of_more (i4 _)))); go_big_quiet_on)))); refine wpQuiet_nil ?_; rintro _ ⟨mq, rfl⟩)
            go_wp2
            go_ret
            exact ⟨rfl, by (repeat (first | assumption | exact Grew.refl _ | refine Grew.more ?_ _ | refine Grew.alloc ?_ _ | refine Grew.drewN ?_ _ | refine Grew.setRow ?_ _ _ (by omega) | refine Grew.setRow ?_ _ _ (by simp; omega) | refine Grew.setRow ?_ _ _ (by simp)))⟩
      · go_wp2
        go_ret
        exact ⟨rfl, by (repeat (first | assumption | exact Grew.refl _ | refine Grew.more ?_ _ | refine Grew.alloc ?_ _ | refine Grew.drewN ?_ _ | refine Grew.setRow ?_ _ _ (by omega) | refine Grew.setRow ?_ _ _ (by simp; omega) | refine Grew.setRow ?_ _ _ (by simp)))⟩
end Go.Proofs.Ytmmhcpfniipgeaa
