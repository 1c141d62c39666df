/- A point, so many times, by the reference. -/
import Derived.Test.YtfapmpnkemogkaaRefStep
import Derived.Test.YtfapmpnkemogkaaLadN
namespace Go.Proofs.Ytfapmpnkemogkaa
open Go.RowKit
set_option linter.unusedVariables false
set_option linter.unusedSimpArgs false
open Edw (red tv)

/-- the reference's state, as numbers -/
structure Nu where
  a : Int
  b : Int
  c : Int
  e : Int
def swN (bit : Int) (s : Nu) : Nu := if bit = 0 then s else ⟨s.c, s.e, s.a, s.b⟩
theorem swN_no (s : Nu) : swN 0 s = s := if_pos rfl
theorem swN_yes (s : Nu) : swN 1 s = ⟨s.c, s.e, s.a, s.b⟩ := if_neg (by decide)
def stN (u : Int) (s : Nu) : Nu := ⟨twXN s.a s.b, twZN s.a s.b, boXN s.a s.b s.c s.e, boZN u s.a s.b s.c s.e⟩
def ruN (u : Int) (k : Nat → Int) : Nat → Nu
  | 0 => ⟨1, 0, u, 1⟩
  | c + 1 => swN (bitN k (255 - c)) (stN u (swN (bitN k (255 - c)) (ruN u k c)))
structure BDP (s : Nu) : Prop where
  a : BD s.a
  b : BD s.b
  c : BD s.c
  e : BD s.e
theorem BDP.sw {s : Nu} (h : BDP s) (b : Int) : BDP (swN b s) := by
  unfold swN
  split
  · exact h
  · exact ⟨h.c, h.e, h.a, h.b⟩
theorem BDP.st (s : Nu) (u : Int) : BDP (stN u s) := ⟨mN_bd _ _, mN_bd _ _, mN_bd _ _, mN_bd _ _⟩
theorem bd_ru (u : Int) (k : Nat → Int) (hu : BD u) : ∀ c, BDP (ruN u k c)
  | 0 => ⟨small_BD 1 (by decide) (by decide), small_BD 0 (by decide) (by decide), hu, small_BD 1 (by decide) (by decide)⟩
  | c + 1 => (BDP.st _ u).sw _
theorem stN_calls (u : Int) (s : Nu) (w : World) (hu : BD u) (h : BDP s) : Calls Try.prog 69 #[.agg (ints .i64 16 (numN (u))), .agg (ints .i64 16 (numN (s.a))), .agg (ints .i64 16 (numN (s.b))), .agg (ints .i64 16 (numN (s.c))), .agg (ints .i64 16 (numN (s.e)))] w fun e w' => e = .returned (.tuple #[.agg (ints .i64 16 (numN ((stN u s).a))), .agg (ints .i64 16 (numN ((stN u s).b))), .agg (ints .i64 16 (numN ((stN u s).c))), .agg (ints .i64 16 (numN ((stN u s).e)))]) ∧ Below w.heap.size w w' := stepN_any u s.a s.b s.c s.e w hu h.a h.b h.c h.e
theorem red_aN (x y : Int) : red (aN x y) = red x + red y := by unfold aN; rw [Edw.red_mod, Edw.red_add]
theorem red_sN (x y : Int) : red (sN x y) = red x - red y := by unfold sN; rw [Edw.red_mod, Edw.red_sub]
theorem red_mN (x y : Int) : red (mN x y) = red x * red y := by unfold mN; rw [Edw.red_mod, Edw.red_mul]
theorem red_iN (x : Int) : red (iN x) = Edw.finv (red x) := by unfold iN Edw.finv; rw [Edw.red_mod, Edw.red_pow]
theorem red_twEN (x z : Int) : red (twEN x z) = Edw.dblE (red x) (red z) := by simp only [twEN, Edw.dblE, red_mN, red_aN, red_sN]
theorem red_twXN (x z : Int) : red (twXN x z) = Edw.dblX (red x) (red z) := by simp only [twXN, Edw.dblX, red_mN, red_aN, red_sN]
theorem red_twZN (x z : Int) : red (twZN x z) = Edw.dblZ (red x) (red z) := by simp only [twZN, Edw.dblZ, red_mN, red_aN, red_twEN, red_num]
theorem red_boXN (x z x' z' : Int) : red (boXN x z x' z') = Edw.difX (red x) (red z) (red x') (red z') := by simp only [boXN, daN, cbN, Edw.difX, red_mN, red_aN, red_sN]
theorem red_boZN (u x z x' z' : Int) : red (boZN u x z x' z') = Edw.difZ (red u) (red x) (red z) (red x') (red z') := by simp only [boZN, daN, cbN, Edw.difZ, red_mN, red_aN, red_sN]
def stRN (s : Nu) : Edw.St Edw.Gp := ⟨red s.a, red s.b, red s.c, red s.e⟩
theorem runN_is (u : Int) (k : Nat → Int) (hk : Bytes 32 k) : ∀ c, c ≤ 256 → stRN (ruN u k c) = Edw.runN (red u) (knum k 32) c
  | 0, _ => by simp only [ruN, stRN, Edw.runN, Edw.red_one, Edw.red_zero]
  | c + 1, hc => by
    have ih := runN_is u k hk c (by omega)
    have hb := knum_bit k hk (255 - c) (by omega)
    have h01 := bitN_01 k (255 - c)
    show stRN (swN (bitN k (255 - c)) (stN u (swN (bitN k (255 - c)) (ruN u k c)))) = Edw.stp (red u) (Edw.bitN (knum k 32) (255 - c)) (Edw.runN (red u) (knum k 32) c)
    rw [← ih]
    unfold Edw.bitN
    rw [hb]
    generalize ruN u k c = s
    generalize bitN k (255 - c) = B at *
    rcases h01 with rfl | rfl
    · rw [swN_no, swN_no]; simp only [stN, stRN, red_twXN, red_twZN, red_boXN, red_boZN]; rfl
    · rw [swN_yes, swN_yes]; simp only [stN, stRN, red_twXN, red_twZN, red_boXN, red_boZN]; rfl
theorem timesN_is (u : Int) (k : Nat → Int) (hk : Bytes 32 k) : mN (ruN u k 256).a (iN (ruN u k 256).b) = tv (knum k 32) u := by
  refine Edw.tv_of (mN_bd _ _) ?_
  rw [red_mN, red_iN]
  have h := runN_is u k hk 256 (Nat.le_refl _)
  unfold Edw.lad
  show (stRN (ruN u k 256)).a * Edw.finv (stRN (ruN u k 256)).b = _
  rw [h]
structure TimesNInv (u : Int) (k : Nat → Int) (ga gb gc ge : Nat) (w : World) (c : Nat) (wr : World) : Prop where
  g : Below w.heap.size w wr
  fk : objAt wr (w.heap.size) = some (.cells (ints .u8 32 (k)) 22)
  fx : objAt wr (w.heap.size + 1) = some (.cells (ints .i64 16 (numN (u))) 41)
  fr : objAt wr (w.heap.size + 1 + 1) = some (.cells (ints .i64 16 nought) 41)
  fa : objAt wr ga = some (.cells (ints .i64 16 (numN ((ruN u k c).a))) 41)
  fb : objAt wr gb = some (.cells (ints .i64 16 (numN ((ruN u k c).b))) 41)
  fc : objAt wr gc = some (.cells (ints .i64 16 (numN ((ruN u k c).c))) 41)
  fe : objAt wr ge = some (.cells (ints .i64 16 (numN ((ruN u k c).e))) 41)
set_option maxRecDepth 100000 in
set_option maxHeartbeats 2000000 in
theorem timesN_calls (k : Nat → Int) (u : Int) (w : World) (hk : Bytes 32 k) (hu : BD u) :
    Calls Try.prog 67 #[.agg (ints .u8 32 (k)), .agg (ints .i64 16 (numN (u)))] w fun e w' => e = .returned (.agg (ints .i64 16 (numN (tv (knum k 32) u)))) ∧ Below w.heap.size w w' := by
  have hG := Grew.refl w
  have fk : True := trivial
  have fx : True := trivial
  have fr : True := trivial
  go_enter Try.func67, Try.ntmps67
  go_wp2_with fail
  replace fk : objAt (((w.alloc (.cells (ints .u8 32 (k)) 22)).alloc (.cells (ints .i64 16 (numN (u))) 41)).alloc (.cells (ints .i64 16 nought) 41)) (w.heap.size) = some (.cells (ints .u8 32 (k)) 22) := by (repeat (first | assumption | exact objAt_alloc_at _ _ _ rfl | (refine objAt_alloc_at _ _ _ ?_; (simp; done)) | refine keep_alloc _ ?_ | refine keep_drewN _ ?_ | refine keep_more _ ?_ | exact keep_row _ (by assumption) | refine keep_setRow _ _ ?_ (by first | omega | (simp; omega) | simp)))
  replace fx : objAt (((w.alloc (.cells (ints .u8 32 (k)) 22)).alloc (.cells (ints .i64 16 (numN (u))) 41)).alloc (.cells (ints .i64 16 nought) 41)) (w.heap.size + 1) = some (.cells (ints .i64 16 (numN (u))) 41) := by (repeat (first | assumption | exact objAt_alloc_at _ _ _ rfl | (refine objAt_alloc_at _ _ _ ?_; (simp; done)) | refine keep_alloc _ ?_ | refine keep_drewN _ ?_ | refine keep_more _ ?_ | exact keep_row _ (by assumption) | refine keep_setRow _ _ ?_ (by first | omega | (simp; omega) | simp)))
  replace fr : objAt (((w.alloc (.cells (ints .u8 32 (k)) 22)).alloc (.cells (ints .i64 16 (numN (u))) 41)).alloc (.cells (ints .i64 16 nought) 41)) (w.heap.size + 1 + 1) = some (.cells (ints .i64 16 nought) 41) := by (repeat (first | assumption | exact objAt_alloc_at _ _ _ rfl | (refine objAt_alloc_at _ _ _ ?_; (simp; done)) | refine keep_alloc _ ?_ | refine keep_drewN _ ?_ | refine keep_more _ ?_ | exact keep_row _ (by assumption) | refine keep_setRow _ _ ?_ (by first | omega | (simp; omega) | simp)))
  replace hG : Below w.heap.size w (((w.alloc (.cells (ints .u8 32 (k)) 22)).alloc (.cells (ints .i64 16 (numN (u))) 41)).alloc (.cells (ints .i64 16 nought) 41)) := by (repeat (first | assumption | exact Grew.refl _ | refine Grew.more ?_ _ | refine Grew.alloc ?_ _ | refine Grew.drewN ?_ _ | refine Grew.setRow ?_ _ _ (by omega) | refine Grew.setRow ?_ _ _ (by simp; omega) | refine Grew.setRow ?_ _ _ (by simp)))
  generalize ((w.alloc (.cells (ints .u8 32 (k)) 22)).alloc (.cells (ints .i64 16 (numN (u))) 41)).alloc (.cells (ints .i64 16 nought) 41) = w1 at *
  have lfk := lt_of_objAt fk
  have lfx := lt_of_objAt fx
  have lfr := lt_of_objAt fr
  go_wp2_with fail
  (refine wp_rel (by kernel_rfl) (by kernel_rfl) ?_; (repeat (first | refine exv_skip rfl ?_ | (refine exv_call rfl ?_; apply Exists.intro))); refine exv_nil ?_; intro γ hinj hbase; (repeat (first | (refine rel_quiet rfl ?_; ((first | go_big_quiet_skip | (go_big_quiet_want; go_big_quiet_op; go_big_quiet_on)); refine wpQuiet_nil ?_)) | (first | (refine rel_skip_some rfl (fun _ => rfl) ?_; ((first | go_big_quiet_skip | (go_big_quiet_want; go_big_quiet_op; go_big_quiet_on)); refine wpQuiet_nil ?_)) | refine rel_skip_none rfl (fun _ => rfl) ?_) | ((try simp only [Nat.zero_add, Nat.reduceAdd]); apply rel_box alloc_cls; (focus rfl); (focus (first | exact cells_agg _ | exact cells_int _ _ | exact cells_bool _ | rfl)); (focus ((repeat (refine fits_cons ⟨by (first | exact stab_full _ _ _ | exact stab_hdr _ _ _ | exact stab_hdr_at _ _ _ _ | exact stab_full_at _ _ _ _ (hinj _ _ (by decide))), by (first | exact stab_full _ _ _ | exact stab_hdr _ _ _ | exact stab_hdr_at _ _ _ _ | exact stab_full_at _ _ _ _ (hinj _ _ (by decide)))⟩ ?_)); exact fits_nil (by (first | exact stab_full _ _ _ | exact stab_hdr _ _ _ | exact stab_hdr_at _ _ _ _ | exact stab_full_at _ _ _ _ (hinj _ _ (by decide)))))); ((first | go_big_quiet_skip | (go_big_quiet_want; go_big_quiet_op; go_big_quiet_on)); refine wpQuiet_nil ?_)) | ((try simp only [Nat.zero_add, Nat.reduceAdd]); apply rel_alloc _ _ alloc_cls; (focus rfl); (focus (intro W; (first | exact zero_key _ | exact zero_elem _ | exact zero_num _ | exact zero_pair _))); (focus exact cells_ints _ _ _); (focus ((repeat (refine fits_cons ⟨by (first | exact stab_full _ _ _ | exact stab_hdr _ _ _ | exact stab_hdr_at _ _ _ _ | exact stab_full_at _ _ _ _ (hinj _ _ (by decide))), by (first | exact stab_full _ _ _ | exact stab_hdr _ _ _ | exact stab_hdr_at _ _ _ _ | exact stab_full_at _ _ _ _ (hinj _ _ (by decide)))⟩ ?_)); exact fits_nil (by (first | exact stab_full _ _ _ | exact stab_hdr _ _ _ | exact stab_hdr_at _ _ _ _ | exact stab_full_at _ _ _ _ (hinj _ _ (by decide)))))); ((first | go_big_quiet_skip | (go_big_quiet_want; go_big_quiet_op; go_big_quiet_on)); refine wpQuiet_nil ?_)) | ((try simp only [Nat.zero_add, Nat.reduceAdd]); apply rel_slice alloc_cls; (focus rfl); (focus (intro W; simp only [List.map_toArray, List.map_cons, List.map_nil]; first | fail)); (focus ((repeat (refine fits_cons ⟨by (first | exact stab_full _ _ _ | exact stab_hdr _ _ _ | exact stab_hdr_at _ _ _ _ | exact stab_full_at _ _ _ _ (hinj _ _ (by decide))), by (first | exact stab_full _ _ _ | exact stab_hdr _ _ _ | exact stab_hdr_at _ _ _ _ | exact stab_full_at _ _ _ _ (hinj _ _ (by decide)))⟩ ?_)); exact fits_nil (by (first | exact stab_full _ _ _ | exact stab_hdr _ _ _ | exact stab_hdr_at _ _ _ _ | exact stab_full_at _ _ _ _ (hinj _ _ (by decide)))))); ((first | go_big_quiet_skip | (go_big_quiet_want; go_big_quiet_op; go_big_quiet_on)); refine wpQuiet_nil ?_)) | ((try simp only [Nat.zero_add, Nat.reduceAdd]); apply rel_store (setRow_cls (hbase _)); (focus rfl); (focus rfl); (focus rfl); (focus (first | exact cells_agg _ | exact cells_int _ _ | exact cells_bool _ | rfl)); rotate_left 3; (focus (first | exact List.mem_cons_self .. | exact List.mem_cons_of_mem _ (List.mem_cons_self ..) | exact List.mem_cons_of_mem _ (List.mem_cons_of_mem _ (List.mem_cons_self ..)) | exact List.mem_cons_of_mem _ (List.mem_cons_of_mem _ (List.mem_cons_of_mem _ (List.mem_cons_self ..))) | exact List.mem_cons_of_mem _ (List.mem_cons_of_mem _ (List.mem_cons_of_mem _ (List.mem_cons_of_mem _ (List.mem_cons_self ..)))))); rotate_right 3; (focus kernel_rfl); (focus exact ints_size _ _ _); (focus exact ints_ones _ _ _); (focus (decide +kernel)); (focus ((repeat (refine fits_cons ⟨by (first | exact stab_full _ _ _ | exact stab_hdr _ _ _ | exact stab_hdr_at _ _ _ _ | exact stab_full_at _ _ _ _ (hinj _ _ (by decide))), by (first | exact stab_full _ _ _ | exact stab_hdr _ _ _ | exact stab_hdr_at _ _ _ _ | exact stab_full_at _ _ _ _ (hinj _ _ (by decide)))⟩ ?_)); exact fits_nil (by (first | exact stab_full _ _ _ | exact stab_hdr _ _ _ | exact stab_hdr_at _ _ _ _ | exact stab_full_at _ _ _ _ (hinj _ _ (by decide))))))) | (apply rel_fact; (focus rfl); (focus rfl); (focus rfl); (focus (intro W hC hF; go_big_quiet_want; go_big_quiet_op; (first | go_big_quiet_on | (apply Exists.intro; refine ⟨fun _ => ?_, ?_⟩; (focus (first | (with_reducible exact Calls.of_more (smallN_any 1 _ (by decide) (by decide))) | (with_reducible exact Calls.of_more (smallN_any 0 _ (by decide) (by decide))))); go_big_quiet_on)); exact wpQuiet_nil rfl)); (focus (exact fun _ => rfl)); ((first | go_big_quiet_skip | (go_big_quiet_want; go_big_quiet_op; go_big_quiet_on)); refine wpQuiet_nil ?_)))))
  (refine rel_nil ?_; rintro _ ⟨mq, rfl⟩ hF; simp only [List.forall_mem_cons] at hF; obtain ⟨fe, fc, fb, fa, -⟩ := hF)
  have nak : ¬ (γ 4 = w.heap.size) := by have := hbase 4; omega
  have nka : ¬ (w.heap.size = γ 4) := fun e => nak e.symm
  have nax : ¬ (γ 4 = w.heap.size + 1) := by have := hbase 4; omega
  have nxa : ¬ (w.heap.size + 1 = γ 4) := fun e => nax e.symm
  have nar : ¬ (γ 4 = w.heap.size + 1 + 1) := by have := hbase 4; omega
  have nra : ¬ (w.heap.size + 1 + 1 = γ 4) := fun e => nar e.symm
  have nbk : ¬ (γ 5 = w.heap.size) := by have := hbase 5; omega
  have nkb : ¬ (w.heap.size = γ 5) := fun e => nbk e.symm
  have nbx : ¬ (γ 5 = w.heap.size + 1) := by have := hbase 5; omega
  have nxb : ¬ (w.heap.size + 1 = γ 5) := fun e => nbx e.symm
  have nbr : ¬ (γ 5 = w.heap.size + 1 + 1) := by have := hbase 5; omega
  have nrb : ¬ (w.heap.size + 1 + 1 = γ 5) := fun e => nbr e.symm
  have nck : ¬ (γ 6 = w.heap.size) := by have := hbase 6; omega
  have nkc : ¬ (w.heap.size = γ 6) := fun e => nck e.symm
  have ncx : ¬ (γ 6 = w.heap.size + 1) := by have := hbase 6; omega
  have nxc : ¬ (w.heap.size + 1 = γ 6) := fun e => ncx e.symm
  have ncr : ¬ (γ 6 = w.heap.size + 1 + 1) := by have := hbase 6; omega
  have nrc : ¬ (w.heap.size + 1 + 1 = γ 6) := fun e => ncr e.symm
  have nek : ¬ (γ 7 = w.heap.size) := by have := hbase 7; omega
  have nke : ¬ (w.heap.size = γ 7) := fun e => nek e.symm
  have nex : ¬ (γ 7 = w.heap.size + 1) := by have := hbase 7; omega
  have nxe : ¬ (w.heap.size + 1 = γ 7) := fun e => nex e.symm
  have ner : ¬ (γ 7 = w.heap.size + 1 + 1) := by have := hbase 7; omega
  have nre : ¬ (w.heap.size + 1 + 1 = γ 7) := fun e => ner e.symm
  have hw0 := hG.size
  have l0a : w.heap.size ≤ γ 4 := by have := hbase 4; omega
  have l0b : w.heap.size ≤ γ 5 := by have := hbase 5; omega
  have l0c : w.heap.size ≤ γ 6 := by have := hbase 6; omega
  have l0e : w.heap.size ≤ γ 7 := by have := hbase 7; omega
  clear hw0
  have nab : ¬ (γ 4 = γ 5) := hinj _ _ (by decide)
  have nac : ¬ (γ 4 = γ 6) := hinj _ _ (by decide)
  have nae : ¬ (γ 4 = γ 7) := hinj _ _ (by decide)
  have nba : ¬ (γ 5 = γ 4) := hinj _ _ (by decide)
  have nbc : ¬ (γ 5 = γ 6) := hinj _ _ (by decide)
  have nbe : ¬ (γ 5 = γ 7) := hinj _ _ (by decide)
  have nca : ¬ (γ 6 = γ 4) := hinj _ _ (by decide)
  have ncb : ¬ (γ 6 = γ 5) := hinj _ _ (by decide)
  have nce : ¬ (γ 6 = γ 7) := hinj _ _ (by decide)
  have nea : ¬ (γ 7 = γ 4) := hinj _ _ (by decide)
  have neb : ¬ (γ 7 = γ 5) := hinj _ _ (by decide)
  have nec : ¬ (γ 7 = γ 6) := hinj _ _ (by decide)
  replace fk : objAt (more w1 mq) (w.heap.size) = some (.cells (ints .u8 32 (k)) 22) := keep_more _ fk
  replace fx : objAt (more w1 mq) (w.heap.size + 1) = some (.cells (ints .i64 16 (numN (u))) 41) := keep_more _ fx
  replace fr : objAt (more w1 mq) (w.heap.size + 1 + 1) = some (.cells (ints .i64 16 nought) 41) := keep_more _ fr
  replace hG : Below w.heap.size w (more w1 mq) := Grew.more hG _
  replace fa : objAt (more w1 mq) (γ 4) = some (.cells (ints .i64 16 (numN (1))) 41) := fa
  replace fb : objAt (more w1 mq) (γ 5) = some (.cells (ints .i64 16 (numN (0))) 41) := fb
  replace fc : objAt (more w1 mq) (γ 6) = some (.cells (ints .i64 16 (numN (u))) 41) := fc
  replace fe : objAt (more w1 mq) (γ 7) = some (.cells (ints .i64 16 (numN (1))) 41) := fe
  clear lfk lfx lfr
  clear hinj hbase
  generalize γ 4 = ga at *
  generalize γ 5 = gb at *
  generalize γ 6 = gc at *
  generalize γ 7 = ge at *
  generalize more w1 mq = w2 at *
  clear γ
  have lfk := lt_of_objAt fk
  have lfx := lt_of_objAt fx
  have lfr := lt_of_objAt fr
  have lfa := lt_of_objAt fa
  have lfb := lt_of_objAt fb
  have lfc := lt_of_objAt fc
  have lfe := lt_of_objAt fe
  go_wp2_with fail
  go_loopw [9] (fun i wr => ∃ c : Nat, c ≤ 256 ∧ ((c < 256 ∧ i = .int .i64 ((255 - c : Nat) : Int)) ∨ (c = 256 ∧ i = .int .i64 (-1))) ∧ TimesNInv u k ga gb gc ge w c wr) (fun i _ => (intOf i + 1).toNat)
  case atStart => exact ⟨0, by omega, .inl ⟨by omega, rfl⟩, ⟨hG, fk, fx, fr, fa, fb, fc, fe⟩⟩
  case round =>
    clear fk lfk fx lfx fr lfr fa lfa fb lfb fc lfc fe lfe hG
    obtain ⟨c, hc, hi, hG, fk, fx, fr, fa, fb, fc, fe⟩ := hrel
    have lfk := lt_of_objAt fk
    have lfx := lt_of_objAt fx
    have lfr := lt_of_objAt fr
    have lfa := lt_of_objAt fa
    have lfb := lt_of_objAt fb
    have lfc := lt_of_objAt fc
    have lfe := lt_of_objAt fe
    rcases hi with ⟨hlt, rfl⟩ | ⟨rfl, rfl⟩
    · have hL := bd_ru u k hu c
      have Z : Hid (ruN u k (c + 1) = swN (bitN k (255 - c)) (stN u (swN (bitN k (255 - c)) (ruN u k c)))) := rfl
      generalize hb : 255 - c = b at *
      have hb255 : b ≤ 255 := by omega
      have q1 := fun w => bit_any k b w hk (by omega)
      have h01 := bitN_01 k b
      generalize bitN k b = B at *
      have hL1 := hL.sw B
      have p2 := fun w => stN_calls u (swN B (ruN u k c)) w hu hL1
      have hend : ∀ b : Nat, 255 - c = b → ((c + 1 < 256 ∧ Value.int .i64 ((b : Int) - 1) = .int .i64 ((255 - (c + 1) : Nat) : Int)) ∨ (c + 1 = 256 ∧ Value.int .i64 ((b : Int) - 1) = .int .i64 (-1))) := fun b hb => by
        by_cases h : b = 0
        · exact .inr ⟨by omega, by rw [h]; rfl⟩
        · exact .inl ⟨by omega, by congr 1; omega⟩
      have HE : Hid _ := hend b hb
      clear hend
      rcases h01 with rfl | rfl
      · rw [swN_no] at p2
        rw [swN_no, swN_no] at Z
        generalize stN u (ruN u k c) = t2 at *
        clear hL hL1
        go_wp2_with fail
        (refine (q1 _).mono ?_; rintro e w21 ⟨rfl, hb⟩; replace fk : objAt w21 (w.heap.size) = some (.cells (ints .u8 32 (k)) 22) := keep_below hb (by (repeat (first | assumption | exact objAt_alloc_at _ _ _ rfl | (refine objAt_alloc_at _ _ _ ?_; (simp; done)) | refine keep_alloc _ ?_ | refine keep_drewN _ ?_ | refine keep_more _ ?_ | exact keep_row _ (by assumption) | refine keep_setRow _ _ ?_ (by first | omega | (simp; omega) | simp)))); have lfk := lt_of_objAt fk; replace fx : objAt w21 (w.heap.size + 1) = some (.cells (ints .i64 16 (numN (u))) 41) := keep_below hb (by (repeat (first | assumption | exact objAt_alloc_at _ _ _ rfl | (refine objAt_alloc_at _ _ _ ?_; (simp; done)) | refine keep_alloc _ ?_ | refine keep_drewN _ ?_ | refine keep_more _ ?_ | exact keep_row _ (by assumption) | refine keep_setRow _ _ ?_ (by first | omega | (simp; omega) | simp)))); have lfx := lt_of_objAt fx; replace fr : objAt w21 (w.heap.size + 1 + 1) = some (.cells (ints .i64 16 nought) 41) := keep_below hb (by (repeat (first | assumption | exact objAt_alloc_at _ _ _ rfl | (refine objAt_alloc_at _ _ _ ?_; (simp; done)) | refine keep_alloc _ ?_ | refine keep_drewN _ ?_ | refine keep_more _ ?_ | exact keep_row _ (by assumption) | refine keep_setRow _ _ ?_ (by first | omega | (simp; omega) | simp)))); have lfr := lt_of_objAt fr; replace fa : objAt w21 (ga) = some (.cells (ints .i64 16 (numN ((ruN u k c).a))) 41) := keep_below hb (by (repeat (first | assumption | exact objAt_alloc_at _ _ _ rfl | (refine objAt_alloc_at _ _ _ ?_; (simp; done)) | refine keep_alloc _ ?_ | refine keep_drewN _ ?_ | refine keep_more _ ?_ | exact keep_row _ (by assumption) | refine keep_setRow _ _ ?_ (by first | omega | (simp; omega) | simp)))); have lfa := lt_of_objAt fa; replace fb : objAt w21 (gb) = some (.cells (ints .i64 16 (numN ((ruN u k c).b))) 41) := keep_below hb (by (repeat (first | assumption | exact objAt_alloc_at _ _ _ rfl | (refine objAt_alloc_at _ _ _ ?_; (simp; done)) | refine keep_alloc _ ?_ | refine keep_drewN _ ?_ | refine keep_more _ ?_ | exact keep_row _ (by assumption) | refine keep_setRow _ _ ?_ (by first | omega | (simp; omega) | simp)))); have lfb := lt_of_objAt fb; replace fc : objAt w21 (gc) = some (.cells (ints .i64 16 (numN ((ruN u k c).c))) 41) := keep_below hb (by (repeat (first | assumption | exact objAt_alloc_at _ _ _ rfl | (refine objAt_alloc_at _ _ _ ?_; (simp; done)) | refine keep_alloc _ ?_ | refine keep_drewN _ ?_ | refine keep_more _ ?_ | exact keep_row _ (by assumption) | refine keep_setRow _ _ ?_ (by first | omega | (simp; omega) | simp)))); have lfc := lt_of_objAt fc; replace fe : objAt w21 (ge) = some (.cells (ints .i64 16 (numN ((ruN u k c).e))) 41) := keep_below hb (by (repeat (first | assumption | exact objAt_alloc_at _ _ _ rfl | (refine objAt_alloc_at _ _ _ ?_; (simp; done)) | refine keep_alloc _ ?_ | refine keep_drewN _ ?_ | refine keep_more _ ?_ | exact keep_row _ (by assumption) | refine keep_setRow _ _ ?_ (by first | omega | (simp; omega) | simp)))); have lfe := lt_of_objAt fe; replace hG : Below w.heap.size w w21 := Grew.trans (by (repeat (first | assumption | exact Grew.refl _ | refine Grew.more ?_ _ | refine Grew.alloc ?_ _ | refine Grew.drewN ?_ _ | refine Grew.setRow ?_ _ _ (by omega) | refine Grew.setRow ?_ _ _ (by simp; omega) | refine Grew.setRow ?_ _ _ (by simp)))) hb; clear hb)
        go_wp2_with fail
        (refine (p2 _).mono ?_; rintro e w22 ⟨rfl, hb⟩; replace fk : objAt w22 (w.heap.size) = some (.cells (ints .u8 32 (k)) 22) := keep_below hb (by (repeat (first | assumption | exact objAt_alloc_at _ _ _ rfl | (refine objAt_alloc_at _ _ _ ?_; (simp; done)) | refine keep_alloc _ ?_ | refine keep_drewN _ ?_ | refine keep_more _ ?_ | exact keep_row _ (by assumption) | refine keep_setRow _ _ ?_ (by first | omega | (simp; omega) | simp)))); have lfk := lt_of_objAt fk; replace fx : objAt w22 (w.heap.size + 1) = some (.cells (ints .i64 16 (numN (u))) 41) := keep_below hb (by (repeat (first | assumption | exact objAt_alloc_at _ _ _ rfl | (refine objAt_alloc_at _ _ _ ?_; (simp; done)) | refine keep_alloc _ ?_ | refine keep_drewN _ ?_ | refine keep_more _ ?_ | exact keep_row _ (by assumption) | refine keep_setRow _ _ ?_ (by first | omega | (simp; omega) | simp)))); have lfx := lt_of_objAt fx; replace fr : objAt w22 (w.heap.size + 1 + 1) = some (.cells (ints .i64 16 nought) 41) := keep_below hb (by (repeat (first | assumption | exact objAt_alloc_at _ _ _ rfl | (refine objAt_alloc_at _ _ _ ?_; (simp; done)) | refine keep_alloc _ ?_ | refine keep_drewN _ ?_ | refine keep_more _ ?_ | exact keep_row _ (by assumption) | refine keep_setRow _ _ ?_ (by first | omega | (simp; omega) | simp)))); have lfr := lt_of_objAt fr; replace fa : objAt w22 (ga) = some (.cells (ints .i64 16 (numN ((ruN u k c).a))) 41) := keep_below hb (by (repeat (first | assumption | exact objAt_alloc_at _ _ _ rfl | (refine objAt_alloc_at _ _ _ ?_; (simp; done)) | refine keep_alloc _ ?_ | refine keep_drewN _ ?_ | refine keep_more _ ?_ | exact keep_row _ (by assumption) | refine keep_setRow _ _ ?_ (by first | omega | (simp; omega) | simp)))); have lfa := lt_of_objAt fa; replace fb : objAt w22 (gb) = some (.cells (ints .i64 16 (numN ((ruN u k c).b))) 41) := keep_below hb (by (repeat (first | assumption | exact objAt_alloc_at _ _ _ rfl | (refine objAt_alloc_at _ _ _ ?_; (simp; done)) | refine keep_alloc _ ?_ | refine keep_drewN _ ?_ | refine keep_more _ ?_ | exact keep_row _ (by assumption) | refine keep_setRow _ _ ?_ (by first | omega | (simp; omega) | simp)))); have lfb := lt_of_objAt fb; replace fc : objAt w22 (gc) = some (.cells (ints .i64 16 (numN ((ruN u k c).c))) 41) := keep_below hb (by (repeat (first | assumption | exact objAt_alloc_at _ _ _ rfl | (refine objAt_alloc_at _ _ _ ?_; (simp; done)) | refine keep_alloc _ ?_ | refine keep_drewN _ ?_ | refine keep_more _ ?_ | exact keep_row _ (by assumption) | refine keep_setRow _ _ ?_ (by first | omega | (simp; omega) | simp)))); have lfc := lt_of_objAt fc; replace fe : objAt w22 (ge) = some (.cells (ints .i64 16 (numN ((ruN u k c).e))) 41) := keep_below hb (by (repeat (first | assumption | exact objAt_alloc_at _ _ _ rfl | (refine objAt_alloc_at _ _ _ ?_; (simp; done)) | refine keep_alloc _ ?_ | refine keep_drewN _ ?_ | refine keep_more _ ?_ | exact keep_row _ (by assumption) | refine keep_setRow _ _ ?_ (by first | omega | (simp; omega) | simp)))); have lfe := lt_of_objAt fe; replace hG : Below w.heap.size w w22 := Grew.trans (by (repeat (first | assumption | exact Grew.refl _ | refine Grew.more ?_ _ | refine Grew.alloc ?_ _ | refine Grew.drewN ?_ _ | refine Grew.setRow ?_ _ _ (by omega) | refine Grew.setRow ?_ _ _ (by simp; omega) | refine Grew.setRow ?_ _ _ (by simp)))) hb; clear hb)
        go_wp2_with fail
        have ek : objAt ((((w22.setRow (ga) ((ints .i64 16 (numN (t2.a))))).setRow (gb) ((ints .i64 16 (numN (t2.b))))).setRow (gc) ((ints .i64 16 (numN (t2.c))))).setRow (ge) ((ints .i64 16 (numN (t2.e))))) (w.heap.size) = some (.cells (ints .u8 32 (k)) 22) := keep_setRow _ _ (keep_setRow _ _ (keep_setRow _ _ (keep_setRow _ _ (fk) (by first | assumption | omega | simp)) (by first | assumption | omega | simp)) (by first | assumption | omega | simp)) (by first | assumption | omega | simp)
        have ex : objAt ((((w22.setRow (ga) ((ints .i64 16 (numN (t2.a))))).setRow (gb) ((ints .i64 16 (numN (t2.b))))).setRow (gc) ((ints .i64 16 (numN (t2.c))))).setRow (ge) ((ints .i64 16 (numN (t2.e))))) (w.heap.size + 1) = some (.cells (ints .i64 16 (numN (u))) 41) := keep_setRow _ _ (keep_setRow _ _ (keep_setRow _ _ (keep_setRow _ _ (fx) (by first | assumption | omega | simp)) (by first | assumption | omega | simp)) (by first | assumption | omega | simp)) (by first | assumption | omega | simp)
        have er : objAt ((((w22.setRow (ga) ((ints .i64 16 (numN (t2.a))))).setRow (gb) ((ints .i64 16 (numN (t2.b))))).setRow (gc) ((ints .i64 16 (numN (t2.c))))).setRow (ge) ((ints .i64 16 (numN (t2.e))))) (w.heap.size + 1 + 1) = some (.cells (ints .i64 16 nought) 41) := keep_setRow _ _ (keep_setRow _ _ (keep_setRow _ _ (keep_setRow _ _ (fr) (by first | assumption | omega | simp)) (by first | assumption | omega | simp)) (by first | assumption | omega | simp)) (by first | assumption | omega | simp)
        have ea : objAt ((((w22.setRow (ga) ((ints .i64 16 (numN (t2.a))))).setRow (gb) ((ints .i64 16 (numN (t2.b))))).setRow (gc) ((ints .i64 16 (numN (t2.c))))).setRow (ge) ((ints .i64 16 (numN (t2.e))))) (ga) = some (.cells (ints .i64 16 (numN (t2.a))) 41) := keep_setRow _ _ (keep_setRow _ _ (keep_setRow _ _ (keep_row _ (fa)) (by first | assumption | omega | simp)) (by first | assumption | omega | simp)) (by first | assumption | omega | simp)
        have eb : objAt ((((w22.setRow (ga) ((ints .i64 16 (numN (t2.a))))).setRow (gb) ((ints .i64 16 (numN (t2.b))))).setRow (gc) ((ints .i64 16 (numN (t2.c))))).setRow (ge) ((ints .i64 16 (numN (t2.e))))) (gb) = some (.cells (ints .i64 16 (numN (t2.b))) 41) := keep_setRow _ _ (keep_setRow _ _ (keep_row _ (keep_setRow _ _ (fb) (by first | assumption | omega | simp))) (by first | assumption | omega | simp)) (by first | assumption | omega | simp)
        have ec : objAt ((((w22.setRow (ga) ((ints .i64 16 (numN (t2.a))))).setRow (gb) ((ints .i64 16 (numN (t2.b))))).setRow (gc) ((ints .i64 16 (numN (t2.c))))).setRow (ge) ((ints .i64 16 (numN (t2.e))))) (gc) = some (.cells (ints .i64 16 (numN (t2.c))) 41) := keep_setRow _ _ (keep_row _ (keep_setRow _ _ (keep_setRow _ _ (fc) (by first | assumption | omega | simp)) (by first | assumption | omega | simp))) (by first | assumption | omega | simp)
        have ee : objAt ((((w22.setRow (ga) ((ints .i64 16 (numN (t2.a))))).setRow (gb) ((ints .i64 16 (numN (t2.b))))).setRow (gc) ((ints .i64 16 (numN (t2.c))))).setRow (ge) ((ints .i64 16 (numN (t2.e))))) (ge) = some (.cells (ints .i64 16 (numN (t2.e))) 41) := keep_row _ (keep_setRow _ _ (keep_setRow _ _ (keep_setRow _ _ (fe) (by first | assumption | omega | simp)) (by first | assumption | omega | simp)) (by first | assumption | omega | simp))
        clear fk lfk fx lfx fr lfr fa lfa fb lfb fc lfc fe lfe
        replace hG : Below w.heap.size w ((((w22.setRow (ga) ((ints .i64 16 (numN (t2.a))))).setRow (gb) ((ints .i64 16 (numN (t2.b))))).setRow (gc) ((ints .i64 16 (numN (t2.c))))).setRow (ge) ((ints .i64 16 (numN (t2.e))))) := by (repeat (first | assumption | exact Grew.refl _ | refine Grew.more ?_ _ | refine Grew.alloc ?_ _ | refine Grew.drewN ?_ _ | refine Grew.setRow ?_ _ _ (by omega) | refine Grew.setRow ?_ _ _ (by simp; omega) | refine Grew.setRow ?_ _ _ (by simp)))
        generalize (((w22.setRow (ga) ((ints .i64 16 (numN (t2.a))))).setRow (gb) ((ints .i64 16 (numN (t2.b))))).setRow (gc) ((ints .i64 16 (numN (t2.c))))).setRow (ge) ((ints .i64 16 (numN (t2.e)))) = w23 at *
        have fk := ek
        have fx := ex
        have fr := er
        have fa := ea
        have fb := eb
        have fc := ec
        have fe := ee
        clear ek ex er ea eb ec ee
        have lfk := lt_of_objAt fk
        have lfx := lt_of_objAt fx
        have lfr := lt_of_objAt fr
        have lfa := lt_of_objAt fa
        have lfb := lt_of_objAt fb
        have lfc := lt_of_objAt fc
        have lfe := lt_of_objAt fe
        go_roundw
        case rel => exact ⟨c + 1, by omega, HE.out, ⟨hG, fk, fx, fr, by rw [Z.out]; exact fa, by rw [Z.out]; exact fb, by rw [Z.out]; exact fc, by rw [Z.out]; exact fe⟩⟩
        case measure => simp [intOf] <;> omega
      · rw [swN_yes] at p2
        rw [swN_yes, swN_yes] at Z
        generalize stN u ⟨(ruN u k c).c, (ruN u k c).e, (ruN u k c).a, (ruN u k c).b⟩ = t2 at *
        clear hL hL1
        go_wp2_with fail
        (refine (q1 _).mono ?_; rintro e w21 ⟨rfl, hb⟩; replace fk : objAt w21 (w.heap.size) = some (.cells (ints .u8 32 (k)) 22) := keep_below hb (by (repeat (first | assumption | exact objAt_alloc_at _ _ _ rfl | (refine objAt_alloc_at _ _ _ ?_; (simp; done)) | refine keep_alloc _ ?_ | refine keep_drewN _ ?_ | refine keep_more _ ?_ | exact keep_row _ (by assumption) | refine keep_setRow _ _ ?_ (by first | omega | (simp; omega) | simp)))); have lfk := lt_of_objAt fk; replace fx : objAt w21 (w.heap.size + 1) = some (.cells (ints .i64 16 (numN (u))) 41) := keep_below hb (by (repeat (first | assumption | exact objAt_alloc_at _ _ _ rfl | (refine objAt_alloc_at _ _ _ ?_; (simp; done)) | refine keep_alloc _ ?_ | refine keep_drewN _ ?_ | refine keep_more _ ?_ | exact keep_row _ (by assumption) | refine keep_setRow _ _ ?_ (by first | omega | (simp; omega) | simp)))); have lfx := lt_of_objAt fx; replace fr : objAt w21 (w.heap.size + 1 + 1) = some (.cells (ints .i64 16 nought) 41) := keep_below hb (by (repeat (first | assumption | exact objAt_alloc_at _ _ _ rfl | (refine objAt_alloc_at _ _ _ ?_; (simp; done)) | refine keep_alloc _ ?_ | refine keep_drewN _ ?_ | refine keep_more _ ?_ | exact keep_row _ (by assumption) | refine keep_setRow _ _ ?_ (by first | omega | (simp; omega) | simp)))); have lfr := lt_of_objAt fr; replace fa : objAt w21 (ga) = some (.cells (ints .i64 16 (numN ((ruN u k c).a))) 41) := keep_below hb (by (repeat (first | assumption | exact objAt_alloc_at _ _ _ rfl | (refine objAt_alloc_at _ _ _ ?_; (simp; done)) | refine keep_alloc _ ?_ | refine keep_drewN _ ?_ | refine keep_more _ ?_ | exact keep_row _ (by assumption) | refine keep_setRow _ _ ?_ (by first | omega | (simp; omega) | simp)))); have lfa := lt_of_objAt fa; replace fb : objAt w21 (gb) = some (.cells (ints .i64 16 (numN ((ruN u k c).b))) 41) := keep_below hb (by (repeat (first | assumption | exact objAt_alloc_at _ _ _ rfl | (refine objAt_alloc_at _ _ _ ?_; (simp; done)) | refine keep_alloc _ ?_ | refine keep_drewN _ ?_ | refine keep_more _ ?_ | exact keep_row _ (by assumption) | refine keep_setRow _ _ ?_ (by first | omega | (simp; omega) | simp)))); have lfb := lt_of_objAt fb; replace fc : objAt w21 (gc) = some (.cells (ints .i64 16 (numN ((ruN u k c).c))) 41) := keep_below hb (by (repeat (first | assumption | exact objAt_alloc_at _ _ _ rfl | (refine objAt_alloc_at _ _ _ ?_; (simp; done)) | refine keep_alloc _ ?_ | refine keep_drewN _ ?_ | refine keep_more _ ?_ | exact keep_row _ (by assumption) | refine keep_setRow _ _ ?_ (by first | omega | (simp; omega) | simp)))); have lfc := lt_of_objAt fc; replace fe : objAt w21 (ge) = some (.cells (ints .i64 16 (numN ((ruN u k c).e))) 41) := keep_below hb (by (repeat (first | assumption | exact objAt_alloc_at _ _ _ rfl | (refine objAt_alloc_at _ _ _ ?_; (simp; done)) | refine keep_alloc _ ?_ | refine keep_drewN _ ?_ | refine keep_more _ ?_ | exact keep_row _ (by assumption) | refine keep_setRow _ _ ?_ (by first | omega | (simp; omega) | simp)))); have lfe := lt_of_objAt fe; replace hG : Below w.heap.size w w21 := Grew.trans (by (repeat (first | assumption | exact Grew.refl _ | refine Grew.more ?_ _ | refine Grew.alloc ?_ _ | refine Grew.drewN ?_ _ | refine Grew.setRow ?_ _ _ (by omega) | refine Grew.setRow ?_ _ _ (by simp; omega) | refine Grew.setRow ?_ _ _ (by simp)))) hb; clear hb)
        go_wp2_with fail
        (refine (p2 _).mono ?_; rintro e w22 ⟨rfl, hb⟩; replace fk : objAt w22 (w.heap.size) = some (.cells (ints .u8 32 (k)) 22) := keep_below hb (by (repeat (first | assumption | exact objAt_alloc_at _ _ _ rfl | (refine objAt_alloc_at _ _ _ ?_; (simp; done)) | refine keep_alloc _ ?_ | refine keep_drewN _ ?_ | refine keep_more _ ?_ | exact keep_row _ (by assumption) | refine keep_setRow _ _ ?_ (by first | omega | (simp; omega) | simp)))); have lfk := lt_of_objAt fk; replace fx : objAt w22 (w.heap.size + 1) = some (.cells (ints .i64 16 (numN (u))) 41) := keep_below hb (by (repeat (first | assumption | exact objAt_alloc_at _ _ _ rfl | (refine objAt_alloc_at _ _ _ ?_; (simp; done)) | refine keep_alloc _ ?_ | refine keep_drewN _ ?_ | refine keep_more _ ?_ | exact keep_row _ (by assumption) | refine keep_setRow _ _ ?_ (by first | omega | (simp; omega) | simp)))); have lfx := lt_of_objAt fx; replace fr : objAt w22 (w.heap.size + 1 + 1) = some (.cells (ints .i64 16 nought) 41) := keep_below hb (by (repeat (first | assumption | exact objAt_alloc_at _ _ _ rfl | (refine objAt_alloc_at _ _ _ ?_; (simp; done)) | refine keep_alloc _ ?_ | refine keep_drewN _ ?_ | refine keep_more _ ?_ | exact keep_row _ (by assumption) | refine keep_setRow _ _ ?_ (by first | omega | (simp; omega) | simp)))); have lfr := lt_of_objAt fr; replace fa : objAt w22 (ga) = some (.cells (ints .i64 16 (numN ((ruN u k c).a))) 41) := keep_below hb (by (repeat (first | assumption | exact objAt_alloc_at _ _ _ rfl | (refine objAt_alloc_at _ _ _ ?_; (simp; done)) | refine keep_alloc _ ?_ | refine keep_drewN _ ?_ | refine keep_more _ ?_ | exact keep_row _ (by assumption) | refine keep_setRow _ _ ?_ (by first | omega | (simp; omega) | simp)))); have lfa := lt_of_objAt fa; replace fb : objAt w22 (gb) = some (.cells (ints .i64 16 (numN ((ruN u k c).b))) 41) := keep_below hb (by (repeat (first | assumption | exact objAt_alloc_at _ _ _ rfl | (refine objAt_alloc_at _ _ _ ?_; (simp; done)) | refine keep_alloc _ ?_ | refine keep_drewN _ ?_ | refine keep_more _ ?_ | exact keep_row _ (by assumption) | refine keep_setRow _ _ ?_ (by first | omega | (simp; omega) | simp)))); have lfb := lt_of_objAt fb; replace fc : objAt w22 (gc) = some (.cells (ints .i64 16 (numN ((ruN u k c).c))) 41) := keep_below hb (by (repeat (first | assumption | exact objAt_alloc_at _ _ _ rfl | (refine objAt_alloc_at _ _ _ ?_; (simp; done)) | refine keep_alloc _ ?_ | refine keep_drewN _ ?_ | refine keep_more _ ?_ | exact keep_row _ (by assumption) | refine keep_setRow _ _ ?_ (by first | omega | (simp; omega) | simp)))); have lfc := lt_of_objAt fc; replace fe : objAt w22 (ge) = some (.cells (ints .i64 16 (numN ((ruN u k c).e))) 41) := keep_below hb (by (repeat (first | assumption | exact objAt_alloc_at _ _ _ rfl | (refine objAt_alloc_at _ _ _ ?_; (simp; done)) | refine keep_alloc _ ?_ | refine keep_drewN _ ?_ | refine keep_more _ ?_ | exact keep_row _ (by assumption) | refine keep_setRow _ _ ?_ (by first | omega | (simp; omega) | simp)))); have lfe := lt_of_objAt fe; replace hG : Below w.heap.size w w22 := Grew.trans (by (repeat (first | assumption | exact Grew.refl _ | refine Grew.more ?_ _ | refine Grew.alloc ?_ _ | refine Grew.drewN ?_ _ | refine Grew.setRow ?_ _ _ (by omega) | refine Grew.setRow ?_ _ _ (by simp; omega) | refine Grew.setRow ?_ _ _ (by simp)))) hb; clear hb)
        go_wp2_with fail
        have ek : objAt ((((w22.setRow (gc) ((ints .i64 16 (numN (t2.a))))).setRow (ge) ((ints .i64 16 (numN (t2.b))))).setRow (ga) ((ints .i64 16 (numN (t2.c))))).setRow (gb) ((ints .i64 16 (numN (t2.e))))) (w.heap.size) = some (.cells (ints .u8 32 (k)) 22) := keep_setRow _ _ (keep_setRow _ _ (keep_setRow _ _ (keep_setRow _ _ (fk) (by first | assumption | omega | simp)) (by first | assumption | omega | simp)) (by first | assumption | omega | simp)) (by first | assumption | omega | simp)
        have ex : objAt ((((w22.setRow (gc) ((ints .i64 16 (numN (t2.a))))).setRow (ge) ((ints .i64 16 (numN (t2.b))))).setRow (ga) ((ints .i64 16 (numN (t2.c))))).setRow (gb) ((ints .i64 16 (numN (t2.e))))) (w.heap.size + 1) = some (.cells (ints .i64 16 (numN (u))) 41) := keep_setRow _ _ (keep_setRow _ _ (keep_setRow _ _ (keep_setRow _ _ (fx) (by first | assumption | omega | simp)) (by first | assumption | omega | simp)) (by first | assumption | omega | simp)) (by first | assumption | omega | simp)
        have er : objAt ((((w22.setRow (gc) ((ints .i64 16 (numN (t2.a))))).setRow (ge) ((ints .i64 16 (numN (t2.b))))).setRow (ga) ((ints .i64 16 (numN (t2.c))))).setRow (gb) ((ints .i64 16 (numN (t2.e))))) (w.heap.size + 1 + 1) = some (.cells (ints .i64 16 nought) 41) := keep_setRow _ _ (keep_setRow _ _ (keep_setRow _ _ (keep_setRow _ _ (fr) (by first | assumption | omega | simp)) (by first | assumption | omega | simp)) (by first | assumption | omega | simp)) (by first | assumption | omega | simp)
        have ea : objAt ((((w22.setRow (gc) ((ints .i64 16 (numN (t2.a))))).setRow (ge) ((ints .i64 16 (numN (t2.b))))).setRow (ga) ((ints .i64 16 (numN (t2.c))))).setRow (gb) ((ints .i64 16 (numN (t2.e))))) (ga) = some (.cells (ints .i64 16 (numN (t2.c))) 41) := keep_setRow _ _ (keep_row _ (keep_setRow _ _ (keep_setRow _ _ (fa) (by first | assumption | omega | simp)) (by first | assumption | omega | simp))) (by first | assumption | omega | simp)
        have eb : objAt ((((w22.setRow (gc) ((ints .i64 16 (numN (t2.a))))).setRow (ge) ((ints .i64 16 (numN (t2.b))))).setRow (ga) ((ints .i64 16 (numN (t2.c))))).setRow (gb) ((ints .i64 16 (numN (t2.e))))) (gb) = some (.cells (ints .i64 16 (numN (t2.e))) 41) := keep_row _ (keep_setRow _ _ (keep_setRow _ _ (keep_setRow _ _ (fb) (by first | assumption | omega | simp)) (by first | assumption | omega | simp)) (by first | assumption | omega | simp))
        have ec : objAt ((((w22.setRow (gc) ((ints .i64 16 (numN (t2.a))))).setRow (ge) ((ints .i64 16 (numN (t2.b))))).setRow (ga) ((ints .i64 16 (numN (t2.c))))).setRow (gb) ((ints .i64 16 (numN (t2.e))))) (gc) = some (.cells (ints .i64 16 (numN (t2.a))) 41) := keep_setRow _ _ (keep_setRow _ _ (keep_setRow _ _ (keep_row _ (fc)) (by first | assumption | omega | simp)) (by first | assumption | omega | simp)) (by first | assumption | omega | simp)
        have ee : objAt ((((w22.setRow (gc) ((ints .i64 16 (numN (t2.a))))).setRow (ge) ((ints .i64 16 (numN (t2.b))))).setRow (ga) ((ints .i64 16 (numN (t2.c))))).setRow (gb) ((ints .i64 16 (numN (t2.e))))) (ge) = some (.cells (ints .i64 16 (numN (t2.b))) 41) := keep_setRow _ _ (keep_setRow _ _ (keep_row _ (keep_setRow _ _ (fe) (by first | assumption | omega | simp))) (by first | assumption | omega | simp)) (by first | assumption | omega | simp)
        clear fk lfk fx lfx fr lfr fa lfa fb lfb fc lfc fe lfe
        replace hG : Below w.heap.size w ((((w22.setRow (gc) ((ints .i64 16 (numN (t2.a))))).setRow (ge) ((ints .i64 16 (numN (t2.b))))).setRow (ga) ((ints .i64 16 (numN (t2.c))))).setRow (gb) ((ints .i64 16 (numN (t2.e))))) := by (repeat (first | assumption | exact Grew.refl _ | refine Grew.more ?_ _ | refine Grew.alloc ?_ _ | refine Grew.drewN ?_ _ | refine Grew.setRow ?_ _ _ (by omega) | refine Grew.setRow ?_ _ _ (by simp; omega) | refine Grew.setRow ?_ _ _ (by simp)))
        generalize (((w22.setRow (gc) ((ints .i64 16 (numN (t2.a))))).setRow (ge) ((ints .i64 16 (numN (t2.b))))).setRow (ga) ((ints .i64 16 (numN (t2.c))))).setRow (gb) ((ints .i64 16 (numN (t2.e)))) = w23 at *
        have fk := ek
        have fx := ex
        have fr := er
        have fa := ea
        have fb := eb
        have fc := ec
        have fe := ee
        clear ek ex er ea eb ec ee
        have lfk := lt_of_objAt fk
        have lfx := lt_of_objAt fx
        have lfr := lt_of_objAt fr
        have lfa := lt_of_objAt fa
        have lfb := lt_of_objAt fb
        have lfc := lt_of_objAt fc
        have lfe := lt_of_objAt fe
        go_roundw
        case rel => exact ⟨c + 1, by omega, HE.out, ⟨hG, fk, fx, fr, by rw [Z.out]; exact fa, by rw [Z.out]; exact fb, by rw [Z.out]; exact fc, by rw [Z.out]; exact fe⟩⟩
        case measure => simp [intOf] <;> omega
    · have hL := bd_ru u k hu 256
      have p1 := fun w => iN_any (ruN u k 256).b w hL.b
      have p2 := fun w => mN_any (ruN u k 256).a (iN (ruN u k 256).b) w hL.a (iN_bd _)
      have E := timesN_is u k hk
      generalize mN (ruN u k 256).a (iN (ruN u k 256).b) = V at *
      go_wp2_with fail
      ((first | (with_reducible refine wp_region_tail_on 4 (by kernel_rfl) (by kernel_rfl) (by kernel_rfl) (by kernel_rfl) (by kernel_rfl) ?_) | refine wp_region_tail_more 4 (by kernel_rfl) (by kernel_rfl) (by kernel_rfl) (by kernel_rfl) (by kernel_rfl) ?_); simp only [List.take_succ_cons, List.take_zero]; (repeat (first | go_big_quiet_skip | (go_big_quiet_want; go_big_quiet_op; first | go_big_quiet_on | (apply Exists.intro; refine ⟨fun _ => ?_, ?_⟩; (focus (first | (with_reducible exact Calls.of_more (p1 _)) | (with_reducible exact Calls.of_more (p2 _)))); go_big_quiet_on)))); refine wpQuiet_nil ?_; rintro _ ⟨mq, rfl⟩)
      (refine tail_one (i := 4) (fuel := 0) (by kernel_rfl) rfl ?_; intro K hK; go_simp; refine hK _ _ ?_; clear hK K)
      (refine wpAny_done (by kernel_rfl) ?_ _)
      go_wp2
      refine ret_row rfl _ 41 _ (0, 0) _ rfl (keep_more _ (keep_row _ fr)) Try.underlying41 rfl (by rw [ints_size]; kernel_rfl) rfl ⟨rfl, Grew.more (Grew.setRow hG _ _ (by omega)) _⟩
end Go.Proofs.Ytfapmpnkemogkaa
