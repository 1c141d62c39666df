/- append, as a step behind a walk; words that lie where a slice says. -/
import Derived.Test.YtdihaffopfbnnaaDoorOw
import Derived.Test.YtdihaffopfbnnaaDoorRelT
import Derived.Test.YtdihaffopfbnnaaDoorRt
namespace Go.Proofs.YtdihaffopfbnnaaDoor
open Go.RowKit Go.Lib
set_option linter.unusedVariables false
set_option linter.unusedSimpArgs false

section
variable {ops : Array Oper} {o : Oper} {a : Act} {K : Act → World → Prop} {Q : Exit → Act → World → Prop} {E : Prop}
theorem step_int {t e : TypeId} {i : TypeInfo} {z : Value} (k : IntKind) (bytes : Nat) (ht : Tryd.prog.underlying t = some (.slice e)) (hi : Tryd.prog.info? e = some i) (hz : i.zero = some z) (hsize : i.size = 1) (hby : i.bytes = bytes) (hzs : z.cells.size = 1) (hb8 : bytes ≤ 8)
    (hgd : o.guard = none) (s x : Operand) (ho : o.op = .call { callee := .builtin .append, args := #[s, x], argTypes := #[t, t] })
    (w W : World) (base : Nat) (v : Value) (n : Nat) (G : Nat → Int) (g2 : Nat) (t2 : TypeId) (fr : Nat × Nat) (hs : a.eval s = v) (hx : a.eval x = .slice (some ⟨g2, 0, none⟩) 1 1) (own : W.ownsRow base e 1 v n (rowL k G n)) (hn : n ≤ 1099511627776)
    (hg2 : objAt W g2 = some (.cells #[.int k (G n)] t2 fr)) (hG : Below w.heap.size w W) (hwb : w.heap.size ≤ base) (hbW : base ≤ W.heap.size)
    (h : ∀ g cap w', w'.ownsRow base e 1 (.slice (some ⟨g, 0, none⟩) (n + 1) cap) (n + 1) (rowL k G (n + 1)) → Below w.heap.size w w' → (∀ m ob, m < base → objAt W m = some ob → objAt w' m = some ob) → base ≤ g → K (a.put o.dst (.slice (some ⟨g, 0, none⟩) (n + 1) cap)) w') :
    if Region.wanted o (yielded ops a.tmps) = true then Oper.wp Tryd.prog o a W K Q else E := by
  have hbn : (n + 1) * bytes ≤ 140737488355328 := Nat.le_trans (Nat.mul_le_mul_left (n + 1) hb8) (by omega)
  refine step_append_lies (P := Tryd.prog) (w := W) hgd s x t ho base e i z 1 bytes ht hi hz hsize hby hzs (by decide) v n (rowL k G n) hs own ⟨g2, 0, none⟩ 1 1 [.int k (G n)] hx rfl
    (fun j u hu => by
      unfold objAt at hg2
      have ha : ((⟨g2, 0, none⟩ : Addr).add j) = ⟨g2, j, none⟩ := by unfold Addr.add; split <;> simp_all
      rw [ha, cell_of_row W g2 j _ _ _ hg2]
      simpa using hu) (fun u hu => by
      rw [List.mem_singleton] at hu
      subst hu
      rfl) (by decide) (by unfold maxLen; omega) hbn hbW W.heap.size rfl (fun g cap w' ho' hg _ _ => ?_)
  rw [← rowL_succ] at ho'
  obtain ⟨h1, h2⟩ := own_next own hg hG hwb
  exact h g cap w' ho' h1 h2 (ho'.lt g rfl).1
end
section
variable {ops : Array Oper} {o : Oper} {a : Act} {K : Act → World → Prop} {Q : Exit → Act → World → Prop} {E : Prop}
theorem step_word (hgd : o.guard = none) (s x : Operand) (ho : o.op = .call { callee := .builtin .append, args := #[s, x], argTypes := #[53, 53] })
    (w W : World) (base : Nat) (v : Value) (n : Nat) (G : Nat → Int) (g2 : Nat) (t2 : TypeId) (fr : Nat × Nat) (hs : a.eval s = v) (hx : a.eval x = .slice (some ⟨g2, 0, none⟩) 1 1) (own : W.ownsRow base 28 1 v n (rowL .u32 G n)) (hn : n ≤ 1099511627776)
    (hg2 : objAt W g2 = some (.cells #[.int .u32 (G n)] t2 fr)) (hG : Below w.heap.size w W) (hwb : w.heap.size ≤ base) (hbW : base ≤ W.heap.size)
    (h : ∀ g cap w', w'.ownsRow base 28 1 (.slice (some ⟨g, 0, none⟩) (n + 1) cap) (n + 1) (rowL .u32 G (n + 1)) → Below w.heap.size w w' → (∀ m ob, m < base → objAt W m = some ob → objAt w' m = some ob) → base ≤ g → K (a.put o.dst (.slice (some ⟨g, 0, none⟩) (n + 1) cap)) w') :
    if Region.wanted o (yielded ops a.tmps) = true then Oper.wp Tryd.prog o a W K Q else E :=
  step_int (i := (Tryd.prog.info? 28).get (by kernel_rfl)) (z := ((Tryd.prog.info? 28).get (by kernel_rfl)).zero.get (by kernel_rfl)) .u32 4 Tryd.underlying53 (by kernel_rfl) (by kernel_rfl) (by kernel_rfl) (by kernel_rfl) (by kernel_rfl) (by decide) hgd s x ho w W base v n G g2 t2 fr hs hx own hn hg2 hG hwb hbW h
end
/-- n words lie where the slice says -/
def WordsAt (w : World) (g o n : Nat) (G : Nat → Int) : Prop := g < w.heap.size ∧ ∀ i, i < n → cellOf (objAt w g) (o + i) = some (.int .u32 (G i))
theorem WordsAt.later {w w' : World} {g o n : Nat} {G : Nat → Int} (h : WordsAt w g o n G) (hb : Below w.heap.size w w') : WordsAt w' g o n G := by
  refine ⟨Nat.lt_of_lt_of_le h.1 hb.size, fun i hi => ?_⟩
  rw [show objAt w' g = objAt w g from hb.block g h.1]
  exact h.2 i hi
theorem words_of_own {w : World} {base g n c : Nat} {G : Nat → Int} {t : TypeId} (h : w.ownsRow base t 1 (.slice (some ⟨g, 0, none⟩) n c) n (rowL .u32 G n)) : WordsAt w g 0 n G := by
  rcases h.2 with ⟨h0, _⟩ | ⟨g', cap, cur, h0, hb, hg, hnc, hcm, hcs, htake⟩
  · cases h0
  · cases h0
    have hlt : g < w.heap.size := lt_of_objAt (show objAt w g = _ from hg)
    refine ⟨hlt, fun i hi => ?_⟩
    rw [show objAt w g = some (.cells cur t (0, 0)) from hg, cellOf_cells, Nat.zero_add]
    have h1 := rowL_get .u32 G n i hi
    rw [← htake, List.getElem?_take, if_pos (by omega)] at h1
    simpa using h1
/-- eight words made a slice -/
theorem build8w (x0 x1 x2 x3 x4 x5 x6 x7 : Int) (W : World) : (Instr.buildSlice 53 8 #[(0, .int .u32 x0), (1, .int .u32 x1), (2, .int .u32 x2), (3, .int .u32 x3), (4, .int .u32 x4), (5, .int .u32 x5), (6, .int .u32 x6), (7, .int .u32 x7)]).run Tryd.prog W = .ok (.slice (some ⟨W.heap.size, 0, none⟩) 8 8) (W.alloc (.cells #[.int .u32 x0, .int .u32 x1, .int .u32 x2, .int .u32 x3, .int .u32 x4, .int .u32 x5, .int .u32 x6, .int .u32 x7] 28)) := by kernel_rfl
theorem words_of_eight {w : World} {g : Nat} {x0 x1 x2 x3 x4 x5 x6 x7 : Int} {t : TypeId} {fr : Nat × Nat} {G : Nat → Int} (h : objAt w g = some (.cells #[.int .u32 x0, .int .u32 x1, .int .u32 x2, .int .u32 x3, .int .u32 x4, .int .u32 x5, .int .u32 x6, .int .u32 x7] t fr))
    (h0 : x0 = G 0) (h1 : x1 = G 1) (h2 : x2 = G 2) (h3 : x3 = G 3) (h4 : x4 = G 4) (h5 : x5 = G 5) (h6 : x6 = G 6) (h7 : x7 = G 7) : WordsAt w g 0 8 G := by
  subst h0 h1 h2 h3 h4 h5 h6 h7
  refine ⟨lt_of_objAt h, fun i hi => ?_⟩
  rw [h, cellOf_cells, Nat.zero_add]
  rcases (by omega : i = 0 ∨ i = 1 ∨ i = 2 ∨ i = 3 ∨ i = 4 ∨ i = 5 ∨ i = 6 ∨ i = 7) with rfl | rfl | rfl | rfl | rfl | rfl | rfl | rfl <;> rfl
/-! the table of a block, word by word -/
theorem sch_fix (B : Nat → Int) : ∀ t i, i < t → sch B t i = nextW B (sch B i) i
  | 0, i, h => by omega
  | t + 1, i, h => by
    show upd (sch B t) t (nextW B (sch B t) t) i = _
    by_cases e : i = t
    · subst e; exact upd_same _ _ _
    · rw [upd_other _ _ _ _ e]; exact sch_fix B t i (by omega)
theorem sch_low (B : Nat → Int) (i : Nat) (h : i < 16) : sch B 64 i = wd B i := by
  rw [sch_fix B 64 i (by omega)]
  unfold nextW
  rw [if_pos h]
theorem sch_high (B : Nat → Int) (t : Nat) (h0 : 16 ≤ t) (h1 : t < 64) : sch B 64 t = (sm1 (sch B 64 (t - 2)) + sch B 64 (t - 7) + sm0 (sch B 64 (t - 15)) + sch B 64 (t - 16)) % 4294967296 := by
  rw [sch_fix B 64 t h1]
  unfold nextW
  rw [if_neg (by omega), sch_fix B t (t - 2) (by omega), sch_fix B t (t - 7) (by omega), sch_fix B t (t - 15) (by omega), sch_fix B t (t - 16) (by omega), sch_fix B 64 (t - 2) (by omega), sch_fix B 64 (t - 7) (by omega), sch_fix B 64 (t - 15) (by omega), sch_fix B 64 (t - 16) (by omega)]
theorem move3 (x : Int) (w : World) (hx : W32 x) : Calls Tryd.prog 28 #[.int .u32 x, .int .i64 3] w fun e w' => e = .returned (.int .u32 (x / 8)) ∧ Below w.heap.size w w' := move_any x 3 w hx (by decide) (by decide)
theorem move10 (x : Int) (w : World) (hx : W32 x) : Calls Tryd.prog 28 #[.int .u32 x, .int .i64 10] w fun e w' => e = .returned (.int .u32 (x / 1024)) ∧ Below w.heap.size w w' := move_any x 10 w hx (by decide) (by decide)
theorem sm0_is (x : Int) : bits .xor .u32 (bits .xor .u32 (rot 7 x) (rot 18 x)) (x / 8) = sm0 x := by unfold sm0; rfl
theorem sm1_is (x : Int) : bits .xor .u32 (bits .xor .u32 (rot 17 x) (rot 19 x)) (x / 1024) = sm1 x := by unfold sm1; rfl
theorem gr0_is (x : Int) : bits .xor .u32 (bits .xor .u32 (rot 2 x) (rot 13 x)) (rot 22 x) = gr0 x := by unfold gr0; rfl
theorem gr1_is (x : Int) : bits .xor .u32 (bits .xor .u32 (rot 6 x) (rot 11 x)) (rot 25 x) = gr1 x := by unfold gr1; rfl
theorem chs_is (e f g : Int) : bits .xor .u32 (bits .and .u32 e f) (bits .and .u32 (4294967295 - e) g) = chs e f g := by unfold chs; rfl
/-- eight words appended to nothing -/
theorem append_eight0 (w : World) (ty : TypeId) (g o c : Nat) (G : Nat → Int) (h : WordsAt w g o 8 G) :
    ∃ g' cap w', (appendNext #[53, 53] ty #[.slice none 0 0, .slice (some ⟨g, o, none⟩) 8 c]).run Tryd.prog w = .ok (.value (.slice (some ⟨g', 0, none⟩) 8 cap)) w' ∧ WordsAt w' g' 0 8 G ∧ Below w.heap.size w w' := by
  obtain ⟨g', cap, w', hr, ho, hg, _, _⟩ := run_append_lies (P := Tryd.prog) w 53 ty w.heap.size 28 ((Tryd.prog.info? 28).get (by kernel_rfl)) (((Tryd.prog.info? 28).get (by kernel_rfl)).zero.get (by kernel_rfl)) 1 4 Tryd.underlying53 (by kernel_rfl) (by kernel_rfl) (by kernel_rfl) (by kernel_rfl) (by kernel_rfl) (by decide) (.slice none 0 0) 0 [] (World.ownsRow_nil _ _ _ _) ⟨g, o, none⟩ 8 c (rowL .u32 G 8) (rowL_len _ _ _)
    (fun j u hu => by
      have hj : j < 8 := by
        rcases Nat.lt_or_ge j 8 with h' | h'
        · exact h'
        · rw [List.getElem?_eq_none (by rw [rowL_len]; omega)] at hu; cases hu
      rw [rowL_get _ _ _ _ hj] at hu
      have ha : ((⟨g, o, none⟩ : Addr).add j) = ⟨g, o + j, none⟩ := by unfold Addr.add; split <;> simp_all
      rw [ha, cell_obj, h.2 j hj]
      exact hu) (fun u hu => by
      unfold rowL at hu
      obtain ⟨i, _, rfl⟩ := List.mem_map.1 hu
      rfl) (by decide) (by unfold maxLen; omega) (by decide) (Nat.le_refl _) w.heap.size rfl
  rw [List.nil_append, Nat.zero_add] at ho
  exact ⟨g', cap, w', by unfold appendNext; simp only [Sem.run_bind, hr, Result.andThen_ok, Sem.run_pure], words_of_own ho, (own_next (World.ownsRow_nil w w.heap.size 28 1) hg (Grew.refl w) (Nat.le_refl _)).1⟩
end Go.Proofs.YtdihaffopfbnnaaDoor
