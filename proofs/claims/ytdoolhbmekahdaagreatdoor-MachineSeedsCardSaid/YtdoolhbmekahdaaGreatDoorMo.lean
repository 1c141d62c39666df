/- Mo -/
import Derived.Test.YtdoolhbmekahdaaGreatDoorOw
import Derived.Test.YtdoolhbmekahdaaGreatDoorCt
import Derived.Test.YtdoolhbmekahdaaGreatDoorE15
import Derived.Test.YtdoolhbmekahdaaGreatDoorQ12
import Derived.Test.YtdoolhbmekahdaaGreatDoorNds
import Derived.Test.YtdoolhbmekahdaaGreatDoorRel
import Derived.Test.YtdoolhbmekahdaaGreatDoorQ9
import Derived.Test.YtdoolhbmekahdaaGreatDoorR9
set_option maxRecDepth 100000
set_option maxHeartbeats 4000000
namespace Go.Proofs.YtdoolhbmekahdaaGreatDoor
open Go.RowKit
set_option linter.unusedVariables false
set_option linter.unusedSimpArgs false
def nmL : List ByteArray := [⟨#[100, 114, 97, 119]⟩, ⟨#[115, 101, 101, 100]⟩, ⟨#[112, 117, 98, 108, 105, 115, 104]⟩, ⟨#[99, 114, 101, 97, 116, 101]⟩, ⟨#[117, 112, 100, 97, 116, 101]⟩, ⟨#[100, 101, 108, 105, 118, 101, 114]⟩, ⟨#[108, 101, 97, 118, 101]⟩, ⟨#[100, 114, 111, 112]⟩, ⟨#[100, 111, 117, 98, 108, 101]⟩, ⟨#[116, 117, 114, 110]⟩, ⟨#[115, 119, 97, 112]⟩, ⟨#[112, 117, 116]⟩, ⟨#[115, 104, 111, 119]⟩, ⟨#[97, 108, 108]⟩]
def nmS (k : Nat) : ByteArray := nmL.getD k ByteArray.empty
def strC (F : Nat → ByteArray) (n : Nat) : Array Value := (Array.range n).map fun i => .string (F i)
theorem strC_size (F : Nat → ByteArray) (n : Nat) : (strC F n).size = n := by simp [strC]
theorem strC_get (F : Nat → ByteArray) (n i : Nat) (h : i < n) : (strC F n)[i]? = some (.string (F i)) := by simp [strC, h]
def NmAt (w : World) : Prop := ∃ t, objAt w 0 = some (.cells (strC nmS 14) t (0, 0))
theorem NmAt.later {w w' : World} (h : NmAt w) (hb : Below w.heap.size w w') : NmAt w' := by
 obtain ⟨t, h⟩ := h
 exact ⟨t, keep_below hb h⟩
def firstS (F : Nat → ByteArray) (s : ByteArray) : Nat → Nat → Nat
 | k, 0 => k
 | k, n + 1 => if F k = s then k else firstS F s (k + 1) n
def opI (s : ByteArray) : Nat := firstS nmS s 0 14
def firstL (s : ByteArray) : List ByteArray → Nat → Nat
 | [], k => k
 | a :: l, k => if a = s then k else firstL s l (k + 1)
theorem opI_list (s : ByteArray) : opI s = firstL s nmL 0 := rfl
theorem first_hit {F : Nat → ByteArray} {s : ByteArray} : ∀ {n k j}, (∀ i, k ≤ i → i < j → F i ≠ s) → k ≤ j → j < k + n → F j = s → firstS F s k n = j
 | 0, k, j, _, h1, h2, _ => by omega
 | n + 1, k, j, h, h1, h2, h3 => by
  unfold firstS
  by_cases e : k = j
  ·subst e; rw [if_pos h3]
  ·rw [if_neg (h k (Nat.le_refl _) (by omega))]
   exact first_hit (fun i a b => h i (by omega) b) (by omega) (by omega) h3
theorem first_miss {F : Nat → ByteArray} {s : ByteArray} : ∀ {n k}, (∀ i, k ≤ i → i < k + n → F i ≠ s) → firstS F s k n = k + n
 | 0, k, _ => rfl
 | n + 1, k, h => by
  unfold firstS
  rw [if_neg (h k (Nat.le_refl _) (by omega)), first_miss fun i a b => h i (by omega) (by omega)]
  omega
theorem run_index_strs {P : Program} (w : World) {t e : TypeId} {n : Nat} {i : TypeInfo} (k' : IntKind) (F : Nat → ByteArray) (j : Int) (hu : P.underlying t = some (.array n e)) (he : P.underlying e = some .string) (hi : P.info? e = some i) (hs : i.size = 1) (h0 : 0 ≤ j) (h1 : j < n) :
  (Instr.index t (.agg (strC F n)) (.int k' j)).run P w = .ok (.string (F j.toNat)) w := by
 have hlt : j.toNat < n := by omega
 have hc : P.cellsOf e = 1 := by simp [Program.cellsOf, hi, hs]
 simp [Instr.index, hc, asIntOf, Sem.run_bind, run_underlying hu, h0, h1, run_sizeOf w hi, hs, part, isAgg, run_underlying he, strC_get _ _ _ hlt]
@[go_sem ↓ high] theorem load_nm (ρ : Operand → Value) (d : Option Tmp) (x : Operand) (t : TypeId) (pos : String) (af : Array Edge) (g : Option (Nat × Bool)) :
  execOp ρ ⟨d, .load 141 x, t, pos, af, g⟩ = loadNext 141 (ρ x) := op_load _ ρ d x t pos af g
@[go_sem high] theorem load_nm' (ρ : Operand → Value) (d : Option Tmp) (x : Operand) (t : TypeId) (pos : String) (af : Array Edge) (g : Option (Nat × Bool)) :
  execOp ρ ⟨d, .load 141 x, t, pos, af, g⟩ = loadNext 141 (ρ x) := op_load _ ρ d x t pos af g
@[go_sem] theorem load_nm_at (g : Nat) (w : World) : (loadNext 141 (.pointer (some ⟨g, 0, none⟩))).run Tryz.prog w = (loadOf Tryz.prog 141 g 14 w (objAt w g)).andThen fun v w' => .ok (.value v) w' := by
 rw [run_loadNext, loadRow_eq Tryz.underlying141 rfl (by kernel_rfl) g w]
@[go_sem] theorem load_nm_of (g : Nat) (w : World) (F : Nat → ByteArray) (t' : TypeId) (fr : Nat × Nat) : loadOf Tryz.prog 141 g 14 w (some (.cells (strC F 14) t' fr)) = .ok (.agg (strC F 14)) w := loadOf_cells _ t' fr (strC_size F 14)
@[go_sem] theorem index_nm (w : World) (k' : IntKind) (F : Nat → ByteArray) (j : Int) (h0 : 0 ≤ j) (h1 : j < 14) :
  (Instr.index 141 (.agg (strC F 14)) (.int k' j)).run Tryz.prog w = .ok (.string (F j.toNat)) w :=
 run_index_strs w k' F j Tryz.underlying141 Tryz.underlying9 (show Tryz.prog.info? 9 = some ((Tryz.prog.info? 9).get (by kernel_rfl)) by kernel_rfl) (by kernel_rfl) h0 h1
theorem nmS_get (i : Nat) (h : i < 14) : (nmL.map (·.data.toList))[i]? = some (nmS i).data.toList := by
 unfold nmS
 rw [List.getElem?_map, List.getD_eq_getElem?_getD, List.getElem?_eq_getElem (show i < nmL.length from h)]
 rfl
attribute [irreducible] strC nmS
def opU (s : ByteArray) : Int := if opI s < 14 then (opI s : Int) else 0
def opB (s : ByteArray) : Bool := decide (opI s < 14)
theorem toList_ne {a b : ByteArray} (h : a ≠ b) : (a.toList == b.toList) = false := by
 rw [beq_eq_false_iff_ne]
 intro e
 rw [ByteArray.toList_eq, ByteArray.toList_eq] at e
 apply h
 obtain ⟨a⟩ := a
 obtain ⟨b⟩ := b
 have e2 : a = b := Array.toList_inj.1 e
 rw [e2]
attribute [local irreducible] opU opB
theorem opOf_any (s : ByteArray) (w : World) (hN : NmAt w) :
  Calls Tryz.prog 40 #[.string s] w fun e w' => e = .returned (.tuple #[.int .u8 (opU s), .bool (opB s)]) ∧ Below w.heap.size w w' := by
 obtain ⟨t, hN⟩ := hN
 have lN := lt_of_objAt hN
 have hG := Grew.refl w
 go_enter Tryz.func40, Tryz.ntmps40
 go_wp2_with fail
 go_loopw [7, 4, 5] (fun i _ _ wr => ∃ k : Nat, k ≤ 14 ∧ i = .int .i64 k ∧ Below w.heap.size w wr ∧ Hid (∀ j, j < k → nmS j ≠ s)) (fun i _ _ _ => 14 - (intOf i).toNat)
 case atStart => exact ⟨0, by omega, rfl, Grew.refl _, fun j hj => absurd hj (Nat.not_lt_zero _)⟩
 case round =>
  obtain ⟨k, hk, rfl, hM, hF⟩ := hrel
  by_cases hlt : k < 14
  ·have hk1 : (k : Int) < 14 := by omega
   have hk0 : (0 : Int) ≤ (k : Int) := by omega
   by_cases e : nmS k = s
   ·have HU : Hid (opU s = (k : Int)) := by
     have h : opI s = k := first_hit (fun i _ h => hF.out i h) (Nat.zero_le _) (by omega) e
     show opU s = k
     unfold opU
     rw [h, if_pos hlt]
    have HB : Hid (opB s = true) := by
     have h : opI s = k := first_hit (fun i _ h => hF.out i h) (Nat.zero_le _) (by omega) e
     show opB s = true
     unfold opB
     rw [h, decide_eq_true hlt]
    have hw : IntKind.u8.wrap (k : Int) = (k : Int) := by rw [IntKind.wrap_u8]; omega
    have hq : ((nmS k).toList == s.toList) = true := by rw [e]; simp
    clear hF e
    go_wp2
    go_ret2
    exact ⟨by rw [HU.out, HB.out]; rfl, hM⟩
   ·have hF2 : Hid (∀ j, j < k + 1 → nmS j ≠ s) := fun j hj => by
     rcases Nat.lt_or_ge j k with h | h
     ·exact hF.out j h
     ·obtain rfl : j = k := by omega
      exact e
    have hq := toList_ne e
    clear hF e
    go_wp2
    go_roundw
    case rel => first | exact ⟨k + 1, by omega, by go_num, hM, hF2⟩ | ((repeat' apply Exists.intro) <;> first | exact ⟨⟨k + 1, by omega, by go_num, hM, hF2⟩, rfl⟩ | exact undef)
    case measure => (simp [intOf] <;> omega)
  ·obtain rfl : k = 14 := by omega
   have h : opI s = 14 := first_miss fun i _ h => hF.out i (by omega)
   have HU : Hid (opU s = 0) := by
    show opU s = 0
    unfold opU
    rw [h, if_neg (by omega)]
   have HB : Hid (opB s = false) := by
    show opB s = false
    unfold opB
    rw [h]; rfl
   clear hF h
   go_wp2
   go_ret2
   exact ⟨by rw [HU.out, HB.out]; rfl, hM⟩
end Go.Proofs.YtdoolhbmekahdaaGreatDoor
namespace Go.Proofs.YtdoolhbmekahdaaGreatDoor
open Go.ChangeShapes Go.WideShapes Go.ChangeAt Go.RowKit
set_option linter.unusedVariables false
set_option linter.unusedSimpArgs false
theorem open_names {enc : TypeId × Value → Unit} {P : Program} {W : World} {base : Nat} {sp : Nat → Bool} {held : Bool} {t e : TypeId} {n fuel : Nat} {cs : Array Value} {l : List (List UInt8)} {p : List MemPlace} (F : Nat → ByteArray)
  (hF : ∀ i, i < n → l[i]? = some (F i).data.toList)
  (hu : P.underlying t = some (.array n e)) (he : P.underlying e = some .string) (hc : P.cellsOf e = 1) (hs : P.cellsOf t = n)
  (h : DataW.trod enc P W base sp held fuel t cs.toList = some (.agg (l.map fun z => .lit (.string z)), p)) : cs = strC F n := by
 obtain ⟨xs, m, _, hx, hlen, hn, hel⟩ := DataW.trod_array hu h
 simp only [Prod.mk.injEq, DataW.agg.injEq] at hx
 have hsz : cs.size = n := by rw [← hs]; simpa using hlen
 apply Array.ext_getElem?
 intro i
 by_cases hi : i < n
 ·rw [strC_get _ _ _ hi]
  have h1 := hel i hi
  rw [hc, Nat.mul_one, List.getElem?_eq_getElem (by omega)] at h1
  obtain ⟨z, e1, e2, _⟩ := DataW.trod_string he h1
  have e3 := congrArg (fun l => l[i]?) hx.1
  simp only [List.getElem?_map] at e3
  rw [List.getElem?_eq_getElem (by omega : i < xs.length), e2, hF i hi] at e3
  simp only [Option.map_some, Option.some.injEq, DataW.lit.injEq, Lit.string.injEq] at e3
  have ez : z = F i := by
   have e4 : (F i).data.toList = z.data.toList := by first | exact e3 | exact e3.symm
   cases hz : z with
   | mk d =>
    cases hf : F i with
    | mk d' =>
     rw [hz, hf] at e4
     exact congrArg ByteArray.mk (Array.toList_inj.1 e4).symm
  have h2 : ((cs.toList.drop i).take 1)[0]? = some (.string z) := by rw [e1]; rfl
  rw [ez] at h2
  simpa using h2
 ·rw [Array.getElem?_eq_none (by omega), Array.getElem?_eq_none (by rw [strC_size]; omega)]
theorem names_of_laid {W : World} (h : laidMetH Tryz.prog [("sapwood/script.names", Rows.laid_sapwood_script_names)] W) : NmAt W := by
 rw [MakeChecks.laidMetH_plain _ _ _ (by kernel_rfl)] at h
 obtain ⟨ps, ⟨g0, t0, cs0, f0, p0, q0, hg0, ht0, hv0, hd0, hq0, hps⟩, _, hcell⟩ := h
 have G0 : Tryz.prog.globalNamed "sapwood/script.names" = some 0 := by kernel_rfl
 obtain rfl := Option.some.inj (G0.symm.trans hg0)
 have T0 : (Tryz.prog.globals[0]?).map (·.type) = some 141 := by kernel_rfl
 obtain rfl := Option.some.inj (T0.symm.trans ht0)
 have e0 := open_names (l := nmL.map (·.data.toList)) nmS nmS_get Tryz.underlying141 Tryz.underlying9 (by kernel_rfl) (by kernel_rfl) hd0
 subst e0
 refine obj_of_var G0 hv0 fun c t fr hh => ?_
 have hm : MemPlace.cell 0 0 ∈ ps := by
  rw [hps]
  refine List.mem_append_left _ (List.mem_append_left _ (List.mem_map.2 ⟨0, ?_, rfl⟩))
  rw [List.mem_range, strC_size]; decide
 obtain ⟨⟨c', t', hh'⟩, _⟩ := hcell _ _ hm
 rw [hh] at hh'
 cases hh'
 rfl
theorem laid11_of {W : World} (h : laidMetH Tryz.prog [("unicode/utf8.first", Rows.laid_unicode_utf8_first), ("unicode/utf8.acceptRanges", Rows.laid_unicode_utf8_acceptRanges), ("strconv.ErrSyntax", Rows.laid_strconv_ErrSyntax), ("strconv.ErrRange", Rows.laid_strconv_ErrRange), ("internal/strconv.uint64pow10", Rows.laid_internal_strconv_uint64pow10), ("math/bits.deBruijn32tab", Rows.laid_math_bits_deBruijn32tab), ("math/bits.deBruijn64tab", Rows.laid_math_bits_deBruijn64tab), ("sapwood/script.names", Rows.laid_sapwood_script_names), ("errors.errorType", Rows.laid_errors_errorType), ("sapwood/sha.square", Rows.laid_sapwood_sha_square), ("sapwood/sha.cube", Rows.laid_sapwood_sha_cube)] W) : Tabs W ∧ EtAt W ∧ NmAt W := by
 have h1 := laid3_of (laidMetH.filter (fun x => x.1 == "errors.errorType" || x.1 == "sapwood/sha.square" || x.1 == "sapwood/sha.cube") h)
 exact ⟨h1.1, h1.2, names_of_laid (laidMetH.filter (fun x => x.1 == "sapwood/script.names") h)⟩
noncomputable def hw11L (os : Os) : World := (hw0 os).layVars Tryz.prog [("unicode/utf8.first", Rows.laid_unicode_utf8_first), ("unicode/utf8.acceptRanges", Rows.laid_unicode_utf8_acceptRanges), ("strconv.ErrSyntax", Rows.laid_strconv_ErrSyntax), ("strconv.ErrRange", Rows.laid_strconv_ErrRange), ("internal/strconv.uint64pow10", Rows.laid_internal_strconv_uint64pow10), ("math/bits.deBruijn32tab", Rows.laid_math_bits_deBruijn32tab), ("math/bits.deBruijn64tab", Rows.laid_math_bits_deBruijn64tab), ("sapwood/script.names", Rows.laid_sapwood_script_names), ("sapwood/sha.square", Rows.laid_sapwood_sha_square), ("sapwood/sha.cube", Rows.laid_sapwood_sha_cube)]
theorem hw11L_os (os : Os) : (hw11L os).os = os := World.layVars_os _ _ _
theorem hw11_fits (os : Os) : (hw0 os).layFits Tryz.prog [("unicode/utf8.first", Rows.laid_unicode_utf8_first), ("unicode/utf8.acceptRanges", Rows.laid_unicode_utf8_acceptRanges), ("strconv.ErrSyntax", Rows.laid_strconv_ErrSyntax), ("strconv.ErrRange", Rows.laid_strconv_ErrRange), ("internal/strconv.uint64pow10", Rows.laid_internal_strconv_uint64pow10), ("math/bits.deBruijn32tab", Rows.laid_math_bits_deBruijn32tab), ("math/bits.deBruijn64tab", Rows.laid_math_bits_deBruijn64tab), ("sapwood/script.names", Rows.laid_sapwood_script_names), ("sapwood/sha.square", Rows.laid_sapwood_sha_square), ("sapwood/sha.cube", Rows.laid_sapwood_sha_cube)] [] = true := by kernel_rfl
theorem hw11_ifaces (os : Os) : (hw0 os).layIfaces Tryz.prog [("unicode/utf8.first", Rows.laid_unicode_utf8_first), ("unicode/utf8.acceptRanges", Rows.laid_unicode_utf8_acceptRanges), ("strconv.ErrSyntax", Rows.laid_strconv_ErrSyntax), ("strconv.ErrRange", Rows.laid_strconv_ErrRange), ("internal/strconv.uint64pow10", Rows.laid_internal_strconv_uint64pow10), ("math/bits.deBruijn32tab", Rows.laid_math_bits_deBruijn32tab), ("math/bits.deBruijn64tab", Rows.laid_math_bits_deBruijn64tab), ("sapwood/script.names", Rows.laid_sapwood_script_names), ("sapwood/sha.square", Rows.laid_sapwood_sha_square), ("sapwood/sha.cube", Rows.laid_sapwood_sha_cube)] (hw11L os) = true := by kernel_rfl
theorem hw11L_met (os : Os) (args : Array Value) : laidMetH Tryz.prog [("unicode/utf8.first", Rows.laid_unicode_utf8_first), ("unicode/utf8.acceptRanges", Rows.laid_unicode_utf8_acceptRanges), ("strconv.ErrSyntax", Rows.laid_strconv_ErrSyntax), ("strconv.ErrRange", Rows.laid_strconv_ErrRange), ("internal/strconv.uint64pow10", Rows.laid_internal_strconv_uint64pow10), ("math/bits.deBruijn32tab", Rows.laid_math_bits_deBruijn32tab), ("math/bits.deBruijn64tab", Rows.laid_math_bits_deBruijn64tab), ("sapwood/script.names", Rows.laid_sapwood_script_names), ("errors.errorType", Rows.laid_errors_errorType), ("sapwood/sha.square", Rows.laid_sapwood_sha_square), ("sapwood/sha.cube", Rows.laid_sapwood_sha_cube)] ((hw11L os).forCall (fun _ _ => 0) ⟨#[], args, []⟩).memory := by
 have h0 : laidMet Tryz.prog [("unicode/utf8.first", Rows.laid_unicode_utf8_first), ("unicode/utf8.acceptRanges", Rows.laid_unicode_utf8_acceptRanges), ("strconv.ErrSyntax", Rows.laid_strconv_ErrSyntax), ("strconv.ErrRange", Rows.laid_strconv_ErrRange), ("internal/strconv.uint64pow10", Rows.laid_internal_strconv_uint64pow10), ("math/bits.deBruijn32tab", Rows.laid_math_bits_deBruijn32tab), ("math/bits.deBruijn64tab", Rows.laid_math_bits_deBruijn64tab), ("sapwood/script.names", Rows.laid_sapwood_script_names), ("sapwood/sha.square", Rows.laid_sapwood_sha_square), ("sapwood/sha.cube", Rows.laid_sapwood_sha_cube)] (hw11L os) :=
  laidMet_layVars (w0 := hw0 os) ["unicode/utf8.first", "unicode/utf8.acceptRanges", "strconv.ErrSyntax", "strconv.ErrRange", "internal/strconv.uint64pow10", "math/bits.deBruijn32tab", "math/bits.deBruijn64tab", "sapwood/script.names", "sapwood/sha.square", "sapwood/sha.cube"] [] rfl (hw11_fits os) (hw11_ifaces os) (by exact LaidIn.none)
 refine laidMetH_of_parts ?_ (by kernel_rfl)
 exact h0.of_heap (by simp [World.memory, World.forCall, Input.heap])
end Go.Proofs.YtdoolhbmekahdaaGreatDoor
namespace Go.Proofs.YtdoolhbmekahdaaGreatDoor
open Go.RowKit
set_option linter.unusedVariables false
set_option linter.unusedSimpArgs false
theorem conv_one {W : World} {g i : Nat} {x : Int} {t : TypeId} (h : objAt W g = some (.cells #[.int .u8 x] t)) (e : x = ((i % 256 : Nat) : Int)) : (convert 36 9 (.slice (some ⟨g, 0, none⟩) 1 1)).run Tryz.prog W = .ok (.string (byteB i)) W := by
 subst e
 exact run_str (P := Tryz.prog) Tryz.underlying36 Tryz.underlying5 Tryz.underlying9 g 1 1 1 (fun _ => ((i % 256 : Nat) : Int)) W (te := t) (fr := (0, 0)) (by rw [one_byte_row]; exact h) (by decide)
def seedF (word : ByteArray) : Nat → Nat → Int := fun i => labelF ⟨#[115, 97, 112, 119, 111, 111, 100, 32, 100, 114, 97, 119]⟩ word (byteB i)
attribute [local irreducible] strOf shaF labelF oneF macF byteB oneS catS
theorem seed_label (word : ByteArray) (hw : word.size ≤ 300) (i g : Nat) (W : World) (hS : StrsAt W (some ⟨g, 0, none⟩) 1 (oneS (byteB i))) (hT : Tabs W) :
  Calls Tryz.prog 10 #[.string ⟨#[115, 97, 112, 119, 111, 111, 100, 32, 100, 114, 97, 119]⟩, .string word, .slice (some ⟨g, 0, none⟩) 1 1] W fun e w' => e = .returned (.agg (ints .u8 32 (seedF word i))) ∧ Below W.heap.size W w' := by
 have := label_any ⟨#[115, 97, 112, 119, 111, 111, 100, 32, 100, 114, 97, 119]⟩ word (some ⟨g, 0, none⟩) 1 1 (oneS (byteB i)) W (by decide) (by omega) (by rw [cat_one, byteB_size]; decide) (by decide) (by decide) hS hT
 rw [cat_one] at this
 exact this
attribute [local irreducible] seedF
theorem seed_any (word : ByteArray) (n : Int) (m : Nat) (w : World) (hw : word.size ≤ 300) (hm : (m : Int) = max 0 (min n 64)) (hT : Tabs w) :
  Calls Tryz.prog 5 #[.string word, .int .i64 n] w fun e w' => ∃ oa c, e = .returned (.slice oa m c) ∧ m ≤ c ∧ K32At w' oa m (seedF word) ∧ Below w.heap.size w w' := by
 have hTT : Hid (Tabs w) := hT
 clear hT
 have cL := fun (i g : Nat) (W : World) => seed_label word hw i g W
 generalize hZ : seedF word = Z at *
 clear hZ hw
 have hG := Grew.refl w
 go_enter Tryz.func5, Tryz.ntmps5
 go_wp2_with fail
 have hmn : (min n 64 ≤ 0 ∧ m = 0) ∨ (0 < min n 64 ∧ min n 64 = (m : Int)) := by omega
 have hm64 : m ≤ 64 := by omega
 generalize min n 64 = b at *
 clear hm
 go_loopw [9, 5, 6] (fun i v _ wr => ∃ (k : Nat) (v0 : Value), v0 = v ∧ k ≤ m ∧ i = .int .i64 k ∧ Below w.heap.size w wr ∧ Hid (wr.ownsRow w.heap.size 27 32 v0 k (k32L Z k))) (fun i _ _ _ => m - (intOf i).toNat)
 case atStart => exact ⟨0, _, rfl, by omega, rfl, Grew.refl _, World.ownsRow_nil _ _ _ _⟩
 case round =>
  obtain ⟨k, v0, rfl, hk, rfl, hM, OWN⟩ := hrel
  by_cases hlt : k < m
  ·have hb1 : (k : Int) < b := by omega
   have hk64 : k < 64 := by omega
   have cK := fun (g : Nat) (W : World) => cL k g W
   clear cL hmn
   have fb : objAt (wr.alloc (.cells #[.int .u8 (k : Int)] 5)) wr.heap.size = some (.cells #[.int .u8 (k : Int)] 5) := objAt_alloc_at _ _ _ rfl
   have hc := conv_one fb (by omega : (k : Int) = ((k % 256 : Nat) : Int))
   go_wp2_with fail
   have fs : objAt ((wr.alloc (.cells #[.int .u8 (k : Int)] 5)).alloc (.cells #[.string (byteB k)] 9)) (wr.heap.size + 1) = some (.cells #[.string (byteB k)] 9) := objAt_alloc_at _ _ _ (by simp)
   have hM2 : Below w.heap.size w ((wr.alloc (.cells #[.int .u8 (k : Int)] 5)).alloc (.cells #[.string (byteB k)] 9)) := Grew.alloc (Grew.alloc hM _) _
   have OWN2 : Hid (((wr.alloc (.cells #[.int .u8 (k : Int)] 5)).alloc (.cells #[.string (byteB k)] 9)).ownsRow w.heap.size 27 32 v0 k (k32L Z k)) := (OWN.out.alloc _).alloc _
   clear hM OWN fb hc
   generalize (wr.alloc (.cells #[.int .u8 (k : Int)] 5)).alloc (.cells #[.string (byteB k)] 9) = w3 at *
   refine (cK _ _ (strs_one fs) (hTT.out.later hM2)).mono ?_
   rintro e w4 ⟨rfl, hb⟩
   have hM4 : Below w.heap.size w w4 := Grew.trans hM2 hb
   have OWN4 : Hid (w4.ownsRow w.heap.size 27 32 v0 k (k32L Z k)) := own_later OWN2.out hb
   clear hM2 OWN2 hb fs
   have hbW : Below w4.heap.size w4 (w4.alloc (.cells (ints .u8 32 (Z k)) 27)) := Grew.alloc (Grew.refl _) _
   have own1 := own_later OWN4.out hbW
   obtain ⟨g3, c3, w5, hr, own5, hgr⟩ := append_keyG (w4.alloc (.cells (ints .u8 32 (Z k)) 27)) w.heap.size v0 k Z w4.heap.size 27 (0, 0) own1 (by omega) (objAt_alloc_at _ _ _ rfl) (Nat.le_trans hM4.size hbW.size)
   obtain ⟨hM5, -⟩ := own_nextS own1 hgr (Grew.trans hM4 hbW) (Nat.le_refl _)
   have OWN5 : Hid (w5.ownsRow w.heap.size 27 32 (.slice (some ⟨g3, 0, none⟩) (k + 1) c3) (k + 1) (k32L Z (k + 1))) := own5
   clear own1 own5 hgr hbW OWN4 hM4
   go_wp2
   go_roundw
   case rel => exact ⟨k + 1, _, rfl, by omega, by go_num, hM5, OWN5⟩
   case measure => (simp [intOf] <;> omega)
  ·obtain rfl : k = m := by omega
   have hb0 : ¬ ((k : Int) < b) := by omega
   obtain ⟨oa2, c2, rfl, hnc, hK2⟩ := k32_of_own OWN.out
   have HK2 : Hid (K32At wr oa2 k Z) := hK2
   clear OWN hK2
   go_wp2
   go_ret
   exact ⟨oa2, c2, rfl, hnc, HK2.out, hM⟩
end Go.Proofs.YtdoolhbmekahdaaGreatDoor
namespace Go.Proofs.YtdoolhbmekahdaaGreatDoor
open Go.RowKit
set_option linter.unusedVariables false
set_option linter.unusedSimpArgs false
theorem equalKM_any (oa ob : Option Addr) (n c d : Nat) (F : Nat → Nat → Int) (w : World) (hn : n ≤ 100000) (hA : K32At w oa n F) (hB : K32At w ob n F) :
  Calls Tryz.prog 6 #[.slice oa n c, .slice ob n d] w fun e w' => e = .returned (.bool true) ∧ Below w.heap.size w w' := by
 have HA : Hid (K32At w oa n F) := hA
 have HB : Hid (K32At w ob n F) := hB
 clear hA hB
 go_enter Tryz.func6, Tryz.ntmps6
 go_wp2_with fail
 go_loopw [13, 5] (fun i _ wr => ∃ k : Nat, k ≤ n ∧ i = .int .i64 k ∧ Below w.heap.size w wr) (fun i _ _ => n - (intOf i).toNat)
 case atStart => exact ⟨0, by omega, rfl, Grew.refl _⟩
 case round =>
  obtain ⟨k, hk, rfl, hM⟩ := hrel
  by_cases hlt : k < n
  ·obtain ⟨ad, rfl⟩ := HA.out.addr (by omega)
   obtain ⟨bd, rfl⟩ := HB.out.addr (by omega)
   have l1 := fun q : More => HA.out.loadK hlt (Grew.more hM q)
   have l2 := fun q : More => HB.out.loadK hlt (Grew.more hM q)
   have hsm := same_refl 32 (F k)
   have hi1 : (k : Int) < (n : Int) := by omega
   have hi0 : (0 : Int) ≤ (k : Int) := by omega
   go_wp2_with fail
   ((first | (with_reducible refine wp_region_on (by kernel_rfl) (by kernel_rfl) ?_) | refine wp_region_more (by kernel_rfl) (by kernel_rfl) ?_); (repeat (first | go_big_quiet_skip | (go_big_quiet_want; go_big_quiet_op; first | go_big_quiet_on | (apply Exists.intro; refine ⟨fun _ => ?_, ?_⟩; (focus (fail)); go_big_quiet_on)))); refine wpQuiet_nil ?_; rintro _ ⟨mq, rfl⟩)
   have hM2 := Grew.trans hM (below_more wr mq)
   clear l1 l2
   generalize more wr mq = w2 at *
   go_wp2
   go_roundw
   case rel => first | exact ⟨k + 1, by omega, by go_num, hM2⟩ | ((repeat' apply Exists.intro) <;> first | exact ⟨⟨k + 1, by omega, by go_num, hM2⟩, rfl⟩ | exact undef)
   case measure => (simp [intOf] <;> omega)
  ·obtain rfl : k = n := by omega
   go_wp2
   go_ret
   exact ⟨rfl, hM⟩
theorem K32At.less {w : World} {oa : Option Addr} {n m : Nat} {F : Nat → Nat → Int} (h : K32At w oa n F) (hm : m ≤ n) : K32At w oa m F := by
 rcases h with h | ⟨ad, e, hl⟩
 ·exact .inl (by omega)
 ·exact .inr ⟨ad, e, fun w' hb j hj => hl w' hb j (by omega)⟩
theorem all_key (oa : Option Addr) (c : Nat) : (if c = 0 then oa else oa.map (·.add 0)) = oa := by
 split
 ·rfl
 ·cases oa with
  | none => rfl
  | some a => simp [Addr.add]
theorem slice_first (oa : Option Addr) (n c k : Nat) (W : World) (hk : k ≤ c) : (Instr.slice 23 (.slice oa n c) none (some (.int .i64 (k : Int))) none).run Tryz.prog W = .ok (.slice oa k c) W := by
 have ht : Tryz.prog.underlying 23 = some (.slice (Tryz.prog.elem 23)) := by kernel_rfl
 rw [run_slice_h _ _ _ _ _ ht _ _ (by omega) (by omega)]
 have h : (sizeOf (Tryz.prog.elem 23)).run Tryz.prog W = .ok 32 W := by kernel_rfl
 rw [h]
 simp only [Result.andThen_ok, sliced, Int.toNat_natCast, Nat.zero_mul, Nat.sub_zero, all_key]
attribute [local irreducible] seedF strOf shaF labelF oneF macF byteB oneS catS
theorem seeds_walk (word : ByteArray) (a b : Int) (m1 m2 : Nat) (Z : Nat → Nat → Int) (w : World) (hT : Tabs w) (hE : EtAt w) (hN : NmAt w) (hw : word.size ≤ 300)
  (l1 : 0 ≤ min a b) (l2 : min a b ≤ 255) (l3 : 0 ≤ max a b) (l4 : max a b ≤ 255) (h1 : min 64 (min a b) = (m1 : Int)) (h2 : min 64 (max a b) = (m2 : Int)) (h3 : m1 ≤ m2) (h4 : m2 ≤ 64)
  (aw : ∀ W : World, Tabs W → EtAt W → NmAt W → Calls Tryz.prog 4 #[] W fun e w' => e = .returned (.bool true) ∧ Below W.heap.size W w')
  (cF : ∀ W : World, Tabs W → Calls Tryz.prog 5 #[.string word, .int .i64 (min a b)] W fun e w' => ∃ oa c, e = .returned (.slice oa m1 c) ∧ m1 ≤ c ∧ K32At w' oa m1 Z ∧ Below W.heap.size W w')
  (cM : ∀ W : World, Tabs W → Calls Tryz.prog 5 #[.string word, .int .i64 (max a b)] W fun e w' => ∃ oa c, e = .returned (.slice oa m2 c) ∧ m2 ≤ c ∧ K32At w' oa m2 Z ∧ Below W.heap.size W w')
  (cN : ∀ W : World, Tabs W → Calls Tryz.prog 5 #[.string word, .int .i64 (-3)] W fun e w' => ∃ oa c, e = .returned (.slice oa 0 c) ∧ 0 ≤ c ∧ K32At w' oa 0 Z ∧ Below W.heap.size W w') :
  Calls Tryz.prog 3 #[.string word, .int .u8 a, .int .u8 b] w fun e w' => e = .returned (.bool true) ∧ Below w.heap.size w w' := by
 have hTT : Hid (Tabs w) := hT
 have hEE : Hid (EtAt w) := hE
 have hNN : Hid (NmAt w) := hN
 have HC : Hid (m1 ≤ m2) := h3
 clear hT hE hN h3
 have hG := Grew.refl w
 go_enter Tryz.func3, Tryz.ntmps3
 go_wp2_with fail
 (refine (aw _ (hTT.out.later hG) (hEE.out.later hG) (hNN.out.later hG)).mono ?_; rintro e w1 ⟨rfl, hb⟩; replace hG : Below w.heap.size w w1 := Grew.trans (by exact grew_auto) hb; clear hb)
 go_wp2_with fail
 refine (cF _ (hTT.out.later hG)).mono ?_
 rintro e w5 ⟨o1, k1, rfl, q1, hK1, hb⟩
 replace hG : Below w.heap.size w w5 := Grew.trans hG hb
 have HK5 : Hid (K32At w5 o1 m1 Z) := hK1
 clear hK1 hb cF
 go_wp2_with fail
 refine (cM _ (hTT.out.later hG)).mono ?_
 rintro e w2 ⟨o2, k2, rfl, q2, hK2, hb⟩
 replace hG : Below w.heap.size w w2 := Grew.trans hG hb
 have HK1 : Hid (K32At w2 o1 m1 Z) := HK5.out.later hb
 have HK2 : Hid (K32At w2 o2 m2 Z) := hK2
 clear hK2 hb HK5
 have hsl : ∀ W : World, (Instr.slice 23 (.slice o2 m2 k2) none (some (.int .i64 (m1 : Int))) none).run Tryz.prog W = .ok (.slice o2 m1 k2) W := fun W => slice_first o2 m2 k2 m1 W (Nat.le_trans HC.out q2)
 have hmm : m1 ≤ k2 := Nat.le_trans HC.out q2
 go_wp2_with fail
 refine (equalKM_any o2 o1 m1 k2 k1 Z _ (by omega) (HK2.out.less HC.out) HK1.out).mono ?_
 rintro e w3 ⟨rfl, hb⟩
 replace hG : Below w.heap.size w w3 := Grew.trans hG hb
 replace HK2 : Hid (K32At w3 o2 m2 Z) := HK2.out.later hb
 clear hb HK1 hsl hmm q1
 go_wp2_with fail
 refine (cM _ (hTT.out.later hG)).mono ?_
 rintro e w4 ⟨o3, k3, rfl, q3, hK3, hb⟩
 replace hG : Below w.heap.size w w4 := Grew.trans hG hb
 replace HK2 : Hid (K32At w4 o2 m2 Z) := HK2.out.later hb
 have HK3 : Hid (K32At w4 o3 m2 Z) := hK3
 clear hK3 hb cM q3
 go_wp2_with fail
 refine (equalKM_any o3 o2 m2 k3 k2 Z _ (by omega) HK3.out HK2.out).mono ?_
 rintro e w6 ⟨rfl, hb⟩
 replace hG : Below w.heap.size w w6 := Grew.trans hG hb
 clear hb HK3 HK2
 go_wp2_with fail
 refine (cN _ (hTT.out.later hG)).mono ?_
 rintro e w7 ⟨o4, k4, rfl, q4, hK4, hb⟩
 replace hG : Below w.heap.size w w7 := Grew.trans hG hb
 clear hK4 hb q4 cN
 go_wp2
 go_ret
 exact ⟨rfl, hG⟩
theorem seeds_long (word : ByteArray) (a b : Int) (w : World) (hT : Tabs w) (hE : EtAt w) (hN : NmAt w) (hw : 300 < word.size) (h1 : word.size ≤ 9223372036854775807)
  (aw : ∀ W : World, Tabs W → EtAt W → NmAt W → Calls Tryz.prog 4 #[] W fun e w' => e = .returned (.bool true) ∧ Below W.heap.size W w') :
  Calls Tryz.prog 3 #[.string word, .int .u8 a, .int .u8 b] w fun e w' => e = .returned (.bool true) ∧ Below w.heap.size w w' := by
 have hTT : Hid (Tabs w) := hT
 have hEE : Hid (EtAt w) := hE
 have hNN : Hid (NmAt w) := hN
 clear hT hE hN
 have hG := Grew.refl w
 go_enter Tryz.func3, Tryz.ntmps3
 go_wp2_with fail
 (refine (aw _ (hTT.out.later hG) (hEE.out.later hG) (hNN.out.later hG)).mono ?_; rintro e w1 ⟨rfl, hb⟩; replace hG : Below w.heap.size w w1 := Grew.trans (by exact grew_auto) hb; clear hb)
 go_wp2
 go_ret
 exact ⟨rfl, by exact grew_auto⟩
theorem seeds_any (word : ByteArray) (a b : Int) (w : World) (hT : Tabs w) (hE : EtAt w) (hN : NmAt w) (h1 : word.size ≤ 9223372036854775807) (a0 : 0 ≤ a) (a1 : a ≤ 255) (b0 : 0 ≤ b) (b1 : b ≤ 255)
  (aw : ∀ W : World, Tabs W → EtAt W → NmAt W → Calls Tryz.prog 4 #[] W fun e w' => e = .returned (.bool true) ∧ Below W.heap.size W w') :
  Calls Tryz.prog 3 #[.string word, .int .u8 a, .int .u8 b] w fun e w' => e = .returned (.bool true) ∧ Below w.heap.size w w' := by
 by_cases hw : word.size ≤ 300
 ·exact seeds_walk word a b (min 64 (min a b)).toNat (min 64 (max a b)).toNat (seedF word) w hT hE hN hw (by omega) (by omega) (by omega) (by omega) (by omega) (by omega) (by omega) (by omega) aw
   (fun W h => seed_any word _ _ W hw (by omega) h) (fun W h => seed_any word _ _ W hw (by omega) h) (fun W h => seed_any word _ _ W hw (by omega) h)
 ·exact seeds_long word a b w hT hE hN (by omega) h1 aw
end Go.Proofs.YtdoolhbmekahdaaGreatDoor
