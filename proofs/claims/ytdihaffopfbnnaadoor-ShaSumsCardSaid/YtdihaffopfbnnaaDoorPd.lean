/- The reference: a text with what stands behind it. -/
import Derived.Test.YtdihaffopfbnnaaDoorOw
namespace Go.Proofs.YtdihaffopfbnnaaDoor
open Go.RowKit
set_option linter.unusedVariables false
set_option linter.unusedSimpArgs false

theorem full_at (s : ByteArray) : ∀ i, i < s.size → byteAt s i = byteAt (fullB s) i := fun i hi => (byteAt_left s _ i hi).symm
theorem full_pad (s : ByteArray) (i : Nat) (hi : i < (padB s.size).size) : byteAt (fullB s) (s.size + i) = byteAt (padB s.size) i := byteAt_right s _ i hi
theorem pad_first (n : Nat) : byteAt (padB n) 0 = 128 := by
  unfold padB
  have h1 : (⟨#[128]⟩ : ByteArray).size = 1 := rfl
  rw [byteAt_left _ _ 0 (by rw [ByteArray.size_append, h1]; omega), byteAt_left _ _ 0 (by rw [h1]; omega)]
  rfl
theorem pad_nought (n j : Nat) (hj : j < (119 - n % 64) % 64) : byteAt (padB n) (1 + j) = 0 := by
  unfold padB
  have h1 : (⟨#[128]⟩ : ByteArray).size = 1 := rfl
  rw [byteAt_left _ _ _ (by rw [ByteArray.size_append, h1, zerosB_size]; omega)]
  have := byteAt_right (⟨#[128]⟩ : ByteArray) (zerosB ((119 - n % 64) % 64)) j (by rw [zerosB_size]; exact hj)
  rw [h1] at this
  rw [this, byteAt_zeros]
theorem pad_told (n j : Nat) (hj : j < 8) : byteAt (padB n) (1 + (119 - n % 64) % 64 + j) = toldF n j := by
  unfold padB
  have h1 : (⟨#[128]⟩ : ByteArray).size = 1 := rfl
  have := byteAt_right ((⟨#[128]⟩ : ByteArray) ++ zerosB ((119 - n % 64) % 64)) (strOf 8 (toldF n)) j (by rw [strOf_size]; exact hj)
  rw [ByteArray.size_append, h1, zerosB_size] at this
  rw [this, byteAt_strOf 8 _ j hj (told_bytes n j hj)]
theorem full_size (s : ByteArray) : (fullB s).size = s.size + 1 + (119 - s.size % 64) % 64 + 8 := by
  unfold fullB
  rw [ByteArray.size_append, padB_size]; omega
theorem told_div (n j : Nat) (hn : n < 1152921504606846976) (hj : j < 8) : ((n : Int) * 8) / 256 ^ (7 - j) % 256 = toldF n j := by
  unfold toldF
  have e : (256 : Int) ^ (7 - j) = 2 ^ (56 - 8 * j) := by
    rw [show (256 : Int) = 2 ^ 8 from rfl, ← Int.pow_mul]
    congr 1
    omega
  rw [e, Int.mul_comm]
attribute [local irreducible] strOf shaF zerosB padB fullB hashT
set_option maxRecDepth 100000 in
set_option maxHeartbeats 4000000 in
theorem padded_any (s : ByteArray) (w : World) (hs : s.size ≤ 1000000000) :
    Calls Tryd.prog 26 #[.string s] w fun e w' => ∃ g cap, e = .returned (.slice (some ⟨g, 0, none⟩) (fullB s).size cap) ∧ Below w.heap.size w w' ∧ w'.ownsRow w.heap.size 5 1 (.slice (some ⟨g, 0, none⟩) (fullB s).size cap) (fullB s).size (rowL .u8 (byteAt (fullB s)) (fullB s).size) := by
  have hfs := full_size s
  obtain ⟨z, hz⟩ : ∃ z, (119 - s.size % 64) % 64 = z := ⟨_, rfl⟩
  have hz64 : (s.size + 1 + z) % 64 = 56 := by omega
  have hzl : z < 64 := by omega
  have p0 : Hid (byteAt (fullB s) s.size = 128) := by
    have := full_pad s 0 (by rw [padB_size]; omega)
    rw [Nat.add_zero] at this
    show _ = _
    rw [this, pad_first]
  have p1 : Hid (∀ j, j < z → byteAt (fullB s) (s.size + 1 + j) = 0) := fun j hj => by
    have := full_pad s (1 + j) (by rw [padB_size]; omega)
    rw [← Nat.add_assoc] at this
    rw [this, pad_nought s.size j (by omega)]
  have p2 : Hid (∀ j, j < 8 → byteAt (fullB s) (s.size + 1 + z + j) = (s.size : Int) * 8 / 256 ^ (7 - j) % 256) := fun j hj => by
    have := full_pad s (1 + z + j) (by rw [padB_size]; omega)
    rw [show s.size + (1 + z + j) = s.size + 1 + z + j by omega] at this
    rw [this, ← hz, pad_told s.size j hj, told_div s.size j (by omega) hj]
  have q0 : rowL .u8 (byteAt s) s.size = rowL .u8 (byteAt (fullB s)) s.size := rowL_congr (full_at s)
  rw [hz] at hfs
  rw [hfs]
  generalize byteAt (fullB s) = G at *
  clear hfs hz
  obtain ⟨v1, w1, hr1, own1, hG1⟩ := append_str0 w s 43 (by omega)
  rw [q0] at own1
  clear q0
  have OWN1 : Hid (w1.ownsRow w.heap.size 5 1 v1 s.size (rowL .u8 G s.size)) := own1
  have lw1 := hG1.size
  obtain ⟨g2, c2, w2, hr2, own2, hG2, _, hb2⟩ := append_byte w (w1.alloc (.cells #[.int .u8 128] 5)) w.heap.size v1 s.size G w1.heap.size 5 43 (0, 0) (own1.alloc _) (by omega) (by rw [p0.out]; exact objAt_alloc_at _ _ _ rfl) (Grew.alloc hG1 _) (Nat.le_refl _) (by have := (Grew.alloc hG1 (.cells #[.int .u8 128] 5)).size; omega)
  have OWN2 : Hid (w2.ownsRow w.heap.size 5 1 (.slice (some ⟨g2, 0, none⟩) (s.size + 1) c2) (s.size + 1) (rowL .u8 G (s.size + 1))) := own2
  clear own1 own2
  go_enter Tryd.func26, Tryd.ntmps26
  go_wp2_with fail
  go_loopw [3] (fun v wr => ∃ n g c : Nat, s.size + 1 ≤ n ∧ n ≤ s.size + 1 + z ∧ v = .slice (some ⟨g, 0, none⟩) n c ∧ Below w.heap.size w wr ∧ wr.ownsRow w.heap.size 5 1 (.slice (some ⟨g, 0, none⟩) n c) n (rowL .u8 G n)) (fun v _ => match v with | .slice _ n _ => s.size + 1 + z - n | _ => 0)
  case atStart => exact ⟨s.size + 1, g2, c2, by omega, by omega, rfl, hG2, OWN2.out⟩
  case round =>
    clear hr1 hG1 OWN1 lw1 hr2 hG2 hb2 OWN2
    obtain ⟨n, g, c, hn1, hn2, rfl, hG, own⟩ := hrel
    have OWN : Hid (wr.ownsRow w.heap.size 5 1 (.slice (some ⟨g, 0, none⟩) n c) n (rowL .u8 G n)) := own
    clear own
    by_cases hlt : n < s.size + 1 + z
    · have hne : ¬ ((n : Int) % 64 = 56) := by omega
      have hne1 : ((n : Int) % 64 != 56) = true := by simp; omega
      have hne2 : ((n : Int) % 64 == 56) = false := by simp; omega
      have hGn : G n = 0 := by
        have := p1.out (n - (s.size + 1)) (by omega)
        rw [show s.size + 1 + (n - (s.size + 1)) = n by omega] at this
        exact this
      obtain ⟨g3, c3, w3, hr3, own3, hG3, _, _⟩ := append_byte w (wr.alloc (.cells #[.int .u8 0] 5)) w.heap.size (.slice (some ⟨g, 0, none⟩) n c) n G wr.heap.size 5 43 (0, 0) (OWN.out.alloc _) (by omega) (by rw [hGn]; exact objAt_alloc_at _ _ _ rfl) (Grew.alloc hG _) (Nat.le_refl _) (by have := (Grew.alloc hG (.cells #[.int .u8 0] 5)).size; omega)
      have OWN3 : Hid (w3.ownsRow w.heap.size 5 1 (.slice (some ⟨g3, 0, none⟩) (n + 1) c3) (n + 1) (rowL .u8 G (n + 1))) := own3
      clear own3 hGn OWN
      go_wp2
      go_roundw
      case rel => exact ⟨n + 1, g3, c3, by omega, by omega, rfl, hG3, OWN3.out⟩
      case measure => show s.size + 1 + z - (n + 1) < s.size + 1 + z - n; omega
    · obtain rfl : n = s.size + 1 + z := by omega
      have hne : ((s.size + 1 + z : Nat) : Int) % 64 = 56 := by omega
      have hne0 : ((s.size : Int) + 1 + (z : Int)) % 64 = 56 := by omega
      clear hlt hn1 hn2
      obtain ⟨U, hU0, hUS, hUe, hUb⟩ : ∃ U : Nat → Int, U 0 = 72057594037927936 ∧ Hid (∀ j, U j / 256 = U (j + 1)) ∧ Hid (∀ j, j < 8 → U j = 256 ^ (7 - j)) ∧ Hid (∀ j, 0 ≤ U j ∧ U j ≤ 72057594037927936) := by
        refine ⟨fun j => 72057594037927936 / 256 ^ j, by decide, fun j => ?_, fun j hj => ?_, fun j => ⟨Int.ediv_nonneg (by decide) (Int.pow_nonneg (by decide)), Int.ediv_le_self _ (by decide)⟩⟩
        · show 72057594037927936 / 256 ^ j / 256 = 72057594037927936 / 256 ^ (j + 1)
          rw [Int.pow_succ, Int.ediv_ediv_of_nonneg (Int.pow_nonneg (by decide))]
        · rcases (by omega : j = 0 ∨ j = 1 ∨ j = 2 ∨ j = 3 ∨ j = 4 ∨ j = 5 ∨ j = 6 ∨ j = 7) with rfl | rfl | rfl | rfl | rfl | rfl | rfl | rfl <;> decide
      have HU0 : Hid (U 0 = 72057594037927936) := hU0
      clear hU0
      have p3 : Hid (∀ j, j < 8 → G (s.size + 1 + z + j) = (s.size : Int) * 8 / U j % 256) := fun j hj => by rw [p2.out j hj, hUe.out j hj]
      clear p0 p1 p2
      go_wp2_with fail
      go_loopw [3, 5, 6] (fun v u i wr2 => ∃ j g c : Nat, j ≤ 8 ∧ i = .int .i64 j ∧ u = .int .u64 (U j) ∧ v = .slice (some ⟨g, 0, none⟩) (s.size + 1 + z + j) c ∧ Below w.heap.size w wr2 ∧ wr2.ownsRow w.heap.size 5 1 (.slice (some ⟨g, 0, none⟩) (s.size + 1 + z + j) c) (s.size + 1 + z + j) (rowL .u8 G (s.size + 1 + z + j))) (fun _ _ i _ => 8 - (intOf i).toNat)
      case atStart => exact ⟨0, g, c, by omega, rfl, by rw [HU0.out], rfl, hG, OWN.out⟩
      case round =>
        clear OWN hG
        obtain ⟨j, g, c, hj, rfl, rfl, rfl, hG, own⟩ := hrel
        have OWN : Hid (wr.ownsRow w.heap.size 5 1 (.slice (some ⟨g, 0, none⟩) (s.size + 1 + z + j) c) (s.size + 1 + z + j) (rowL .u8 G (s.size + 1 + z + j))) := own
        clear own
        by_cases hlt : j < 8
        · have hub := hUb.out j
          have hup : U j ≠ 0 := by
            rw [hUe.out j hlt]
            exact Int.ne_of_gt (Int.pow_pos (by decide))
          have hup0 : 0 < U j := by omega
          have hs1 : U j / 256 = U (j + 1) := hUS.out j
          obtain ⟨x, hx⟩ : ∃ x, (s.size : Int) * 8 / U j = x := ⟨_, rfl⟩
          have hx0 : 0 ≤ x := by rw [← hx]; exact Int.ediv_nonneg (by omega) (by omega)
          have hx1 : x ≤ 8000000000 := by rw [← hx]; exact Int.le_trans (Int.ediv_le_self _ (by omega)) (by omega)
          have hGn := p3.out j hlt
          rw [hx] at hGn
          obtain ⟨g3, c3, w3, hr3, own3, hG3, _, _⟩ := append_byte w (wr.alloc (.cells #[.int .u8 (x % 256)] 5)) w.heap.size (.slice (some ⟨g, 0, none⟩) (s.size + 1 + z + j) c) (s.size + 1 + z + j) G wr.heap.size 5 43 (0, 0) (OWN.out.alloc _) (by omega) (by rw [hGn]; exact objAt_alloc_at _ _ _ rfl) (Grew.alloc hG _) (Nat.le_refl _) (by have := (Grew.alloc hG (.cells #[.int .u8 (x % 256)] 5)).size; omega)
          have OWN3 : Hid (w3.ownsRow w.heap.size 5 1 (.slice (some ⟨g3, 0, none⟩) (s.size + 1 + z + j + 1) c3) (s.size + 1 + z + j + 1) (rowL .u8 G (s.size + 1 + z + j + 1))) := own3
          clear own3 hGn OWN
          go_wp2
          go_roundw
          case rel => exact ⟨j + 1, g3, c3, by omega, by go_num, by rw [hs1], rfl, hG3, OWN3.out⟩
          case measure => simp [intOf]; omega
        · obtain rfl : j = 8 := by omega
          clear hlt
          go_wp2
          go_ret
          exact ⟨g, c, rfl, hG, OWN.out⟩
end Go.Proofs.YtdihaffopfbnnaaDoor
