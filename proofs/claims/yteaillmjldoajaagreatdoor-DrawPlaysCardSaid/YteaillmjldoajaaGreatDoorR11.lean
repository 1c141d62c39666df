/- R11 -/
import Derived.Test.YteaillmjldoajaaGreatDoorNds
import Derived.Test.YteaillmjldoajaaGreatDoorFrame
namespace Go.Proofs.YteaillmjldoajaaGreatDoor
open Go.RowKit
set_option linter.unusedVariables false
set_option linter.unusedSimpArgs false
theorem addr_plain (g j : Nat) : (⟨g, j, none⟩ : Addr) = (⟨g, 0, none⟩ : Addr).add j := by unfold Addr.add; split <;> simp_all
theorem append_part {t e : TypeId} {i : TypeInfo} {z : Value} (size bytes : Nat) (ht : Tryz.prog.underlying t = some (.slice e)) (hi : Tryz.prog.info? e = some i) (hz : i.zero = some z) (hsize : i.size = size) (hby : i.bytes = bytes) (hzs : z.cells.size = size) (hsz : 0 < size) (hb8 : bytes ≤ 4096)
  (ty : TypeId) (w W : World) (base : Nat) (v : Value) (n : Nat) (xs : List Value) (ad : Addr) (m c : Nat) (news : List Value) (own : W.ownsRow base e size v n xs) (hn : n + m ≤ 1073741824) (hm : 0 < m)
  (hl : news.length = m * size) (hnews : ∀ j u, news[j]? = some u → W.cell? (ad.add j) = some u) (h1 : ∀ u ∈ news, u.oneCell' = true) (hG : Below w.heap.size w W) (hwb : w.heap.size ≤ base) (hbW : base ≤ W.heap.size) :
  ∃ g cap w', (appendNext #[t, t] ty #[v, .slice (some ad) m c]).run Tryz.prog W = .ok (.value (.slice (some ⟨g, 0, none⟩) (n + m) cap)) w' ∧ w'.ownsRow base e size (.slice (some ⟨g, 0, none⟩) (n + m) cap) (n + m) (xs ++ news) ∧
   Below w.heap.size w w' ∧ (∀ m o, m < base → objAt W m = some o → objAt w' m = some o) ∧ base ≤ g := by
 have hbn : (n + m) * bytes ≤ 140737488355328 := Nat.le_trans (Nat.mul_le_mul hn hb8) (by decide)
 obtain ⟨g, cap, w', hr, ho, hg, _, _⟩ := run_append_lies (P := Tryz.prog) W t ty base e i z size bytes ht hi hz hsize hby hzs hsz v n xs own ad m c news hl hnews h1 hm (by unfold maxLen; omega) hbn hbW W.heap.size rfl
 obtain ⟨h2, h3⟩ := own_nextS own hg hG hwb
 exact ⟨g, cap, w', by unfold appendNext; simp only [Sem.run_bind, hr, Result.andThen_ok, Sem.run_pure], ho, h2, h3, (ho.lt g rfl).1⟩
end Go.Proofs.YteaillmjldoajaaGreatDoor
namespace Go.Proofs.YteaillmjldoajaaGreatDoor
open Go.RowKit
set_option linter.unusedVariables false
set_option linter.unusedSimpArgs false
end Go.Proofs.YteaillmjldoajaaGreatDoor
namespace Go.Proofs.YteaillmjldoajaaGreatDoor
open Go.RowKit
set_option linter.unusedVariables false
set_option linter.unusedSimpArgs false
theorem cells_two (a b : Value) : (Value.agg #[a, b]).cells.size = 2 := rfl
theorem ones_two (k k' : IntKind) (a b : Int) : (#[Value.int k a, Value.int k' b] : Array Value).all (·.oneCell') = true := by simp [Value.oneCell']
end Go.Proofs.YteaillmjldoajaaGreatDoor
