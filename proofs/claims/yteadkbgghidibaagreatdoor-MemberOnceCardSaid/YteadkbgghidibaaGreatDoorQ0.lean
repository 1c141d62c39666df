/- Q0 -/
import Derived.Test.YteadkbgghidibaaGreatDoorR10
import Derived.Test.YteadkbgghidibaaGreatDoorDh
import Derived.Test.YteadkbgghidibaaGreatDoorMa
set_option maxRecDepth 100000
set_option maxHeartbeats 4000000
namespace Go.Proofs.YteadkbgghidibaaGreatDoor
namespace Mc
open Go.RowKit
set_option linter.unusedVariables false
inductive K where
 | key (i : Nat)
 | lit (x : Nat)
 | u (f : Nat) (a : K)
 | st (a b c : K)
 | pa (a x : K)
 | ma (a x : K)
 | ba (a : K)
 | sh (a b : K)
 | te
 | tc (x : Nat) (r : K)
 | tw (t : K) (r : K)
noncomputable def K.beq (a : K) : K → Bool := K.rec (motive := fun _ => K → Bool)
 (fun i b => match b with | .key j => Nat.beq i j | _ => false)
 (fun i b => match b with | .lit j => Nat.beq i j | _ => false)
 (fun f _ ih b => match b with | .u g c => (match Nat.beq f g with | true => ih c | false => false) | _ => false)
 (fun _ _ _ i1 i2 i3 b => match b with | .st x y z => (match i1 x with | true => (match i2 y with | true => i3 z | false => false) | false => false) | _ => false)
 (fun _ _ i1 i2 b => match b with | .pa x y => (match i1 x with | true => i2 y | false => false) | _ => false)
 (fun _ _ i1 i2 b => match b with | .ma x y => (match i1 x with | true => i2 y | false => false) | _ => false)
 (fun _ ih b => match b with | .ba c => ih c | _ => false)
 (fun _ _ i1 i2 b => match b with | .sh x y => (match i1 x with | true => i2 y | false => false) | _ => false)
 (fun b => match b with | .te => true | _ => false)
 (fun x _ ih b => match b with | .tc y r => (match Nat.beq x y with | true => ih r | false => false) | _ => false)
 (fun _ _ i1 i2 b => match b with | .tw x y => (match i1 x with | true => i2 y | false => false) | _ => false) a
theorem K.beq_eq (a : K) : ∀ b, K.beq a b = true → a = b := by
 induction a with
 | key i =>
  intro b h
  cases b <;> first | (have h : Nat.beq i _ = true := h; rw [Nat.eq_of_beq_eq_true h]) | (cases h; done)
 | lit i =>
  intro b h
  cases b <;> first | (have h : Nat.beq i _ = true := h; rw [Nat.eq_of_beq_eq_true h]) | (cases h; done)
 | u f a ih =>
  intro b h
  cases b <;> first | (cases h; done) | skip
  rename_i g c
  have h : (match Nat.beq f g with | true => K.beq a c | false => false) = true := h
  split at h
  ·rename_i e; rw [Nat.eq_of_beq_eq_true e, ih _ h]
  ·cases h
 | st a b c i1 i2 i3 =>
  intro d h
  cases d <;> first | (cases h; done) | skip
  rename_i x y z
  have h : (match K.beq a x with | true => (match K.beq b y with | true => K.beq c z | false => false) | false => false) = true := h
  split at h
  ·rename_i e1
   split at h
   ·rename_i e2; rw [i1 _ e1, i2 _ e2, i3 _ h]
   ·cases h
  ·cases h
 | pa a b i1 i2 =>
  intro d h
  cases d <;> first | (cases h; done) | skip
  rename_i x y
  have h : (match K.beq a x with | true => K.beq b y | false => false) = true := h
  split at h
  ·rename_i e1; rw [i1 _ e1, i2 _ h]
  ·cases h
 | ma a b i1 i2 =>
  intro d h
  cases d <;> first | (cases h; done) | skip
  rename_i x y
  have h : (match K.beq a x with | true => K.beq b y | false => false) = true := h
  split at h
  ·rename_i e1; rw [i1 _ e1, i2 _ h]
  ·cases h
 | sh a b i1 i2 =>
  intro d h
  cases d <;> first | (cases h; done) | skip
  rename_i x y
  have h : (match K.beq a x with | true => K.beq b y | false => false) = true := h
  split at h
  ·rename_i e1; rw [i1 _ e1, i2 _ h]
  ·cases h
 | tw a b i1 i2 =>
  intro d h
  cases d <;> first | (cases h; done) | skip
  rename_i x y
  have h : (match K.beq a x with | true => K.beq b y | false => false) = true := h
  split at h
  ·rename_i e1; rw [i1 _ e1, i2 _ h]
  ·cases h
 | ba a ih =>
  intro d h
  cases d <;> first | (cases h; done) | skip
  rename_i x
  have h : K.beq a x = true := h
  rw [ih _ h]
 | te =>
  intro d h
  cases d <;> first | rfl | (cases h; done)
 | tc x a ih =>
  intro d h
  cases d <;> first | (cases h; done) | skip
  rename_i y r
  have h : (match Nat.beq x y with | true => K.beq a r | false => false) = true := h
  split at h
  ·rename_i e1; rw [Nat.eq_of_beq_eq_true e1, ih _ h]
  ·cases h
noncomputable def cl (f : Nat → Int) : Nat → Int := fun j => f j % 256
theorem cl_is {f : Nat → Int} (h : Bytes 32 f) : ∀ j, j < 32 → cl f j = f j := fun j hj => by
 have := h j hj
 unfold cl
 omega
theorem cl_ints {f : Nat → Int} (h : Bytes 32 f) : ints .u8 32 (cl f) = ints .u8 32 f := ints_congr fun j hj => cl_is h j hj
noncomputable def labF (f : Nat) (z : Nat → Int) : Nat → Int := match f with
 | 0 => nodeF z
 | 1 => leafF z
 | _ => tagF z
noncomputable def kr (k : Nat → Nat) : K → (Nat → Int) × ByteArray
 | .key i => (cl fun j => ((k (i % 7) / 256 ^ j % 256 : Nat) : Int), ByteArray.empty)
 | .lit x => (cl fun j => ((x / 256 ^ j % 256 : Nat) : Int), ByteArray.empty)
 | .u f a => (cl (labF f (kr k a).1), ByteArray.empty)
 | .st a b c => (cl (stageF (kr k a).1 (kr k b).1 (kr k c).1), ByteArray.empty)
 | .pa a x => (cl (pastF (kr k a).1 (kr k x).2), ByteArray.empty)
 | .ma a x => (cl (macF (kr k a).2 (kr k x).2), ByteArray.empty)
 | .ba a => (cl (keyV (pubV (kr k a).1)), ByteArray.empty)
 | .sh a b => (cl (keyV (twoV (kr k a).1 (kr k b).1)), ByteArray.empty)
 | .te => (cl fun _ => 0, ByteArray.empty)
 | .tc x r => (cl fun _ => 0, ⟨#[UInt8.ofNat x]⟩ ++ (kr k r).2)
 | .tw t r => (cl fun _ => 0, strOf 32 (kr k t).1 ++ (kr k r).2)
noncomputable def kV (k : Nat → Nat) (t : K) : Nat → Int := (kr k t).1
noncomputable def tV (k : Nat → Nat) (t : K) : ByteArray := (kr k t).2
theorem kr_ext {k k' : Nat → Nat} (h : ∀ i, i < 7 → k' i = k i) (t : K) : kr k' t = kr k t := by
 induction t with
 | key i => simp only [kr]; rw [h (i % 7) (Nat.mod_lt _ (by decide))]
 | lit x => rfl
 | u f a ih => simp only [kr]; rw [ih]
 | st a b c i1 i2 i3 => simp only [kr]; rw [i1, i2, i3]
 | pa a x i1 i2 => simp only [kr]; rw [i1, i2]
 | ma a x i1 i2 => simp only [kr]; rw [i1, i2]
 | ba a ih => simp only [kr]; rw [ih]
 | sh a b i1 i2 => simp only [kr]; rw [i1, i2]
 | te => rfl
 | tc x r ih => simp only [kr]; rw [ih]
 | tw t r i1 i2 => simp only [kr]; rw [i1, i2]
theorem kV_ext {k k' : Nat → Nat} (h : ∀ i, i < 7 → k' i = k i) (t : K) (j : Nat) : kV k' t j = kV k t j := by
 unfold kV
 rw [kr_ext h]
theorem kr_cl (k : Nat → Nat) (t : K) : ∃ f, (kr k t).1 = cl f := by
 cases t <;> exact ⟨_, rfl⟩
theorem kV_byte (k : Nat → Nat) (t : K) (j : Nat) : 0 ≤ kV k t j ∧ kV k t j ≤ 255 := by
 obtain ⟨f, hf⟩ := kr_cl k t
 unfold kV
 rw [hf]
 unfold cl
 omega
theorem kV_bytes (k : Nat → Nat) (t : K) : Bytes 32 (kV k t) := fun j _ => kV_byte k t j
theorem labF_bytes (f : Nat) (z : Nat → Int) : Bytes 32 (labF f z) := by
 unfold labF
 split <;> exact label_bytes _ _ _
theorem kV_u (k : Nat → Nat) (f : Nat) (a : K) : ints .u8 32 (kV k (.u f a)) = ints .u8 32 (labF f (kV k a)) := cl_ints (labF_bytes _ _)
theorem kV_st (k : Nat → Nat) (a b c : K) : ints .u8 32 (kV k (.st a b c)) = ints .u8 32 (stageF (kV k a) (kV k b) (kV k c)) := cl_ints (label_bytes _ _ _)
theorem kV_pa (k : Nat → Nat) (a x : K) : ints .u8 32 (kV k (.pa a x)) = ints .u8 32 (pastF (kV k a) (tV k x)) := cl_ints (sha_bytes _)
theorem kV_ma (k : Nat → Nat) (a x : K) : ints .u8 32 (kV k (.ma a x)) = ints .u8 32 (macF (tV k a) (tV k x)) := cl_ints (mac_bytes _ _)
theorem kV_ba (k : Nat → Nat) (a : K) : ints .u8 32 (kV k (.ba a)) = ints .u8 32 (keyV (pubV (kV k a))) := cl_ints (keyV_bytes _)
theorem kV_sh (k : Nat → Nat) (a b : K) : ints .u8 32 (kV k (.sh a b)) = ints .u8 32 (keyV (twoV (kV k a) (kV k b))) := cl_ints (keyV_bytes _)
theorem kV_lit (k : Nat → Nat) (x j : Nat) (_ : j < 32) : kV k (.lit x) j = ((x / 256 ^ j % 256 : Nat) : Int) := by
 simp only [kV, kr, cl]
 omega
theorem kV_key (k : Nat → Nat) (i j : Nat) : kV k (.key i) j = ((k (i % 7) / 256 ^ j % 256 : Nat) : Int) := by
 simp only [kV, kr, cl]
 omega
theorem tV_te (k : Nat → Nat) : tV k .te = ByteArray.empty := rfl
theorem tV_tc (k : Nat → Nat) (x : Nat) (r : K) : tV k (.tc x r) = ⟨#[UInt8.ofNat x]⟩ ++ tV k r := rfl
theorem tV_tw (k : Nat → Nat) (t r : K) : tV k (.tw t r) = strOf 32 (kV k t) ++ tV k r := rfl
noncomputable def K.same (a : K) : K → Bool := K.rec (motive := fun _ => K → Bool)
 (fun i b => match b with | .key j => Nat.beq i j | _ => false)
 (fun i b => match b with | .lit j => Nat.beq i j | _ => false)
 (fun f _ ih b => match b with | .u g c => (match Nat.beq f g with | true => ih c | false => false) | _ => false)
 (fun _ _ _ i1 i2 i3 b => match b with | .st x y z => (match i1 x with | true => (match i2 y with | true => i3 z | false => false) | false => false) | _ => false)
 (fun _ _ i1 i2 b => match b with | .pa x y => (match i1 x with | true => i2 y | false => false) | _ => false)
 (fun _ _ i1 i2 b => match b with | .ma x y => (match i1 x with | true => i2 y | false => false) | _ => false)
 (fun _ ih b => match b with | .ba c => ih c | _ => false)
 (fun _ _ i1 i2 b => match b with | .sh x y => (match (match i1 x with | true => i2 y | false => false) with | true => true | false => (match i1 y with | true => i2 x | false => false)) | _ => false)
 (fun b => match b with | .te => true | _ => false)
 (fun x _ ih b => match b with | .tc y r => (match Nat.beq x y with | true => ih r | false => false) | _ => false)
 (fun _ _ i1 i2 b => match b with | .tw x y => (match i1 x with | true => i2 y | false => false) | _ => false) a
theorem K.same_ok (k : Nat → Nat) (a : K) : ∀ b, K.same a b = true → kr k a = kr k b := by
 induction a with
 | key i =>
  intro b h
  cases b <;> first | (have h : Nat.beq i _ = true := h; rw [Nat.eq_of_beq_eq_true h]) | (cases h; done)
 | lit i =>
  intro b h
  cases b <;> first | (have h : Nat.beq i _ = true := h; rw [Nat.eq_of_beq_eq_true h]) | (cases h; done)
 | u f a ih =>
  intro b h
  cases b <;> first | (cases h; done) | skip
  rename_i g c
  have h : (match Nat.beq f g with | true => K.same a c | false => false) = true := h
  split at h
  ·rename_i e; simp only [kr]; rw [Nat.eq_of_beq_eq_true e, ih _ h]
  ·cases h
 | st a b c i1 i2 i3 =>
  intro d h
  cases d <;> first | (cases h; done) | skip
  rename_i x y z
  have h : (match K.same a x with | true => (match K.same b y with | true => K.same c z | false => false) | false => false) = true := h
  split at h
  ·rename_i e1
   split at h
   ·rename_i e2; simp only [kr]; rw [i1 _ e1, i2 _ e2, i3 _ h]
   ·cases h
  ·cases h
 | sh a b i1 i2 =>
  intro d h
  cases d <;> first | (cases h; done) | skip
  rename_i x y
  have h : (match (match K.same a x with | true => K.same b y | false => false) with | true => true | false => (match K.same a y with | true => K.same b x | false => false)) = true := h
  split at h
  ·rename_i e
   split at e
   ·rename_i e1; simp only [kr]; rw [i1 _ e1, i2 _ e]
   ·cases e
  ·split at h
   ·rename_i e1
    simp only [kr]
    have e := two_swap (kV k y) (kV k x) (kV_bytes k y) (kV_bytes k x)
    unfold kV at e
    rw [i1 _ e1, i2 _ h, e]
   ·cases h
 | pa a b i1 i2 =>
  intro d h
  cases d <;> first | (cases h; done) | skip
  rename_i x y
  have h : (match K.same a x with | true => K.same b y | false => false) = true := h
  split at h
  ·rename_i e1; simp only [kr]; rw [i1 _ e1, i2 _ h]
  ·cases h
 | ma a b i1 i2 =>
  intro d h
  cases d <;> first | (cases h; done) | skip
  rename_i x y
  have h : (match K.same a x with | true => K.same b y | false => false) = true := h
  split at h
  ·rename_i e1; simp only [kr]; rw [i1 _ e1, i2 _ h]
  ·cases h
 | tw a b i1 i2 =>
  intro d h
  cases d <;> first | (cases h; done) | skip
  rename_i x y
  have h : (match K.same a x with | true => K.same b y | false => false) = true := h
  split at h
  ·rename_i e1; simp only [kr]; rw [i1 _ e1, i2 _ h]
  ·cases h
 | ba a ih =>
  intro d h
  cases d <;> first | (cases h; done) | skip
  rename_i x
  have h : K.same a x = true := h
  simp only [kr]
  rw [ih _ h]
 | te =>
  intro d h
  cases d <;> first | (cases h; done) | rfl
 | tc x a ih =>
  intro d h
  cases d <;> first | (cases h; done) | skip
  rename_i y r
  have h : (match Nat.beq x y with | true => K.same a r | false => false) = true := h
  split at h
  ·rename_i e1; simp only [kr]; rw [Nat.eq_of_beq_eq_true e1, ih _ h]
  ·cases h
theorem kV_same (k : Nat → Nat) {a b : K} (h : K.same a b = true) : kV k a = kV k b := by
 unfold kV
 rw [K.same_ok k a b h]
attribute [irreducible] kV tV
end Mc
end Go.Proofs.YteadkbgghidibaaGreatDoor
