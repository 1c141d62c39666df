/- C16 -/
import Derived.Test.YtfglcifnjaknnaaGreatDoorE15
import Derived.Test.YtfglcifnjaknnaaGreatDoorBu
import Derived.Test.YtfglcifnjaknnaaGreatDoorSi
import Derived.Test.YtfglcifnjaknnaaGreatDoorL13
import Derived.Test.YtfglcifnjaknnaaGreatDoorR11
import Derived.Test.YtfglcifnjaknnaaGreatDoorOw
import Derived.Test.YtfglcifnjaknnaaGreatDoorQ11
import Derived.Test.YtfglcifnjaknnaaGreatDoorMa
import Derived.Shelf.Slices.ReverseS
import Derived.Lib.OwnBridge
import Derived.Test.YtfglcifnjaknnaaGreatDoorSm
import Derived.Test.YtfglcifnjaknnaaGreatDoorR12
import Derived.Test.YtfglcifnjaknnaaGreatDoorQ12
import Derived.Test.YtfglcifnjaknnaaGreatDoorR9
import Derived.Test.YtfglcifnjaknnaaGreatDoorQ14
import Derived.Test.YtfglcifnjaknnaaGreatDoorFrame
import Derived.ChangeSame
import Derived.Test.YtfglcifnjaknnaaGreatDoorDh
set_option linter.unusedVariables false
set_option linter.unusedSimpArgs false
set_option maxRecDepth 100000
set_option maxHeartbeats 4000000
namespace Go.Proofs.YtfglcifnjaknnaaGreatDoor
open Go.RowKit Go.Extern
def zq7k : Array Value := #[.string ⟨#[]⟩, .string ⟨#[116, 114, 117, 110, 99, 97, 116, 101, 100]⟩, .string ⟨#[116, 114, 97, 105, 108, 105, 110, 103]⟩, .string ⟨#[118, 101, 114, 115, 105, 111, 110]⟩, .string ⟨#[115, 105, 122, 101]⟩, .string ⟨#[108, 101, 97, 102]⟩, .string ⟨#[112, 97, 116, 104]⟩, .string ⟨#[115, 116, 97, 103, 101]⟩, .string ⟨#[109, 97, 99]⟩, .string ⟨#[122, 101, 114, 111]⟩, .string ⟨#[117, 110, 107, 110, 111, 119, 110]⟩, .string ⟨#[117, 115, 101, 100]⟩, .string ⟨#[101, 99, 104, 111]⟩, .string ⟨#[115, 116, 97, 116, 101]⟩, .string ⟨#[107, 105, 110, 100]⟩, .string ⟨#[110, 97, 109, 101]⟩, .string ⟨#[114, 97, 110, 103, 101]⟩, .string ⟨#[102, 111, 114, 109]⟩, .string ⟨#[109, 97, 110, 121]⟩, .string ⟨#[110, 111, 110, 101]⟩, .string ⟨#[110, 105, 108]⟩, .string ⟨#[100, 114, 97, 119]⟩, .string ⟨#[108, 111, 110, 103]⟩]
def nameB (k : Nat) : ByteArray := match zq7k[k]? with | some (.string s) => s | _ => ⟨#[]⟩
def zq7x : ByteArray := ⟨#[111, 116, 104, 101, 114]⟩
def zqko (e : Int) : ByteArray := if 1 <= e /\ e < 23 then nameB e.toNat else zq7x
theorem zq5g (k : Nat) (h1 : 1 <= k) (h : k < 23) : zqko (k : Int) = nameB k := by unfold zqko; rw [if_pos ⟨by omega, by omega⟩]; rfl
theorem zqqq (e : Int) (h : e < 1 \/ 23 <= e) : zqko e = zq7x := if_neg (by omega)
theorem zqxm (e : Int) : (zqko e).size <= 9 := by
 by_cases h : 1 <= e /\ e < 23
 ·obtain ⟨k, rfl⟩ := Int.eq_ofNat_of_zero_le (show 0 <= e by omega)
  rw [zq5g k (by omega) (by omega)];have hk : k < 23 := by omega
  obtain rfl | rfl | rfl | rfl | rfl | rfl | rfl | rfl | rfl | rfl | rfl | rfl | rfl | rfl | rfl | rfl | rfl | rfl | rfl | rfl | rfl | rfl | rfl := (by omega : k = 0 \/ k = 1 \/ k = 2 \/ k = 3 \/ k = 4 \/ k = 5 \/ k = 6 \/ k = 7 \/ k = 8 \/ k = 9 \/ k = 10 \/ k = 11 \/ k = 12 \/ k = 13 \/ k = 14 \/ k = 15 \/ k = 16 \/ k = 17 \/ k = 18 \/ k = 19 \/ k = 20 \/ k = 21 \/ k = 22) <;> decide
 ·rw [zqqq e (by omega)]; decide
def sepB : ByteArray := ⟨#[58, 32]⟩
def catN (acc : ByteArray) : List ByteArray -> ByteArray
 | [] => acc
 | s :: l => catN (acc ++ s ++ sepB) l
theorem zqwg (e : Int) (w : World) : Calls Tryz.prog 284 #[.int .i64 e] w fun e' w' => e' = .returned (.string (zqko e)) /\ Below w.heap.size w w' := by
 have hb : Below w.heap.size w (w.alloc (.cells zq7k 9)) := Grew.alloc (Grew.refl w) _
 by_cases h : 1 <= e /\ e < 23
 ·obtain rfl | rfl | rfl | rfl | rfl | rfl | rfl | rfl | rfl | rfl | rfl | rfl | rfl | rfl | rfl | rfl | rfl | rfl | rfl | rfl | rfl | rfl := (by omega : e = 1 \/ e = 2 \/ e = 3 \/ e = 4 \/ e = 5 \/ e = 6 \/ e = 7 \/ e = 8 \/ e = 9 \/ e = 10 \/ e = 11 \/ e = 12 \/ e = 13 \/ e = 14 \/ e = 15 \/ e = 16 \/ e = 17 \/ e = 18 \/ e = 19 \/ e = 20 \/ e = 21 \/ e = 22)
  all_goals
   go_enter Tryz.func284, Tryz.ntmps284
   go_wp2;go_ret;exact ⟨rfl, hb⟩
 ·rw [zqqq e (by omega)]
  rcases (by omega : e < 1 \/ (¬ (e < 1) /\ 23 <= e)) with h1 | ⟨h1, h2⟩
  all_goals
   go_enter Tryz.func284, Tryz.ntmps284
   go_wp2;go_ret;exact ⟨rfl, hb⟩
def strL (F : Nat -> ByteArray) (n : Nat) : List Value := (List.range n).map fun i => .string (F i)
theorem zq06 (F : Nat -> ByteArray) (n : Nat) : strL F (n + 1) = strL F n ++ [.string (F n)] := by
 unfold strL;rw [List.range_succ, List.map_append]
 rfl
theorem zq4h (F : Nat -> ByteArray) {i n : Nat} (h : i < n) : (strL F n)[i]? = some (.string (F i)) := by
 unfold strL;rw [List.getElem?_map, List.getElem?_range h]
 rfl
@[go_sem ↓ high] theorem zq3j (ty : TypeId) (cs : Array Bool) (args : Array Value) : builtin .append #[195, 195] ty cs args = zqr #[195, 195] ty args := by unfold zqr; rfl
theorem zqxn (w W : World) (base : Nat) (v : Value) (n : Nat) (F : Nat -> ByteArray) (g2 : Nat) (t2 : TypeId) (fr : Nat × Nat) (own : W.ownsRow base 9 1 v n (strL F n)) (hn : n <= 1048576)
  (hg2 : zqe W g2 = some (.cells #[.string (F n)] t2 fr)) (hG : Below w.heap.size w W) (hwb : w.heap.size <= base) (hbW : base <= W.heap.size) :
  ∃ g cap w', (zqr #[195, 195] 195 #[v, .slice (some ⟨g2, 0, none⟩) 1 1]).run Tryz.prog W = .ok (.value (.slice (some ⟨g, 0, none⟩) (n + 1) cap)) w' /\ w'.ownsRow base 9 1 (.slice (some ⟨g, 0, none⟩) (n + 1) cap) (n + 1) (strL F (n + 1)) /\
   Below w.heap.size w w' /\ (∀ m o, m < base -> zqe W m = some o -> zqe w' m = some o) := by
 obtain ⟨g, cap, w', hr, ho, hb, hk, _⟩ := zqf8 (i := (Tryz.prog.info? 9).get zqb) (z := ((Tryz.prog.info? 9).get zqb).zero.get zqb) 1 16 Tryz.underlying195 zqb zqb zqb zqb zqb (by decide) (by decide) 195 w W base v n (strL F n) ⟨g2, 0, none⟩ 1 1 [.string (F n)] own (by omega) (by decide) rfl
  (fun j x hx => by
   unfold zqe at hg2;rw [zqix, Nat.zero_add, cell_of_row W g2 j _ _ _ hg2]
   simpa using hx) (fun x hx => by obtain rfl : x = _ := by simpa using hx
                                   rfl) hG hwb hbW
 exact ⟨g, cap, w', hr, by rw [zq06]; exact ho, hb, hk⟩
def lenV : Value -> Nat
 | .slice _ n _ => n
 | _ => 0
def segN (F : Nat -> ByteArray) (i : Nat) : Nat -> List ByteArray
 | 0 => []
 | k + 1 => F i :: segN F (i + 1) k
theorem zqyw (F : Nat -> ByteArray) {j n : Nat} (h : j < n) : segN F j (n - j) = F j :: segN F (j + 1) (n - (j + 1)) := by
 rw [show n - j = (n - (j + 1)) + 1 by omega]
 rfl
theorem zqy0 (acc s : ByteArray) (l : List ByteArray) : catN acc (s :: l) = catN (acc ++ s ++ ⟨#[58, 32]⟩) l := rfl
theorem zq6n (acc : ByteArray) : catN acc [] = acc := rfl
theorem zqo9 : ∀ (l : List ByteArray) (acc : ByteArray), (∀ s ∈ l, s.size <= 300) -> (catN acc l).size <= acc.size + 302 * l.length
 | [], acc, _ => Nat.le_refl _
 | s :: l, acc, h => by
  have h1 := zqo9 l (acc ++ s ++ sepB) fun s hs => h s (List.mem_cons_of_mem _ hs);have h2 := h s (List.mem_cons_self ..);rw [ByteArray.size_append, ByteArray.size_append] at h1;have h3 : sepB.size = 2 := rfl
  show (catN (acc ++ s ++ sepB) l).size <= _
  rw [List.length_cons]
  omega
attribute [local irreducible] catN zqko segN
noncomputable def zq2x (w : World) : Value -> Nat
 | .pointer none => 0
 | f => deep w (.iface 92 f)
theorem zqvr (x : Int) (l : List ByteArray) (g : Nat) (w : World) (hc0 : Chn w l (.iface 38 (.int .i64 x)) (.iface 92 (.pointer (some ⟨g, 0, none⟩)))) (hl : l.length <= 60) (hs0 : ∀ s ∈ l, s.size <= 300) :
  Calls Tryz.prog 285 #[.pointer (some ⟨g, 0, none⟩)] w (Rt w (.string (catN ⟨#[]⟩ l ++ zqko x))) := by
 have hbr : Bare (.iface 38 (.int .i64 x)) := zqjz _;have hts := zqo9 l ⟨#[]⟩ hs0;obtain ⟨TX, hTX⟩ : ∃ TX, TX = catN ⟨#[]⟩ l ++ zqko x := ⟨_, rfl⟩
 have hns := zqxm x;rw [<- hTX];have cn := fun W : World => zqwg x W;have hB0 : Hid (BldAt (w.alloc (.cells #[.pointer none, .slice none 0 0] 245)) w.heap.size ⟨#[]⟩) := zqy2 (zqg _ _ _ rfl);have hG0 : Below w.heap.size w (w.alloc (.cells #[.pointer none, .slice none 0 0] 245)) := Grew.alloc (Grew.refl _) _;have HC0 : Hid (catN ⟨#[]⟩ l ++ zqko x = TX) := hTX.symm;have HS0 : Hid (∀ s ∈ l, s.size <= 300) := hs0;generalize zqko x = NX at *;clear hTX hs0 hts
 go_enter Tryz.func285, Tryz.ntmps285
 go_wp2_with fail
 go_loopw [0, 4, 5] (fun f _ _ wr => ∃ acc, Below w.heap.size w wr /\ Hid (BldAt wr w.heap.size acc) /\ ((∃ (g : Nat) (l : List ByteArray), f = .pointer (some ⟨g, 0, none⟩) /\ Chn w l (.iface 38 (.int .i64 x)) (.iface 92 f) /\ Hid (catN acc l ++ NX = TX) /\ acc.size + 302 * l.length <= 18120 /\ Hid (∀ s ∈ l, s.size <= 300)) \/ (f = .pointer none /\ acc = TX))) (fun f _ _ _ => zq2x w f)
 case atStart => exact ⟨_, hG0, hB0, .inl ⟨g, l, rfl, hc0, HC0, by show 0 + _ <= _; omega, HS0⟩⟩
 case round =>
  clear hG0 hB0 hc0 HC0 HS0 hl;obtain ⟨acc, hG, hB, ⟨g, l, rfl, hc, HC, hsz, HS⟩ | ⟨rfl, rfl⟩⟩ := hrel
  ·cases l with
   | nil => exact absurd hc.symm (hbr _)
   | cons s l =>
    obtain ⟨g', u, e, hg, hcu⟩ := hc
    cases e
    have hd : deep w u < deep w (.iface 92 (.pointer (some ⟨g, 0, none⟩))) := by
     rw [zqj2 hbr hcu, zqj2 hbr (show Chn w (s :: l) _ _ from ⟨g, u, rfl, hg, hcu⟩), List.length_cons]
     omega
    have hs1 := HS.out s (List.mem_cons_self ..);have HS1 : Hid (∀ s ∈ l, s.size <= 300) := fun s hs => HS.out s (List.mem_cons_of_mem _ hs);rw [List.length_cons] at hsz;have HC1 : Hid (catN (acc ++ s ++ ⟨#[58, 32]⟩) l ++ NX = TX) := (congrArg (· ++ NX) (zqy0 acc s l)).symm.trans HC.out;have lg := zqa hg;have fg := zqc hG hg;have hb0 := hB.out.lt;clear HC HS;obtain ⟨tu, y, hu⟩ : ∃ tu y, u = .iface tu y := by
     cases l with
     | nil => exact ⟨_, _, hcu⟩
     | cons s' l => obtain ⟨g', u', e, _⟩ := hcu; exact ⟨_, _, e⟩
    have write : ∀ (W : World) (a t : ByteArray), Below w.heap.size w W -> BldAt W w.heap.size a -> a.size + t.size <= 100000 -> Calls Tryz.prog 161 #[.pointer (some ⟨w.heap.size, 0, none⟩), .string t] W fun e w' => e = .returned (.tuple #[.int .i64 t.size, .nilIface]) /\ Hid (BldAt w' w.heap.size (a ++ t)) /\ Below w.heap.size w w' := fun W a t hG hB hl =>
     (zqqt t hB (by omega)).mono fun e w' ⟨e1, h1, h2⟩ => ⟨e1, h1, hG.trans h2⟩
    have hw1 := write wr acc s hG hB.out (by omega);have write2 : Hid (∀ (W : World) (a t : ByteArray), Below w.heap.size w W -> BldAt W w.heap.size a -> a.size + t.size <= 100000 -> Calls Tryz.prog 161 #[.pointer (some ⟨w.heap.size, 0, none⟩), .string t] W fun e w' => e = .returned (.tuple #[.int .i64 t.size, .nilIface]) /\ Hid (BldAt w' w.heap.size (a ++ t)) /\ Below w.heap.size w w') := write;clear write;have lfg := zqa fg;subst hu;go_wp2_with fail;refine hw1.mono ?_
    rintro e W2 ⟨rfl, hB2, hG2⟩;replace fg := zqc hG2 hg;clear hG hB lfg hw1;have lfg := zqa fg;have hz2 : (acc ++ s).size <= 18120 := by rw [ByteArray.size_append]; omega
    have hw2 := write2.out W2 (acc ++ s) ⟨#[58, 32]⟩ hG2 hB2.out (by show _ + 2 <= _; omega);go_wp2_with fail;refine hw2.mono ?_
    rintro e W3 ⟨rfl, hB3, hG3⟩;replace fg := zqc hG3 hg;clear hG2 hB2 lfg hw2;have lfg := zqa fg;have hz3 : (acc ++ s ++ ⟨#[58, 32]⟩).size <= 18130 := by rw [ByteArray.size_append]; show _ + 2 <= _; omega
    have hz4 : (acc ++ s ++ ⟨#[58, 32]⟩).size + 302 * l.length <= 18120 := by rw [ByteArray.size_append, ByteArray.size_append]; show _ + 2 + _ <= _; omega
    generalize acc ++ s ++ ⟨#[58, 32]⟩ = acc3 at *
    cases l with
    | nil =>
     have hu : Value.iface tu y = .iface 38 (.int .i64 x) := hcu
     cases hu
     have cn3 := cn W3;clear hcu;go_wp2_with fail;refine cn3.mono ?_
     rintro e W4 ⟨rfl, hb4⟩;have hB4 : Hid (BldAt W4 w.heap.size acc3) := hB3.out.later hb4;have hG4 := Grew.trans hG3 hb4;have hw4 := write2.out W4 acc3 NX hG4 hB4.out (by omega);have HC2 : Hid (acc3 ++ NX = TX) := (congrArg (· ++ NX) (zq6n acc3)).symm.trans HC1.out;clear hB3 hG3 hb4 fg lfg cn3;go_wp2_with fail;refine hw4.mono ?_
     rintro e W5 ⟨rfl, hB5, hG5⟩;have hB6 : Hid (BldAt W5 w.heap.size TX) := by rw [<- HC2.out]; exact hB5.out
     clear hB4 hG4 hw4 hB5;have hdd : zq2x w (.pointer none) < zq2x w (.pointer (some ⟨g, 0, none⟩)) := Nat.lt_of_le_of_lt (Nat.zero_le _) hd;go_wp2
     go_roundw
     case rel => first | exact ⟨_, hG5, hB6, .inr ⟨rfl, rfl⟩⟩ | ((repeat' apply Exists.intro) <;> first | exact ⟨⟨_, hG5, hB6, .inr ⟨rfl, rfl⟩⟩, rfl⟩ | exact undef)
     case measure => exact hdd
    | cons s2 l2 =>
     obtain ⟨g2, u2, e2, hg2, hcu2⟩ := hcu
     cases e2
     have hdd : zq2x w (.pointer (some ⟨g2, 0, none⟩)) < zq2x w (.pointer (some ⟨g, 0, none⟩)) := hd;have hch : Chn w (s2 :: l2) (.iface 38 (.int .i64 x)) (.iface 92 (.pointer (some ⟨g2, 0, none⟩))) := ⟨g2, u2, rfl, hg2, hcu2⟩
     clear hcu2 hg2 cn;go_wp2
     go_roundw
     case rel => first | exact ⟨_, hG3, hB3, .inl ⟨g2, _, rfl, hch, HC1, hz4, HS1⟩⟩ | ((repeat' apply Exists.intro) <;> first | exact ⟨⟨_, hG3, hB3, .inl ⟨g2, _, rfl, hch, HC1, hz4, HS1⟩⟩, rfl⟩ | exact undef)
     case measure => exact hdd
  ·have hst := zqhd hB.out
   go_wp2_with fail;refine hst.mono ?_
   rintro e W2 ⟨rfl, hb2⟩;go_wp2;go_ret;exact ⟨rfl, hG.trans hb2⟩
end Go.Proofs.YtfglcifnjaknnaaGreatDoor
namespace Go.Proofs.YtfglcifnjaknnaaGreatDoor
open Go.RowKit Go.Extern
theorem zqwo : catN ⟨#[]⟩ [⟨#[115, 101, 116, 117, 112]⟩] ++ zqko 8 = ⟨#[115, 101, 116, 117, 112, 58, 32, 109, 97, 99]⟩ := by decide +kernel
theorem zqmt : (⟨#[115, 101, 116, 117, 112]⟩ : ByteArray).size <= 300 := by decide
attribute [local irreducible] catN zqko segN
theorem zqtx (aw : ∀ W : World, Tabs W -> Calls Tryz.prog 200 #[] W (Rt W (.bool true))) (w : World) (hT : Tabs w) (hE : EtAt w) :
  Calls Tryz.prog 198 #[] w (Rt w (.bool true)) := by
 have hc : Chn (w.alloc (.cells #[.string ⟨#[115, 101, 116, 117, 112]⟩, .iface 38 (.int .i64 8)] 94)) [⟨#[115, 101, 116, 117, 112]⟩] (.iface 38 (.int .i64 8)) (.iface 92 (.pointer (some ⟨w.heap.size, 0, none⟩))) := ⟨_, _, rfl, zqg _ _ _ rfl, rfl⟩
 have hG : Below w.heap.size w (w.alloc (.cells #[.string ⟨#[115, 101, 116, 117, 112]⟩, .iface 38 (.int .i64 8)] 94)) := Grew.alloc (Grew.refl _) _;have HT : Hid (Tabs w) := hT;have HE : Hid (EtAt w) := hE;have cE : Hid (∀ W, Chn W [⟨#[115, 101, 116, 117, 112]⟩] (.iface 38 (.int .i64 8)) (.iface 92 (.pointer (some ⟨w.heap.size, 0, none⟩))) -> Calls Tryz.prog 285 #[.pointer (some ⟨w.heap.size, 0, none⟩)] W (Rt W (.string ⟨#[115, 101, 116, 117, 112, 58, 32, 109, 97, 99]⟩))) := fun W h => by
  have := zqvr 8 _ _ W h (by decide) (fun s hs => List.mem_singleton.1 hs ▸ zqmt);rw [zqwo] at this;exact this
 clear hT hE
 go_enter Tryz.func198, Tryz.ntmps198
 go_wp2_with fail;refine (wrap_any _ _ _ _).mono ?_
 rintro e w1 ⟨rfl, rfl⟩;generalize w.alloc (.cells #[.string ⟨#[115, 101, 116, 117, 112]⟩, .iface 38 (.int .i64 8)] 94) = w1 at *;go_wp2_with fail;refine (aw _ (HT.out.later hG)).mono ?_
 rintro e w2 ⟨rfl, hb⟩;replace hc := hc.later hb;replace hG := Grew.trans hG hb;clear hb aw;go_wp2_with fail;refine (cE.out _ hc).mono ?_
 rintro e w3 ⟨rfl, hb⟩;replace hc := hc.later hb;replace hG := Grew.trans hG hb;clear hb cE;go_wp2_with fail;refine (zre6 8 _ _ _ (HE.out.later hG) hc).mono ?_
 rintro e w4 ⟨rfl, hb⟩;replace hG := Grew.trans hG hb;clear hb hc;go_wp2;go_ret;exact ⟨rfl, hG⟩
theorem zqr8 (aw : ∀ W : World, Tabs W -> Calls Tryz.prog 201 #[] W (Rt W (.bool true))) (w : World) (hT : Tabs w) :
  Calls Tryz.prog 200 #[] w (Rt w (.bool true)) := by
 go_enter Tryz.func200, Tryz.ntmps200
 go_wp2_with fail;refine (aw _ hT).mono ?_
 rintro e w2 ⟨rfl, hb⟩;go_wp2;go_ret;exact ⟨rfl, hb⟩
end Go.Proofs.YtfglcifnjaknnaaGreatDoor
namespace Go.Proofs.YtfglcifnjaknnaaGreatDoor
open Go.RowKit Go.Extern
def lowF (n : Int) (k : Nat) : Nat -> Int := fun j => if 8 - k <= j then n / 2 ^ (8 * (7 - j)) % 256 else 0
theorem zqzv (n : Int) : ints .u8 8 (lowF n 0) = ints .u8 8 zqd := zqba fun i hi => by
 unfold lowF zqd;rw [if_neg (by omega)]
theorem zq1s (n : Int) (k : Nat) (hk : k < 8) : ints .u8 8 (upd (lowF n k) (7 - k) (n / 2 ^ (8 * k) % 256)) = ints .u8 8 (lowF n (k + 1)) := zqba fun i hi => by
 unfold upd lowF
 by_cases e : i = 7 - k
 ·subst e
  rw [if_pos rfl, if_pos (by omega), show 7 - (7 - k) = k by omega]
 ·rw [if_neg e]
  by_cases h : 8 - k <= i
  ·rw [if_pos h, if_pos (by omega)]
  ·rw [if_neg h, if_neg (by omega)]
theorem zqzi (size : Int) (w : World) :
  Calls Tryz.prog 169 #[.int .i64 size] w fun e w' => e = .returned (.int .i64 (min (max size 0) 8)) /\ w' = w := by
 go_enter Tryz.func169, Tryz.ntmps169
 go_wp2;go_ret;exact ⟨rfl, rfl⟩
theorem zqd2 (p : Option Addr) (s : ByteArray) (w : World) :
  Calls Tryz.prog 136 #[.agg #[.pointer p], .string s] w fun e w' => ∃ g, e = .returned (.agg #[.pointer (some ⟨g, 0, none⟩)]) /\ zqe w' g = some (.cells #[.pointer p, .string (s)] 242) /\ Below w.heap.size w w' := by
 go_enter Tryz.func136, Tryz.ntmps136
 go_wp2;have f1 : zqe (((w.alloc (.cells #[.pointer p] 224)).alloc (.cells #[.pointer (some ⟨w.heap.size + 1 + 1, 0, none⟩)] 224)).alloc (.cells #[.pointer p, .string s] 242)) (w.heap.size + 1) = some (.cells #[.pointer (some ⟨w.heap.size + 1 + 1, 0, none⟩)] 224) := zqj _ (zqg _ _ _ (by simp));refine zqag rfl _ 224 _ (0, 0) _ rfl f1 Tryz.underlying224 rfl zqb rfl ⟨_, rfl, zqg _ _ _ (by simp), Grew.alloc (Grew.alloc (Grew.alloc (Grew.refl w) _) _) _⟩
theorem wrap_small {q : Int} (h0 : 0 <= q) (h1 : q <= 9223372036854775807) : IntKind.i64.wrap q = q := by
 simp only [IntKind.wrap, IntKind.signed, IntKind.bits]
 simp
 omega
theorem zqg8 {q : Nat} {f : Nat -> Int} {W : World} {g : Nat} {t : TypeId} {fr : Nat × Nat} (h : zqe W g = some (.cells (ints .u8 8 f) t fr)) (hq : q <= 8) (m : More) : (convert 157 9 (.slice (some (if 8 = q then ⟨g, 0, none⟩ else ⟨g, q, none⟩)) (8 - q) (8 - q))).run Tryz.prog (more W m) = .ok (.string (strOf (8 - q) (fun j => f (q + j)))) (more W m) := by
 have hg := zqp m h;unfold zqe at hg;rw [run_convert_bytes_string _ _ _ _ _ _ _ Tryz.underlying157 Tryz.underlying5 Tryz.underlying9];unfold strOf;refine run_bytesToString _ _ _ _ ((List.range (8 - q)).map (fun j => f (q + j))) ?_
 have h2 := run_loadCells_list (P := Tryz.prog) (more W m) (if 8 = q then ⟨g, 0, none⟩ else ⟨g, q, none⟩) (((List.range (8 - q)).map (fun j => f (q + j))).map (Value.int .u8)) (fun j u hu => by
  have hj : j < 8 - q := by
   rcases Nat.lt_or_ge j (8 - q) with h | h
   ·exact h
   ·rw [List.getElem?_eq_none (by simpa using h)] at hu; cases hu
  rw [if_neg (by omega)];have hadd : (⟨g, q, none⟩ : Addr).add j = ⟨g, q + j, none⟩ := by unfold Addr.add; split <;> simp_all
  rw [hadd, cell_of_row (more W m) g (q + j) _ _ _ hg];rw [List.map_map, List.getElem?_map, List.getElem?_range hj] at hu;rw [<- hu];rw [zqal _ _ _ _ (by omega)]
  rfl)
 simpa using h2
def numB (d : Nat) (n : Int) : ByteArray := strOf d (fun j => n / 2 ^ (8 * (d - 1 - j)) % 256)
theorem zqgw {q : Nat} (hq : q <= 8) (n : Int) : strOf (8 - q) (fun j => lowF n 8 (q + j)) = numB (8 - q) n := zqhn fun j hj => by
 unfold lowF;rw [if_pos (by omega), show 7 - (q + j) = 8 - q - 1 - j by omega]
theorem zqcp (size n : Int) (p : Option Addr) (w : World) (hn0 : 0 <= n) (hn1 : n <= 18446744073709551615) :
  Calls Tryz.prog 149 #[.agg #[.pointer p], .int .i64 size, .int .u64 n] w fun e w' => ∃ g, e = .returned (.agg #[.pointer (some ⟨g, 0, none⟩)]) /\ zqe w' g = some (.cells #[.pointer p, .string (numB (min (max size 0) 8).toNat n)] 242) /\ Below w.heap.size w w' := by
 go_enter Tryz.func149, Tryz.ntmps149
 go_wp2
 go_loopw [8, 9] (fun _ i wr => ∃ k : Nat, k <= 8 /\ i = .int .i64 k /\ wr = (((w.alloc (.cells #[.pointer p] 224)).alloc (.cells #[.pointer none] 224)).alloc (.cells (ints .u8 8 (lowF n k)) 263))) (fun _ i _ => 8 - (intOf i).toNat)
 case atStart => exact ⟨0, by omega, rfl, by rw [zqzv]⟩
 case round =>
  obtain ⟨k, hk, rfl, rfl⟩ := hrel
  by_cases hlt : k < 8
  ·have hlt' : (k : Int) < 8 := by omega
   have h80 : ¬ (8 * (k : Int) < 0) := by omega
   have h71 : (7 : Int) - (k : Int) < 8 := by omega
   have h70 : (0 : Int) <= (7 : Int) - (k : Int) := by omega
   have h72 : 7 - k < 8 := by omega
   have h73 : ((7 : Int) - (k : Int)).toNat = 7 - k := by omega
   go_wp2
   go_roundw
   case rel => exact ⟨k + 1, by omega, by go_num, by rw [zq1s n k hlt]⟩
   case measure => simp [intOf]; omega
  ·go_wp2
   obtain rfl : k = 8 := by omega
   have f0 : zqe (((w.alloc (.cells #[.pointer p] 224)).alloc (.cells #[.pointer none] 224)).alloc (.cells (ints .u8 8 (lowF n 8)) 263)) w.heap.size = some (.cells #[.pointer p] 224) := zqj _ (zqj _ (zqg _ _ _ rfl));have f1 : zqe (((w.alloc (.cells #[.pointer p] 224)).alloc (.cells #[.pointer none] 224)).alloc (.cells (ints .u8 8 (lowF n 8)) 263)) (w.heap.size + 1) = some (.cells #[.pointer none] 224) := zqj _ (zqg _ _ _ (by simp));have f2 : zqe (((w.alloc (.cells #[.pointer p] 224)).alloc (.cells #[.pointer none] 224)).alloc (.cells (ints .u8 8 (lowF n 8)) 263)) (w.heap.size + 1 + 1) = some (.cells (ints .u8 8 (lowF n 8)) 263) := zqg _ _ _ (by simp)
   have hG : Below w.heap.size w (((w.alloc (.cells #[.pointer p] 224)).alloc (.cells #[.pointer none] 224)).alloc (.cells (ints .u8 8 (lowF n 8)) 263)) := Grew.alloc (Grew.alloc (Grew.alloc (Grew.refl _) _) _) _;generalize ((w.alloc (.cells #[.pointer p] 224)).alloc (.cells #[.pointer none] 224)).alloc (.cells (ints .u8 8 (lowF n 8)) 263) = w3 at *;obtain ⟨d, hd, hd8⟩ : ∃ d : Nat, min (max size 0) 8 = (d : Int) /\ d <= 8 := ⟨(min (max size 0) 8).toNat, by omega, by omega⟩
   have cWd := fun W => zqzi size W;rw [hd] at cWd;obtain ⟨q, rfl, hq8⟩ : ∃ q : Nat, d = 8 - q /\ q <= 8 := ⟨8 - d, by omega, by omega⟩
   have wq : IntKind.i64.wrap (8 - ((8 - q : Nat) : Int)) = (q : Int) := by
    rw [show (8 : Int) - ((8 - q : Nat) : Int) = (q : Int) by omega];exact wrap_small (by omega) (by omega)
   have q1 : (q : Int) <= 8 := by omega
   have q0 : (0 : Int) <= (q : Int) := by omega
   refine wp_region_any zqb ?_
   rw [show ({ w3 with drawn := w3.drawn + 1 } : World) = more w3 ⟨w3.drawn + 1, #[]⟩ from by simp [more]];generalize (⟨w3.drawn + 1, #[]⟩ : More) = m8;have f0m := zqp m8 f0;have f1m := zqp m8 f1;have f2m := zqp m8 f2;refine zqdg (i := 0) (j := 1) (fuel := 7) zqb rfl rfl ?_ ?_
   ·intro K hK
    go_simp
    refine hK _ _ ?_
    clear hK K;refine zqt (i := 1) (fuel := 6) zqb rfl ?_
    intro K hK
    go_simp
    refine hK _ _ ?_
    clear hK K;refine zqt (i := 2) (fuel := 5) zqb rfl ?_
    intro K hK
    go_simp
    refine (cWd _).mono ?_
    rintro e9 w9 ⟨rfl, rfl⟩;refine hK _ _ ?_
    clear hK K;refine zqt (i := 3) (fuel := 4) zqb rfl ?_
    intro K hK
    go_simp
    (try simp only [wq])
    refine hK _ _ ?_
    clear hK K;refine zqt (i := 4) (fuel := 3) zqb rfl ?_
    intro K hK
    go_simp
    refine hK _ _ ?_
    clear hK K;refine zqt (i := 5) (fuel := 2) zqb rfl ?_
    intro K hK
    go_simp
    rw [zqg8 f2 hq8 m8, zqgw hq8];generalize (if 8 = q then (⟨w.heap.size + 1 + 1, 0, none⟩ : Addr) else ⟨w.heap.size + 1 + 1, q, none⟩) = aq at *
    go_simp
    refine hK _ _ ?_
    clear hK K;refine zqt (i := 6) (fuel := 1) zqb rfl ?_
    intro K hK
    go_simp
    refine (zqd2 _ _ _).mono ?_
    rintro e9 w9 ⟨g, rfl, fg, hb⟩;have f1b := zqc hb f1m;have hGb := Grew.trans (Grew.more hG m8) hb;clear hb;refine hK _ _ ?_
    clear hK K;refine zqt (i := 7) (fuel := 0) zqb rfl ?_
    intro K hK
    go_simp
    refine hK _ _ ?_
    clear hK K;refine wpAny_done zqb ?_ _
    go_wp2;refine zqag rfl _ 224 _ (0, 0) _ rfl (zqq _ f1b) Tryz.underlying224 rfl zqb rfl ⟨_, rfl, by rw [hd, Int.toNat_natCast]; exact (zq1 _ _ _ _ (fun e => by rw [e, f1b] at fg; cases fg)).trans fg, Grew.setRow hGb _ _ (by omega)⟩
   ·intro K hK
    go_simp
    refine hK _ _ ?_
    clear hK K;refine zqdg (i := 0) (j := 2) (fuel := 6) zqb rfl rfl ?_ ?_
    ·intro K hK
     go_simp
     refine hK _ _ ?_
     clear hK K;refine zqt (i := 2) (fuel := 5) zqb rfl ?_
     intro K hK
     go_simp
     refine (cWd _).mono ?_
     rintro e9 w9 ⟨rfl, rfl⟩;refine hK _ _ ?_
     clear hK K;refine zqt (i := 3) (fuel := 4) zqb rfl ?_
     intro K hK
     go_simp
     (try simp only [wq])
     refine hK _ _ ?_
     clear hK K;refine zqt (i := 4) (fuel := 3) zqb rfl ?_
     intro K hK
     go_simp
     refine hK _ _ ?_
     clear hK K;refine zqt (i := 5) (fuel := 2) zqb rfl ?_
     intro K hK
     go_simp
     rw [zqg8 f2 hq8 m8, zqgw hq8];generalize (if 8 = q then (⟨w.heap.size + 1 + 1, 0, none⟩ : Addr) else ⟨w.heap.size + 1 + 1, q, none⟩) = aq at *
     go_simp
     refine hK _ _ ?_
     clear hK K;refine zqt (i := 6) (fuel := 1) zqb rfl ?_
     intro K hK
     go_simp
     refine (zqd2 _ _ _).mono ?_
     rintro e9 w9 ⟨g, rfl, fg, hb⟩;have f1b := zqc hb f1m;have hGb := Grew.trans (Grew.more hG m8) hb;clear hb;refine hK _ _ ?_
     clear hK K;refine zqt (i := 7) (fuel := 0) zqb rfl ?_
     intro K hK
     go_simp
     refine hK _ _ ?_
     clear hK K;refine wpAny_done zqb ?_ _
     go_wp2;refine zqag rfl _ 224 _ (0, 0) _ rfl (zqq _ f1b) Tryz.underlying224 rfl zqb rfl ⟨_, rfl, by rw [hd, Int.toNat_natCast]; exact (zq1 _ _ _ _ (fun e => by rw [e, f1b] at fg; cases fg)).trans fg, Grew.setRow hGb _ _ (by omega)⟩
    ·intro K hK
     go_simp
     refine (cWd _).mono ?_
     rintro e9 w9 ⟨rfl, rfl⟩;refine hK _ _ ?_
     clear hK K;refine zqdg (i := 0) (j := 3) (fuel := 5) zqb rfl rfl ?_ ?_
     ·intro K hK
      go_simp
      refine hK _ _ ?_
      clear hK K;refine zqt (i := 3) (fuel := 4) zqb rfl ?_
      intro K hK
      go_simp
      (try simp only [wq])
      refine hK _ _ ?_
      clear hK K;refine zqt (i := 4) (fuel := 3) zqb rfl ?_
      intro K hK
      go_simp
      refine hK _ _ ?_
      clear hK K;refine zqt (i := 5) (fuel := 2) zqb rfl ?_
      intro K hK
      go_simp
      rw [zqg8 f2 hq8 m8, zqgw hq8];generalize (if 8 = q then (⟨w.heap.size + 1 + 1, 0, none⟩ : Addr) else ⟨w.heap.size + 1 + 1, q, none⟩) = aq at *
      go_simp
      refine hK _ _ ?_
      clear hK K;refine zqt (i := 6) (fuel := 1) zqb rfl ?_
      intro K hK
      go_simp
      refine (zqd2 _ _ _).mono ?_
      rintro e9 w9 ⟨g, rfl, fg, hb⟩;have f1b := zqc hb f1m;have hGb := Grew.trans (Grew.more hG m8) hb;clear hb;refine hK _ _ ?_
      clear hK K;refine zqt (i := 7) (fuel := 0) zqb rfl ?_
      intro K hK
      go_simp
      refine hK _ _ ?_
      clear hK K;refine wpAny_done zqb ?_ _
      go_wp2;refine zqag rfl _ 224 _ (0, 0) _ rfl (zqq _ f1b) Tryz.underlying224 rfl zqb rfl ⟨_, rfl, by rw [hd, Int.toNat_natCast]; exact (zq1 _ _ _ _ (fun e => by rw [e, f1b] at fg; cases fg)).trans fg, Grew.setRow hGb _ _ (by omega)⟩
     ·intro K hK
      go_simp
      (try simp only [wq])
      refine hK _ _ ?_
      clear hK K;refine zqdg (i := 0) (j := 4) (fuel := 4) zqb rfl rfl ?_ ?_
      ·intro K hK
       go_simp
       refine hK _ _ ?_
       clear hK K;refine zqt (i := 4) (fuel := 3) zqb rfl ?_
       intro K hK
       go_simp
       refine hK _ _ ?_
       clear hK K;refine zqt (i := 5) (fuel := 2) zqb rfl ?_
       intro K hK
       go_simp
       rw [zqg8 f2 hq8 m8, zqgw hq8];generalize (if 8 = q then (⟨w.heap.size + 1 + 1, 0, none⟩ : Addr) else ⟨w.heap.size + 1 + 1, q, none⟩) = aq at *
       go_simp
       refine hK _ _ ?_
       clear hK K;refine zqt (i := 6) (fuel := 1) zqb rfl ?_
       intro K hK
       go_simp
       refine (zqd2 _ _ _).mono ?_
       rintro e9 w9 ⟨g, rfl, fg, hb⟩;have f1b := zqc hb f1m;have hGb := Grew.trans (Grew.more hG m8) hb;clear hb;refine hK _ _ ?_
       clear hK K;refine zqt (i := 7) (fuel := 0) zqb rfl ?_
       intro K hK
       go_simp
       refine hK _ _ ?_
       clear hK K;refine wpAny_done zqb ?_ _
       go_wp2;refine zqag rfl _ 224 _ (0, 0) _ rfl (zqq _ f1b) Tryz.underlying224 rfl zqb rfl ⟨_, rfl, by rw [hd, Int.toNat_natCast]; exact (zq1 _ _ _ _ (fun e => by rw [e, f1b] at fg; cases fg)).trans fg, Grew.setRow hGb _ _ (by omega)⟩
      ·intro K hK
       go_simp
       refine hK _ _ ?_
       clear hK K;refine zqdg (i := 0) (j := 5) (fuel := 3) zqb rfl rfl ?_ ?_
       ·intro K hK
        go_simp
        refine hK _ _ ?_
        clear hK K;refine zqt (i := 5) (fuel := 2) zqb rfl ?_
        intro K hK
        go_simp
        rw [zqg8 f2 hq8 m8, zqgw hq8];generalize (if 8 = q then (⟨w.heap.size + 1 + 1, 0, none⟩ : Addr) else ⟨w.heap.size + 1 + 1, q, none⟩) = aq at *
        go_simp
        refine hK _ _ ?_
        clear hK K;refine zqt (i := 6) (fuel := 1) zqb rfl ?_
        intro K hK
        go_simp
        refine (zqd2 _ _ _).mono ?_
        rintro e9 w9 ⟨g, rfl, fg, hb⟩;have f1b := zqc hb f1m;have hGb := Grew.trans (Grew.more hG m8) hb;clear hb;refine hK _ _ ?_
        clear hK K;refine zqt (i := 7) (fuel := 0) zqb rfl ?_
        intro K hK
        go_simp
        refine hK _ _ ?_
        clear hK K;refine wpAny_done zqb ?_ _
        go_wp2;refine zqag rfl _ 224 _ (0, 0) _ rfl (zqq _ f1b) Tryz.underlying224 rfl zqb rfl ⟨_, rfl, by rw [hd, Int.toNat_natCast]; exact (zq1 _ _ _ _ (fun e => by rw [e, f1b] at fg; cases fg)).trans fg, Grew.setRow hGb _ _ (by omega)⟩
       ·intro K hK
        go_simp
        rw [zqg8 f2 hq8 m8, zqgw hq8];generalize (if 8 = q then (⟨w.heap.size + 1 + 1, 0, none⟩ : Addr) else ⟨w.heap.size + 1 + 1, q, none⟩) = aq at *
        go_simp
        refine hK _ _ ?_
        clear hK K;refine zqt (i := 0) (fuel := 2) zqb rfl ?_
        intro K hK
        go_simp
        refine hK _ _ ?_
        clear hK K;refine zqt (i := 6) (fuel := 1) zqb rfl ?_
        intro K hK
        go_simp
        refine (zqd2 _ _ _).mono ?_
        rintro e9 w9 ⟨g, rfl, fg, hb⟩;have f1b := zqc hb f1m;have hGb := Grew.trans (Grew.more hG m8) hb;clear hb;refine hK _ _ ?_
        clear hK K;refine zqt (i := 7) (fuel := 0) zqb rfl ?_
        intro K hK
        go_simp
        refine hK _ _ ?_
        clear hK K;refine wpAny_done zqb ?_ _
        go_wp2;refine zqag rfl _ 224 _ (0, 0) _ rfl (zqq _ f1b) Tryz.underlying224 rfl zqb rfl ⟨_, rfl, by rw [hd, Int.toNat_natCast]; exact (zq1 _ _ _ _ (fun e => by rw [e, f1b] at fg; cases fg)).trans fg, Grew.setRow hGb _ _ (by omega)⟩
def zrat : Go.Shelf.Ren := ⟨fun | 17 => 152 | n => n, fun | 24 => 195 | 9 => 9 | 3 => 3 | 4 => 4 | n => n, fun | n => n⟩
theorem zqzw : Go.Proofs.Lays2.n17 Tryz.prog zrat := {
 mixed := by kernel_rfl
 f17 := Tryz.func152.trans (congrArg some zqb)
 t0 := by kernel_rfl
 a0 := fun _ => by kernel_rfl
 z0 := fun _ => by kernel_rfl
 v0 := fun _ => by kernel_rfl
 t3 := Tryz.underlying3
 a3 := Tryz.isAgg3
 z3 := Tryz.sizeOf3
 v3 := Tryz.zeroValue3
 t4 := Tryz.underlying4
 a4 := Tryz.isAgg4
 z4 := Tryz.sizeOf4
 v4 := Tryz.zeroValue4
 t9 := Tryz.underlying9
 a9 := Tryz.isAgg9
 z9 := Tryz.sizeOf9
 v9 := Tryz.zeroValue9
 t24 := Tryz.underlying195
 a24 := Tryz.isAgg195
 z24 := Tryz.sizeOf195
 v24 := Tryz.zeroValue195 }
theorem zq49 {base n : Nat} {v : Value} {F : Nat -> ByteArray} (w : World) (h : w.ownsRow base 9 1 v n (strL F n)) (hL : n <= 1000) :
  Calls Tryz.prog 152 #[v] w fun e w' => e = .returned (.tuple #[]) /\ (∃ oa c, v = .slice oa n c /\ n <= c /\ StrsAt w' oa n (fun i => F (n - 1 - i))) /\ Below base w w' := by
 rcases h.2 with ⟨rfl, h0⟩ | ⟨g, cap, cur, rfl, hb, hg, hnc, hcm, hcs, htake⟩
 ·subst h0
  refine (Any.slices_Reverse_string_empty zqzw none 0 w).mono ?_
  rintro e w' ⟨rfl, rfl⟩;exact ⟨rfl, ⟨none, 0, rfl, by omega, .inl rfl⟩, Below.refl _ _⟩
 ·have hn : ((List.range n).map fun i => (F i).data.toList).length = n := by simp
  have hH : Sort.Holds encStr w g 0 ((List.range n).map fun i => (F i).data.toList).toArray := fun j hj => by
   have hj' : j < n := by simpa using hj
   refine ⟨?_, by rw [Nat.zero_add]; exact frozen_of_row w g _ _ _ hg⟩;rw [Nat.zero_add, cell_of_row w g j _ _ _ hg];have h1 := zq4h F hj';rw [<- htake, List.getElem?_take, if_pos (by omega)] at h1;rw [getElem!_pos _ j hj]
   simpa using h1
  have hc := Any.slices_Reverse_string zqzw g 0 cap ((List.range n).map fun i => (F i).data.toList) w hH (by rw [hn]; omega);rw [hn] at hc;refine hc.mono ?_
  rintro e w' ⟨rfl, n', rfl⟩;have hH2 : Sort.Holds encStr (Sort.putRow encStr (Sort.ahead w n') g 0 ((List.range n).map fun i => (F i).data.toList).reverse.toArray) g 0 ((List.range n).map fun i => (F i).data.toList).reverse.toArray := Sort.holds_putRow encStr _ g 0 ((List.range n).map fun i => (F i).data.toList).toArray _ hH (by simp);refine ⟨rfl, ⟨_, _, rfl, hnc, .inr ⟨_, rfl, fun w'' hb' j hj => ?_⟩⟩, Lib.below_putRow (Below.refl _ _) hb⟩;have hj' : j < ((List.range n).map fun i => (F i).data.toList).reverse.toArray.size := by simpa using hj
  have c1 := (hH2 j hj').1;rw [getElem!_pos _ j hj'] at c1;have hadd : (⟨g, 0, none⟩ : Addr).add j = ⟨g, 0 + j, none⟩ := by unfold Addr.add; split <;> simp_all
  rw [hadd, hb'.cell (cell_lt c1), c1]
  simp
theorem zq4f (F : Nat -> ByteArray) (i : Nat) : segN F i 0 = [] := rfl
def Pcs (w : World) : List ByteArray -> Value -> Prop
 | [], v => v = .pointer none
 | s :: l, v => ∃ g u, v = .pointer (some ⟨g, 0, none⟩) /\ zqe w g = some (.cells #[u, .string s] 242) /\ Pcs w l u
theorem Pcs.later {w w' : World} {l : List ByteArray} {v : Value} (h : Pcs w l v) (hb : Below w.heap.size w w') : Pcs w' l v := by
 induction l generalizing v with
 | nil => exact h
 | cons s l ih =>
  obtain ⟨g, u, e, hg, hu⟩ := h;exact ⟨g, u, e, zqc hb hg, ih hu⟩
theorem Pcs.ptr {w : World} {l : List ByteArray} {v : Value} (h : Pcs w l v) : ∃ p, v = .pointer p := by
 cases l with
 | nil => exact ⟨_, h⟩
 | cons s l => obtain ⟨g, u, e, _⟩ := h; exact ⟨_, e⟩
theorem zqqa (F : Nat -> ByteArray) (n : Nat) (v : Value) (w : World) (hc0 : Pcs w (segN F 0 n) v) (hn : n <= 1000) (hl : (catS (fun i => F (n - 1 - i)) n).size + n <= 140737488355328) :
  Calls Tryz.prog 138 #[.agg #[v]] w (Rt w (.string (catS (fun i => F (n - 1 - i)) n))) := by
 obtain ⟨p0, rfl⟩ := hc0.ptr
 go_enter Tryz.func138, Tryz.ntmps138
 go_wp2_with fail;have hG0 : Below w.heap.size w (w.alloc (.cells #[.pointer p0] 224)) := Grew.alloc (Grew.refl _) _
 go_loopw [4, 3] (fun v ns wr => ∃ (j : Nat) (v0 n0 : Value), n0 = ns /\ v0 = v /\ j <= n /\ Below w.heap.size w wr /\ Pcs w (segN F j (n - j)) v0 /\ Hid (wr.ownsRow w.heap.size 9 1 n0 j (strL F j)) /\ lenV n0 = j) (fun _ ns _ => n - lenV ns)
 case atStart => exact ⟨0, _, _, rfl, rfl, by omega, hG0, by rw [Nat.sub_zero]; exact hc0, World.ownsRow_nil _ _ _ _, rfl⟩
 case round =>
  clear hG0 hc0;obtain ⟨j, v0, n0, rfl, rfl, hj, hG, hc, OWN, hlen⟩ := hrel
  by_cases hlt : j < n
  ·rw [zqyw F hlt] at hc
   obtain ⟨g, u, rfl, hg, hcu⟩ := hc;obtain ⟨pu, rfl⟩ := hcu.ptr;have fg := zqc hG hg;have lfg := zqa fg;obtain ⟨g3, c3, w3, hr3, own3, hb3, hk3⟩ := zqxn w (wr.alloc (.cells #[.string (F j)] 9)) w.heap.size n0 j F wr.heap.size _ _ (World.ownsRow.alloc OWN.out _) (by omega) (zqg _ _ _ rfl) (Grew.alloc hG _) (Nat.le_refl _) (by have := hG.size; simp; omega);have fg3 := zqc hb3 hg;have lfg3 := zqa fg3;have OWN3 : Hid (w3.ownsRow w.heap.size 9 1 (.slice (some ⟨g3, 0, none⟩) (j + 1) c3) (j + 1) (strL F (j + 1))) := own3;clear own3 OWN hk3;go_wp2
   go_roundw
   case rel => first | exact ⟨j + 1, _, _, rfl, rfl, by omega, hb3, hcu, OWN3, rfl⟩ | ((repeat' apply Exists.intro) <;> first | exact ⟨⟨j + 1, _, _, rfl, rfl, by omega, hb3, hcu, OWN3, rfl⟩, rfl⟩ | exact undef)
   case measure => (show n - (j + 1) < n - lenV n0; omega)
  ·obtain rfl : n = j := by omega
   rw [Nat.sub_self, zq4f] at hc;obtain rfl : v0 = .pointer none := hc;go_wp2_with fail;refine (zq49 _ OWN.out hn).mono ?_
   rintro e w2 ⟨rfl, ⟨oa, c, rfl, hnc, hS⟩, hb⟩;have hG2 : Below w.heap.size w w2 := Below.trans hG hb;clear hb OWN hG;have HS : Hid (StrsAt w2 oa n fun i => F (n - 1 - i)) := hS;clear hS;go_wp2_with fail;refine (zqu0 _ _ _ _ _ HS.out hnc hl).mono ?_
   rintro e w3 ⟨rfl, hb⟩;have hG3 := Grew.trans hG2 hb;go_wp2;go_ret;exact ⟨rfl, hG3⟩
@[go_sem] theorem zq7e (ty : TypeId) (g C : Nat) (s : ByteArray) (w : World) (A : Nat -> Int) (t : TypeId) (h : zqe w g = some (.cells (ints .u8 32 A) t (0, 0))) (hs : s.size <= 32) :
  zqk5 Tryz.prog ty g 0 32 C s w (some (.cells (ints .u8 32 A) t (0, 0))) = .ok (.value (.int .i64 s.size)) (w.setRow g (ints .u8 32 (putT A 0 s.size s))) := by
 unfold zqk5 zqej;unfold zqe at h;have hm : Nat.min s.size 32 = s.size := Nat.min_eq_left hs;have hr := zqft (P := Tryz.prog) w 157 9 ty 5 g 0 32 C s.size s _ t Tryz.underlying157 zqb h hm (by rw [zqi]; omega);have l2 : (List.map (fun b : UInt8 => Value.int .u8 b.toNat) s.data.toList).length = s.size := by
  rw [List.length_map]
  rfl
 have e : ((ints .u8 32 A).toList.take 0 ++ (List.map (fun b : UInt8 => Value.int .u8 b.toNat) s.data.toList).take s.size ++ (ints .u8 32 A).toList.drop (0 + s.size)).toArray = ints .u8 32 (putT A 0 s.size s) := by
  rw [List.take_zero, List.nil_append, List.take_of_length_le (by omega), Nat.zero_add]
  apply Array.ext_getElem?
  intro i
  by_cases hi : i < 32
  ·rw [zqal _ _ _ _ hi, List.getElem?_toArray]
   by_cases h3 : i < s.size
   ·rw [List.getElem?_append_left (by omega), List.getElem?_map]
    have h4 : s.data.toList[i]? = some s[i] := by
     rw [Array.getElem?_toList];exact Array.getElem?_eq_getElem h3
    rw [h4];unfold putT;rw [if_pos ⟨Nat.zero_le _, by omega⟩, Nat.sub_zero, <- zqdr s i h3]
    rfl
   ·rw [List.getElem?_append_right (by omega), l2, List.getElem?_drop, Array.getElem?_toList, show s.size + (i - s.size) = i by omega, zqal _ _ _ _ hi]
    unfold putT;rw [if_neg (by omega)]
  ·have r1 : (ints .u8 32 (putT A 0 s.size s))[i]? = none := Array.getElem?_eq_none (by rw [zqi]; omega)
   rw [r1, List.getElem?_toArray, List.getElem?_eq_none (by rw [List.length_append, l2, List.length_drop, Array.length_toList, zqi]; omega)]
 simp only [Sem.run_bind, hr, Result.andThen_ok, Sem.run_pure, e]
 rfl
theorem zqtn (m : Nat) (f : Nat -> Int) (hf : Bytes m f) : Lib.strCells (strOf m f) = (ints .u8 m f).toList := by
 apply List.ext_getElem?
 intro i;have h := zqen m f;rw [ByteArray.toList_eq] at h;unfold Lib.strCells;rw [List.getElem?_map, h, Array.getElem?_toList (xs := ints .u8 m f)]
 by_cases hi : i < m
 ·rw [List.getElem?_map, List.getElem?_range hi, zqal _ _ _ _ hi]
  have hb := hf i hi
  simp only [Option.map_some, UInt8.toNat_ofNat']
  congr 2
  omega
 ·rw [List.getElem?_map, List.getElem?_eq_none (by simpa using hi), Array.getElem?_eq_none (by rw [zqi]; omega)]
  rfl
set_option maxHeartbeats 2000000 in
theorem zqxt {w : World} {b : Nat} {s : ByteArray} (g m c : Nat) (f : Nat -> Int) (tk : TypeId) (h : BldAt w b s) (hg : zqe w g = some (.cells (ints .u8 m f) tk)) (hm : 0 < m) (hm2 : m <= 64) (hf : Bytes m f) (hs : s.size <= 1000000) (hgb : b < g) :
  Calls Tryz.prog 150 #[.pointer (some ⟨b, 0, none⟩), .slice (some ⟨g, 0, none⟩) m c] w fun e w' => e = .returned (.tuple #[.int .i64 m, .nilIface]) /\ BldAt w' b (s ++ strOf m f) /\ Below b w w' := by
 have hlt0 := h.lt;have hcheck : Calls Tryz.prog 170 #[.pointer (some ⟨b, 0, none⟩)] w fun e w' => e = .returned (.tuple #[]) /\ Lib.BuilderAt 245 5 b b (.pointer (some ⟨b, 0, none⟩)) (Lib.strCells s) w' /\ Below b w w' /\ zqe w' g = some (.cells (ints .u8 m f) tk) := by
  rcases h with h | h
  ·refine (zquq b w h.cell0 h.shape h.frozen0).mono ?_
   rintro e w' ⟨rfl, rfl⟩;refine ⟨rfl, h.used _, (Below.refl b w).setCell (p := ⟨b, 0, none⟩) h.1 _, ?_⟩;unfold zqe at hg ⊢;rw [Below.heap_setCell _ _ _ _ (by show g ≠ b; omega)];exact hg
  ·refine (zqzc b w h.cell0).mono ?_
   rintro e w' ⟨rfl, rfl⟩;exact ⟨rfl, h, Below.refl b _, hg⟩
 go_enter Tryz.func150, Tryz.ntmps150
 go_wp2_with fail;refine hcheck.mono ?_
 rintro e w1 ⟨rfl, h1, hb1, hg1⟩;obtain ⟨hB, v, hbk, hown, hne⟩ := h1;have hz : (Lib.strCells s).length = s.size := zqfx s;have hbk1 : zqe w1 b = some (.cells #[.pointer (some ⟨b, 0, none⟩), v] 245) := hbk;have lb := zqa hbk1;have lg := zqa hg1;obtain ⟨g3, cap, w2, hr0, ho, hgrow, -, -⟩ := run_append_lies (P := Tryz.prog) w1 157 157 b 5 ((Tryz.prog.info? 5).get zqb) (((Tryz.prog.info? 5).get zqb).zero.get zqb) 1 1 Tryz.underlying157 zqb zqb zqb zqb zqb (by decide) v (Lib.strCells s).length (Lib.strCells s) hown ⟨g, 0, none⟩ m c (ints .u8 m f).toList (by rw [Array.length_toList, zqi, Nat.mul_one])
  (fun j u hu => by
   rw [Array.getElem?_toList] at hu;have hadd : (⟨g, 0, none⟩ : Addr).add j = ⟨g, j, none⟩ := by unfold Addr.add; split <;> simp_all
   rw [hadd, cell_of_row w1 g j _ _ _ hg1];exact hu)
  (fun u hu => by
   obtain ⟨j, hj, rfl⟩ := List.getElem_of_mem hu;have hj' : j < m := by simpa [zqi] using hj
   have := zqal .u8 m f j hj';rw [Array.getElem_toList];rw [(Array.getElem?_eq_some_iff.1 this).2]
   rfl) hm (by rw [hz]; unfold maxLen; omega) (by rw [hz]; omega) (by omega) w1.heap.size rfl
 have hr : (zqr #[157, 157] 157 #[v, .slice (some ⟨g, 0, none⟩) m c]).run Tryz.prog w1 = .ok (.value (.slice (some ⟨g3, 0, none⟩) ((Lib.strCells s).length + m) cap)) w2 := by unfold zqr; simp only [Sem.run_bind, hr0, Result.andThen_ok, Sem.run_pure]
 have hbk2 : zqe w2 b = some (.cells #[.pointer (some ⟨b, 0, none⟩), v] 245) := by
  unfold zqe at hbk1 ⊢;rw [hgrow.block b lb (fun e => hne e.symm)];exact hbk1
 have lb2 := zqa hbk2;have hb2 : Below b w w2 := hb1.grown hgrow (by omega) (fun k hk => (hown.lt k hk).1);have HO : Hid (w2.ownsRow b 5 1 (.slice (some ⟨g3, 0, none⟩) ((Lib.strCells s).length + m) cap) ((Lib.strCells s).length + m) (Lib.strCells s ++ (ints .u8 m f).toList)) := ho;obtain ⟨oa, n', cp, rfl⟩ : ∃ oa n' cp, v = .slice oa n' cp := by
  rcases hown.2 with ⟨hv, _⟩ | ⟨g2, cap2, cur2, hv, _⟩
  ·exact ⟨_, _, _, hv⟩
  ·exact ⟨_, _, _, hv⟩
 have HB : Hid (zqe w2 b = some (.cells #[.pointer (some ⟨b, 0, none⟩), .slice oa n' cp] 245)) := hbk2;clear ho hown hr0 hgrow hcheck hbk;go_wp2;go_ret2;have hne3 := Lib.ownBlock_ne HO.out HB.out (by decide);have hgt : b + 1 <= g3 := by
  have h1 := (HO.out.lt g3 rfl).1;have h2 : g3 ≠ b := fun e => hne3 (by rw [e]; rfl)
  omega
 have ho2 : w2.ownsRow (b + 1) 5 1 (.slice (some ⟨g3, 0, none⟩) ((Lib.strCells s).length + m) cap) ((Lib.strCells s).length + m) (Lib.strCells s ++ (ints .u8 m f).toList) := by
  obtain ⟨h1, h2 | ⟨g', cap', cur', e, hb', rest⟩⟩ := HO.out
  ·exact absurd h2.1 (by simp)
  ·cases e
   exact ⟨h1, .inr ⟨_, _, _, rfl, hgt, rest⟩⟩
 have e1 : Lib.strCells (s ++ strOf m f) = Lib.strCells s ++ (ints .u8 m f).toList := by
  rw [<- zqtn m f hf]
  simp [Lib.strCells, ByteArray.toList_data_append]
 have e2 : (Lib.strCells (s ++ strOf m f)).length = (Lib.strCells s).length + m := by rw [e1, List.length_append, show (ints .u8 m f).toList.length = m from zqi _ _ _]
 refine ⟨rfl, .inr ⟨Nat.le_refl _, _, zqau _ HB.out, ?_, fun e => hne3 e⟩, ?_⟩
 ·rw [e2, e1]
  rw [hz];exact zq3t (zqj0 (by rw [<- hz]; exact ho2) (Nat.lt_succ_self _)) (Nat.le_succ _)
 ·exact hb2.trans ⟨rfl, rfl, rfl, by rw [zq0]; exact Nat.le_refl _, fun k hk => by
   unfold World.setRow
   simp only [Array.getElem?_modify]
   rw [if_neg (by omega)]⟩
def zqci (F : Nat -> Nat -> Int) : Nat -> ByteArray
 | 0 => ByteArray.empty
 | k + 1 => zqci F k ++ strOf 32 (F k)
theorem zqc5 (F : Nat -> Nat -> Int) : ∀ k, (zqci F k).size = 32 * k
 | 0 => rfl
 | k + 1 => by
  show (zqci F k ++ strOf 32 (F k)).size = _
  rw [ByteArray.size_append, zqc5 F k, zq5]
  omega
theorem zqgp (F : Nat -> Nat -> Int) (oa : Option Addr) (n c : Nat) (p : Option Addr) (w : World) (hK : K32At w oa n F) (gF : ∀ i, i < n -> Bytes 32 (F i)) (hn : n <= 1000) :
  Calls Tryz.prog 137 #[.agg #[.pointer p], .slice oa n c] w fun e w' => ∃ g, e = .returned (.agg #[.pointer (some ⟨g, 0, none⟩)]) /\ zqe w' g = some (.cells #[.pointer p, .string (zqci F n)] 242) /\ Below w.heap.size w w' := by
 go_enter Tryz.func137, Tryz.ntmps137
 have HK : Hid (K32At w oa n F) := hK;have HF : Hid (∀ i, i < n -> Bytes 32 (F i)) := gF;clear hK gF;go_wp2_with fail;have f0 : zqe (((w.alloc (.cells #[.pointer p] 224)).alloc (.cells #[.pointer none] 224)).alloc (.cells #[.pointer none, .slice none 0 0] 245)) w.heap.size = some (.cells #[.pointer p] 224) := zqj _ (zqj _ (zqg _ _ _ rfl));have f1 : zqe (((w.alloc (.cells #[.pointer p] 224)).alloc (.cells #[.pointer none] 224)).alloc (.cells #[.pointer none, .slice none 0 0] 245)) (w.heap.size + 1) = some (.cells #[.pointer none] 224) := zqj _ (zqg _ _ _ (by simp));have f2 : zqe (((w.alloc (.cells #[.pointer p] 224)).alloc (.cells #[.pointer none] 224)).alloc (.cells #[.pointer none, .slice none 0 0] 245)) (w.heap.size + 1 + 1) = some (.cells #[.pointer none, .slice none 0 0] 245) := zqg _ _ _ (by simp)
 have hG0 : Below w.heap.size w (((w.alloc (.cells #[.pointer p] 224)).alloc (.cells #[.pointer none] 224)).alloc (.cells #[.pointer none, .slice none 0 0] 245)) := Grew.alloc (Grew.alloc (Grew.alloc (Grew.refl _) _) _) _;have hB0 : Hid (BldAt (((w.alloc (.cells #[.pointer p] 224)).alloc (.cells #[.pointer none] 224)).alloc (.cells #[.pointer none, .slice none 0 0] 245)) (w.heap.size + 1 + 1) (zqci F 0)) := zqy2 f2;clear f2;generalize ((w.alloc (.cells #[.pointer p] 224)).alloc (.cells #[.pointer none] 224)).alloc (.cells #[.pointer none, .slice none 0 0] 245) = w3 at *
 go_loopw [7, 10] (fun _ i wr => ∃ k : Nat, k <= n /\ i = .int .i64 k /\ Below w.heap.size w wr /\ zqe wr w.heap.size = some (.cells #[.pointer p] 224) /\ zqe wr (w.heap.size + 1) = some (.cells #[.pointer none] 224) /\ Hid (BldAt wr (w.heap.size + 1 + 1) (zqci F k))) (fun _ i _ => n - (intOf i).toNat)
 case atStart => exact ⟨0, by omega, rfl, hG0, f0, f1, hB0⟩
 case round =>
  clear hG0 f0 f1 hB0;obtain ⟨k, hk, rfl, hG, f0, f1, HB⟩ := hrel;have l0 := zqa f0;have l1 := zqa f1;have l2 := HB.out.lt
  by_cases hlt : k < n
  ·have hlt' : (k : Int) < (n : Int) := by omega
   obtain ⟨ad, rfl⟩ := HK.out.addr (by omega);have hl := HK.out.loadK hlt hG;have hg : zqe (wr.alloc (.cells (ints .u8 32 (F k)) 29)) wr.heap.size = some (.cells (ints .u8 32 (F k)) 29) := zqg _ _ _ rfl;have hB1 : BldAt (wr.alloc (.cells (ints .u8 32 (F k)) 29)) (w.heap.size + 1 + 1) (zqci F k) := HB.out.later (Grew.alloc (Grew.refl _) _);have hs : (zqci F k).size <= 1000000 := by rw [zqc5]; omega
   have hw := zqxt wr.heap.size 32 32 (F k) _ hB1 hg (by decide) (by decide) (HF.out k hlt) hs (by omega);have f0b := zqj (.cells (ints .u8 32 (F k)) 29) f0;have f1b := zqj (.cells (ints .u8 32 (F k)) 29) f1;have hGb := Grew.alloc hG (.cells (ints .u8 32 (F k)) 29);clear hB1 hs HB;go_wp2_with fail;refine hw.mono ?_
   rintro e w4 ⟨rfl, hB4, hb⟩;have HB4 : Hid (BldAt w4 (w.heap.size + 1 + 1) (zqci F (k + 1))) := hB4;have f0c := (hb.block _ (by omega)).trans f0b;have f1c := (hb.block _ (by omega)).trans f1b;have hGc : Below w.heap.size w w4 := hGb.trans (hb.mono (by omega));clear hB4 hb hw hl hg f0b f1b hGb f0 f1 hG;go_wp2
   go_roundw
   case rel => exact ⟨k + 1, by omega, by go_num, hGc, f0c, f1c, HB4⟩
   case measure => (simp [intOf] <;> omega)
  ·obtain rfl : k = n := by omega
   go_wp2_with fail;refine wp_region_any zqb ?_
   rw [show ({ wr with drawn := wr.drawn + 1 } : World) = more wr ⟨wr.drawn + 1, #[]⟩ from by simp [more]];generalize (⟨wr.drawn + 1, #[]⟩ : More) = m8;have f0m := zqp m8 f0;have f1m := zqp m8 f1;have HBm := HB.out.later (zqo wr m8);refine zqdg (i := 0) (j := 1) (fuel := 3) zqb rfl rfl ?_ ?_
   ·intro K hK
    go_simp
    refine hK _ _ ?_
    clear hK K;refine zqt (i := 1) (fuel := 2) zqb rfl ?_
    intro K hK
    go_simp
    refine (zqhd HBm).mono ?_
    rintro e9 w9 ⟨rfl, hb9⟩;have f0s : zqe w9 w.heap.size = some (.cells #[.pointer p] 224) := (hb9.block _ (by omega)).trans f0m;have f1s : zqe w9 (w.heap.size + 1) = some (.cells #[.pointer none] 224) := (hb9.block _ (by omega)).trans f1m;have hGs : Below w.heap.size w w9 := (Grew.more hG m8).trans (hb9.mono (by omega));refine hK _ _ ?_
    clear hK K;refine zqt (i := 2) (fuel := 1) zqb rfl ?_
    intro K hK
    go_simp
    refine (zqd2 _ _ _).mono ?_
    rintro e8 w8 ⟨g, rfl, fg, hb8⟩;have f1r := zqc hb8 f1s;have hGr := Grew.trans hGs hb8;refine hK _ _ ?_
    clear hK K;refine zqt (i := 3) (fuel := 0) zqb rfl ?_
    intro K hK
    go_simp
    refine hK _ _ ?_
    clear hK K;refine wpAny_done zqb ?_ _
    go_wp2;refine zqag rfl _ 224 _ (0, 0) _ rfl (zqq _ f1r) Tryz.underlying224 rfl zqb rfl ⟨_, rfl, (zq1 _ _ _ _ (fun e => by rw [e, f1r] at fg; cases fg)).trans fg, Grew.setRow hGr _ _ (by omega)⟩
   ·intro K hK
    go_simp
    refine (zqhd HBm).mono ?_
    rintro e9 w9 ⟨rfl, hb9⟩;have f0s : zqe w9 w.heap.size = some (.cells #[.pointer p] 224) := (hb9.block _ (by omega)).trans f0m;have f1s : zqe w9 (w.heap.size + 1) = some (.cells #[.pointer none] 224) := (hb9.block _ (by omega)).trans f1m;have hGs : Below w.heap.size w w9 := (Grew.more hG m8).trans (hb9.mono (by omega));refine hK _ _ ?_
    clear hK K;refine zqt (i := 0) (fuel := 2) zqb rfl ?_
    intro K hK
    go_simp
    refine hK _ _ ?_
    clear hK K;refine zqt (i := 2) (fuel := 1) zqb rfl ?_
    intro K hK
    go_simp
    refine (zqd2 _ _ _).mono ?_
    rintro e8 w8 ⟨g, rfl, fg, hb8⟩;have f1r := zqc hb8 f1s;have hGr := Grew.trans hGs hb8;refine hK _ _ ?_
    clear hK K;refine zqt (i := 3) (fuel := 0) zqb rfl ?_
    intro K hK
    go_simp
    refine hK _ _ ?_
    clear hK K;refine wpAny_done zqb ?_ _
    go_wp2;refine zqag rfl _ 224 _ (0, 0) _ rfl (zqq _ f1r) Tryz.underlying224 rfl zqb rfl ⟨_, rfl, (zq1 _ _ _ _ (fun e => by rw [e, f1r] at fg; cases fg)).trans fg, Grew.setRow hGr _ _ (by omega)⟩
@[go_sem] theorem zrld (a : Option Addr) (c : Nat) (w : World) : (Instr.arrayAt 29 (.slice a 32 c)).run Tryz.prog w = .ok (.pointer a) w := by
 simp [Instr.arrayAt, run_underlying Tryz.underlying29]
@[go_sem] theorem zrae (P : Program) (t : TypeId) (g N : Nat) (f : Nat -> Int) (t' : TypeId) (fr : Nat × Nat) (w : World) (hN : 32 <= N) : zqcw P t g 32 w (some (.cells (ints .u8 N f) t' fr)) = .ok (.agg (ints .u8 32 f)) w := by
 unfold zqcw
 simp only
 by_cases e : N = 32
 ·subst e
  rw [if_pos (zqi _ _ _)]
 ·rw [if_neg (by rw [zqi]; exact e), if_pos (by rw [zqi]; exact hN)]
  congr 2
  apply Array.ext_getElem?
  intro i
  by_cases hi : i < 32
  ·rw [Array.getElem?_extract, if_pos (by rw [zqi]; omega), Nat.zero_add, zqal _ _ _ _ hi, zqal _ _ _ _ (by omega)]
  ·rw [Array.getElem?_eq_none (by rw [Array.size_extract, zqi]; omega), Array.getElem?_eq_none (by rw [zqi]; omega)]
theorem zq5h : numB (min (max (2 : Int) 0) 8).toNat 258 = ⟨#[1, 2]⟩ := by decide +kernel
theorem zqrx (aw : ∀ W : World, Tabs W -> EtAt W -> Calls Tryz.prog 198 #[] W (Rt W (.bool true))) (w : World) (hT : Tabs w) (hE : EtAt w) :
  Calls Tryz.prog 196 #[] w (Rt w (.bool true)) := by
 go_enter Tryz.func196, Tryz.ntmps196
 go_wp2_with fail;refine (aw _ hT hE).mono ?_
 rintro e w2 ⟨rfl, hb⟩;go_wp2;go_ret;exact ⟨rfl, hb⟩
theorem zqr3 (aw : ∀ W : World, Tabs W -> EtAt W -> Calls Tryz.prog 196 #[] W (Rt W (.bool true))) (w : World) (hT : Tabs w) (hE : EtAt w) :
  Calls Tryz.prog 193 #[] w (Rt w (.bool true)) := by
 go_enter Tryz.func193, Tryz.ntmps193
 go_wp2_with fail;have hG0 : Below w.heap.size w (w.alloc (.cells #[.pointer none] 224)) := Grew.alloc (Grew.refl _) _;have fw : zqe (w.alloc (.cells #[.pointer none] 224)) w.heap.size = some (.cells #[.pointer none] 224) := zqg _ _ _ rfl;generalize w.alloc (.cells #[.pointer none] 224) = w1 at *;refine (aw _ (hT.later hG0) (hE.later hG0)).mono ?_
 rintro e w2 ⟨rfl, hb⟩;have hG := Grew.trans hG0 hb;have fw2 := zqc hb fw;have lw2 := zqa fw2;clear hT hE aw hG0 hb fw;go_wp2_with fail;refine (zqcp 2 258 none _ (by decide) (by decide)).mono ?_
 rintro e w3 ⟨g, rfl, fg, hb⟩;rw [zq5h] at fg;have hG3 := Grew.trans hG hb;have fw3 := zqc hb fw2;have lw3 := zqa fw3;clear hG hb fw2 lw2;have hc : Hid (Pcs w3 (segN (fun _ => ⟨#[1, 2]⟩) 0 1) (.pointer (some ⟨g, 0, none⟩))) := ⟨g, _, rfl, fg, rfl⟩
 clear fg;go_wp2_with fail;refine (zqqa _ _ _ _ hc.out (by decide) (by decide)).mono ?_
 rintro e w4 ⟨rfl, hb⟩;have hG4 := Grew.trans hG3 hb;rw [show catS (fun i => (fun _ => (⟨#[1, 2]⟩ : ByteArray)) (1 - 1 - i)) 1 = ⟨#[1, 2]⟩ by decide +kernel];go_wp2;go_ret;exact ⟨rfl, hG4⟩
def ErV (w : World) (v : Value) (E : Int) : Prop := (E = 0 /\ v = .nilIface) \/ (E ≠ 0 /\ ∃ t x l, v = .iface t x /\ Chn w l (.iface 38 (.int .i64 E)) v)
theorem ErV.later {w w' : World} {v : Value} {E : Int} (h : ErV w v E) (hb : Below w.heap.size w w') : ErV w' v E := by
 rcases h with h | ⟨h0, t, x, l, e, hc⟩
 ·exact .inl h
 ·exact .inr ⟨h0, t, x, l, e, hc.later hb⟩
def Oth (g : Nat) (w w' : World) : Prop := ∃ cs, Below w.heap.size (w.setRow g cs) w'
theorem zqrj {w : World} {g : Nat} {cs : Array Value} {t : TypeId} {fr : Nat × Nat} (h : zqe w g = some (.cells cs t fr)) : w.setRow g cs = w := by
 unfold zqe at h;unfold World.setRow;have e : ∀ (H : Array Obj), H[g]? = some (.cells cs t fr) -> (H.modify g fun o => match o with | .cells _ t fr => .cells cs t fr | o => o) = H := fun H hH => by
  apply Array.ext_getElem?
  intro i
  simp only [Array.getElem?_modify]
  by_cases hi : g = i
  ·subst hi
   simp [hH]
  ·simp [hi]
 have := e w.heap h
 cases w
 simp only at this ⊢
 first | (congr 1) | simp_all
theorem zqp9 {B : Nat} {a w : World} (h : Below B a w) (g : Nat) (cs : Array Value) : Below B (a.setRow g cs) (w.setRow g cs) :=
 ⟨h.1, h.2, h.3, by rw [zq0, zq0]; exact h.size, fun k hk => by
  have := h.block k hk;unfold World.setRow
  simp only [Array.getElem?_modify]
  rw [this]⟩
theorem Oth.refl {g : Nat} {w : World} {cs : Array Value} {t : TypeId} {fr : Nat × Nat} (h : zqe w g = some (.cells cs t fr)) : Oth g w w := ⟨cs, by rw [zqrj h]; exact Below.refl _ _⟩
theorem Oth.keep {g : Nat} {w w' : World} (h : Oth g w w') {k : Nat} {o : Obj} (hk : zqe w k = some o) (hne : k ≠ g) : zqe w' k = some o := by
 obtain ⟨cs, hb⟩ := h;have h1 := zqa hk;have h2 : zqe (w.setRow g cs) k = some o := zqk g cs hk hne;unfold zqe at h2 ⊢;rw [hb.block k (by omega)];exact h2
theorem Oth.below {g : Nat} {w0 w w' : World} (h : Oth g w w') (hb : Below w0.heap.size w0 w) (hg : w0.heap.size <= g) : Below w0.heap.size w0 w' := by
 obtain ⟨cs, hb2⟩ := h;have := hb.size;exact (Grew.setRow hb g cs hg).trans (hb2.mono (by omega))
theorem Oth.size {g : Nat} {w w' : World} (h : Oth g w w') : w.heap.size <= w'.heap.size := by
 obtain ⟨cs, hb⟩ := h;have := hb.size;rwa [zq0] at this
theorem zqg4 {w : World} (s : ByteArray) (F : Int) (hF : F ≠ 0) : ErV (w.alloc (.cells #[.string s, .iface 38 (.int .i64 F)] 94)) (.iface 92 (.pointer (some ⟨w.heap.size, 0, none⟩))) F :=
 .inr ⟨hF, _, _, [s], rfl, _, _, rfl, zqg _ _ _ rfl, rfl⟩
theorem zq1p {w : World} {k : Nat} {c : Array Value} {tk : TypeId} {fk : Nat × Nat} (hk : zqe w k = some (.cells c tk fk)) (hne : tk ≠ 94) (cs : Array Value) : ∀ {l : List ByteArray} {b v : Value}, Chn w l b v -> Chn (w.setRow k cs) l b v
 | [], _, _, h => h
 | s :: l, b, v, ⟨j, u, e, hj, hu⟩ => ⟨j, u, e, zqk k cs hj (fun e => by rw [e, hk] at hj; cases hj; exact hne rfl), zq1p hk hne cs hu⟩
theorem ErV.put {w : World} {k : Nat} {c : Array Value} {tk : TypeId} {fk : Nat × Nat} {v : Value} {E : Int} (h : ErV w v E) (hk : zqe w k = some (.cells c tk fk)) (hne : tk ≠ 94) (cs : Array Value) : ErV (w.setRow k cs) v E := by
 rcases h with h | ⟨h0, t, x, l, e, hc⟩
 ·exact .inl h
 ·exact .inr ⟨h0, t, x, l, e, zq1p hk hne cs hc⟩
end Go.Proofs.YtfglcifnjaknnaaGreatDoor
namespace Go.Proofs.YtfglcifnjaknnaaGreatDoor
open Go.RowKit
theorem zqgh (d : Nat) (n : Int) : (numB d n).size = d := zq5 _ _
def revL (F : Nat -> ByteArray) : Nat -> List ByteArray
 | 0 => []
 | k + 1 => F k :: revL F k
theorem zqup (F : Nat -> ByteArray) : ∀ k m, k <= m -> segN (fun j => F (m - 1 - j)) (m - k) k = revL F k
 | 0, _, _ => rfl
 | k + 1, m, h => by
  show F (m - 1 - (m - (k + 1))) :: segN _ (m - (k + 1) + 1) k = F k :: revL F k
  rw [show m - 1 - (m - (k + 1)) = k by omega, show m - (k + 1) + 1 = m - k by omega, zqup F k m (by omega)]
theorem zqlj {F G : Nat -> ByteArray} : ∀ n, (∀ i, i < n -> F i = G i) -> catS F n = catS G n
 | 0, _ => rfl
 | n + 1, h => by
  show catS F n ++ F n = catS G n ++ G n
  rw [zqlj n fun i hi => h i (by omega), h n (by omega)]
theorem zqgm (F : Nat -> ByteArray) (n : Nat) (v : Value) (w : World) (hc : Pcs w (revL F n) v) (hn : n <= 1000) (hl : (catS F n).size + n <= 140737488355328) : Calls Tryz.prog 138 #[.agg #[v]] w (Rt w (.string (catS F n))) := by
 have e : catS (fun i => F (n - 1 - (n - 1 - i))) n = catS F n := zqlj n fun i hi => by rw [show n - 1 - (n - 1 - i) = i by omega]
 have h := zqqa (fun j => F (n - 1 - j)) n v w (by have := zqup F n n (Nat.le_refl _); rw [Nat.sub_self] at this; rw [this]; exact hc) hn (by rw [e]; exact hl);rw [e] at h;exact h
theorem Pcs.put {w : World} {k : Nat} {c : Array Value} {tk : TypeId} {fk : Nat × Nat} (hk : zqe w k = some (.cells c tk fk)) (hne : tk ≠ 242) (cs : Array Value) : ∀ {l : List ByteArray} {v : Value}, Pcs w l v -> Pcs (w.setRow k cs) l v
 | [], _, h => h
 | s :: l, v, ⟨g, u, e, hg, hu⟩ => ⟨g, u, e, zqk k cs hg (fun e => by rw [e, hk] at hg; cases hg; exact hne rfl), Pcs.put hk hne cs hu⟩
theorem K32At.congr2 {w : World} {oa : Option Addr} {n : Nat} {F G : Nat -> Nat -> Int} (h : K32At w oa n F) (e : ∀ j, j < n -> ∀ i, i < 32 -> F j i = G j i) : K32At w oa n G := by
 rcases h with h | ⟨ad, ho, hl⟩
 ·exact .inl h
 ·exact .inr ⟨ad, ho, fun w' hb j hj i hi => by rw [<- e j hj i hi]; exact hl w' hb j hj i hi⟩
end Go.Proofs.YtfglcifnjaknnaaGreatDoor
namespace Go.Proofs.YtfglcifnjaknnaaGreatDoor
open Go.ChangeShapes Go.WideShapes Go.ChangeAt Go.RowKit
def IntsAt (k : IntKind) (w : World) (oa : Option Addr) (n : Nat) (F : Nat -> Int) : Prop :=
 n = 0 \/ ∃ ad : Addr, oa = some ad /\ ∀ w', Below w.heap.size w w' -> ∀ j, j < n -> w'.cell? (ad.add j) = some (.int k (F j))
theorem IntsAt.addr {k : IntKind} {w : World} {oa : Option Addr} {n : Nat} {F : Nat -> Int} (h : IntsAt k w oa n F) (hn : 0 < n) : ∃ ad, oa = some ad := by
 rcases h with h | ⟨ad, ho, _⟩
 ·omega
 ·exact ⟨ad, ho⟩
theorem IntsAt.cell {k : IntKind} {w : World} {ad : Addr} {n : Nat} {F : Nat -> Int} (h : IntsAt k w (some ad) n F) {j : Nat} (hj : j < n) {w' : World} (hb : Below w.heap.size w w') : w'.cell? (ad.add j) = some (.int k (F j)) := by
 rcases h with h | ⟨ad', ho, hl⟩
 ·omega
 ·cases ho
  exact hl w' hb j hj
end Go.Proofs.YtfglcifnjaknnaaGreatDoor
namespace Go.Proofs.YtfglcifnjaknnaaGreatDoor
open Go.RowKit Go.Extern
theorem zqfk (s : ByteArray) (i : Nat) (h : i < s.size) : ((s[i]'h).toNat : Int) = byteAt s i := zqdr s i h
attribute [local go_sem high] zqfk
end Go.Proofs.YtfglcifnjaknnaaGreatDoor
namespace Go.Proofs.YtfglcifnjaknnaaGreatDoor
open Go.RowKit Go.Extern
attribute [local irreducible] numB zqci
end Go.Proofs.YtfglcifnjaknnaaGreatDoor
