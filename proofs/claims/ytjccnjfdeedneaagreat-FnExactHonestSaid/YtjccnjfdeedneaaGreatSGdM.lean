/- A mark as a text; marks in a row. Marks in the lists of a grant: Word: written, and read back. Marks in the lists of a grant: Key: written, and read back. Marks in the lists of a grant: Int64: written, and read back. Marks in the lists of a grant: Entry: written, and read back. -/
import Derived.Test.YtjccnjfdeedneaaGreatSSpA
import Derived.Deep.LoopGhost
import Derived.IntWalk
import Derived.Test.YtjccnjfdeedneaaGreatSGdA
namespace Go.Proofs.YtjccnjfdeedneaaGreat
open Go Go.RowKit Go.Lib
set_option linter.unusedVariables false

def digF : Nat → Nat → List UInt8
 | 0, _ => []
 | f + 1, k => if k = 0 then [] else digF f (k / 10) ++ [UInt8.ofNat (48 + k % 10)]
def markT (k : Nat) : ByteArray := ⟨#[109]⟩ ++ ⟨(digF 8 k).toArray⟩
theorem mark_cons (c : UInt8) (out : List UInt8) : Value.string ((⟨#[c]⟩ : ByteArray) ++ ⟨out.toArray⟩) = .string ⟨(c :: out).toArray⟩ := by
 congr 1
def MtRel (k0 : Nat) (w : World) (f : Nat) (x o : Value) (wr : World) : Prop := ∃ (k : Nat) (out : List UInt8), x = .int .i64 k ∧ o = .string ⟨out.toArray⟩ ∧ k < 10 ^ f ∧ digF f k ++ out = digF 8 k0 ∧ out.length + f ≤ 8 ∧ Below w.heap.size w wr

set_option maxRecDepth 100000 in
theorem markText_any (k0 : Nat) (w : World) (h0 : 1 ≤ k0) (h1 : k0 < 100000000) : Calls Tryz.prog 95 #[.int .i64 (k0 : Int)] w fun e w' => e = .returned (.string (markT k0)) ∧ Below w.heap.size w w' := by
 have d0 : decide (k0 = 0) = false := decide_eq_false (by omega)
 go_enter Tryz.func95, Tryz.ntmps95
 go_wp2_with fail
 go_loopg [0, 3] 8 (MtRel k0 w)
 case atStart => exact ⟨k0, [], rfl, rfl, by omega, by simp, by simp, Below.refl _ _⟩
 case round =>
  obtain ⟨k, out, rfl, rfl, hk, he, hl, hbel⟩ := hrel
  have HE := Lib.hid he
  have HB := Lib.hid hbel
  have hz := hbel.size
  clear he hbel
  cases gk with
  | zero =>
   have hk0 : k = 0 := by simpa using hk
   subst hk0
   have HM : Hid ((⟨#[109]⟩ : ByteArray) ++ ⟨out.toArray⟩ = markT k0) := Lib.hid (by unfold markT; rw [← HE.out]; rfl)
   have hs : (⟨out.toArray⟩ : ByteArray).size ≤ 8 := by show out.length ≤ 8; omega
   go_wp2_with fail
   go_ret
   exact ⟨by rw [HM.out]; rfl, HB.out⟩
  | succ f =>
   by_cases hkz : k = 0
   ·subst hkz
    have HM : Hid ((⟨#[109]⟩ : ByteArray) ++ ⟨out.toArray⟩ = markT k0) := Lib.hid (by unfold markT; rw [← HE.out]; simp [digF])
    have hs : (⟨out.toArray⟩ : ByteArray).size ≤ 8 := by show out.length ≤ 8; omega
    go_wp2_with fail
    go_ret
    exact ⟨by rw [HM.out]; rfl, HB.out⟩
   ·have hkp : 0 < k := by omega
    have hkb : k < 10000000000 := by
     have h2 : f + 1 ≤ 8 := by omega
     have := Nat.pow_le_pow_right (n := 10) (by decide) h2
     omega
    obtain ⟨c, hc⟩ : ∃ c, c = UInt8.ofNat (48 + k % 10) := ⟨_, rfl⟩
    have HD : Hid (digF (f + 1) k = digF f (k / 10) ++ [c]) := Lib.hid (by rw [digF, if_neg hkz, hc])
    have hm0 : (0 : Int) ≤ (k : Int) := by omega
    have HR : Hid (Row (wr.alloc (.cells #[.int .u8 (48 + (k : Int) % 10)] 5)) wr.heap.size 5 (byteCells (⟨#[c]⟩ : ByteArray).data.toList ++ [])) := Lib.hid (by
     have h3 : ((UInt8.ofNat (48 + k % 10)).toNat : Int) = 48 + (k : Int) % 10 := by
      rw [UInt8.toNat_ofNat', Nat.mod_eq_of_lt (by omega)]
      omega
     have h4 : byteCells (⟨#[c]⟩ : ByteArray).data.toList ++ [] = [.int .u8 (48 + (k : Int) % 10)] := by rw [← h3, ← hc]; rfl
     rw [h4]
     exact heap_alloc_new _ _)
    clear hkz hc
    go_wp2_with (refine wpList_bytes_str rfl (.tmp 12) 233 9 5 rfl Tryz.underlying233 Tryz.underlying5 Tryz.underlying9 wr.heap.size 1 1 ⟨#[c]⟩ rfl [] HR.out rfl ?_)
    go_roundg f
    case measure => omega
    case rel => exact ⟨k / 10, c :: out, by go_num, mark_cons _ _, by rw [Nat.div_lt_iff_lt_mul (by decide), ← Nat.pow_succ]; exact hk, by rw [← HE.out, HD.out, List.append_assoc]; rfl, by rw [List.length_cons]; omega, HB.out.alloc hz _⟩

theorem growM_trans {w w1 w2 : World} {r : Option Nat} (h1 : w.grownBy w1 r) (h2 : w1.grownBy w2 r) : w.grownBy w2 r :=
 ⟨h2.os.trans h1.os, h2.tape.trans h1.tape, h2.output.trans h1.output, Nat.le_trans h1.size h2.size, fun k hk hne => (h2.block k (Nat.lt_of_lt_of_le hk h1.size) hne).trans (h1.block k hk hne)⟩
theorem growM_of_below {w w1 : World} {r : Option Nat} (h : Below w.heap.size w w1) : w.grownBy w1 r := ⟨h.os, h.tape, h.output, h.size, fun k hk _ => h.block k hk⟩
theorem growM_set {w : World} (g j : Nat) (v : Value) : w.grownBy (w.setCell ⟨g, j, none⟩ v) (some g) :=
 ⟨rfl, rfl, rfl, by simp, fun k _ hr => Below.heap_setCell w ⟨g, j, none⟩ v k (fun e => hr (by rw [e]))⟩
theorem there_belowM {w w' : World} {B b o n : Nat} (h : w.there b o n) (hb : Below B w w') (hB : b < B) : w'.there b o n := fun j hj => by
 obtain ⟨h1, h2⟩ := h j hj
 exact ⟨by rw [hb.cell (p := ⟨b, o + j, none⟩) hB]; exact h1, by rw [hb.frozen (p := ⟨b, o + j, none⟩) hB]; exact h2⟩
/-- n things of marks, K cells each, from the number k0 on. -/
def mkL (c : Nat → List Value) (K k0 : Nat) : Nat → List Value
 | 0 => []
 | n + 1 => mkL c K k0 n ++ c (k0 + K * n)
theorem mkL_len {c : Nat → List Value} {K k0 : Nat} (hc : ∀ m, (c m).length = K) : ∀ n, (mkL c K k0 n).length = n * K
 | 0 => by simp [mkL]
 | n + 1 => by rw [mkL, List.length_append, mkL_len hc n, hc, Nat.add_mul, Nat.one_mul]
theorem mkL_get {c : Nat → List Value} {K k0 : Nat} (hc : ∀ m, (c m).length = K) : ∀ n i j v, i < n → (c (k0 + K * i))[j]? = some v → (mkL c K k0 n)[i * K + j]? = some v
 | 0, i, j, v, hi, _ => by omega
 | n + 1, i, j, v, hi, hv => by
  have hj : j < K := by have := (List.getElem?_eq_some_iff.1 hv).1; rw [hc] at this; exact this
  rw [mkL]
  by_cases h : i < n
  ·rw [List.getElem?_append_left (by rw [mkL_len hc]; have := Nat.mul_le_mul_right K h; rw [Nat.succ_mul] at this; omega)]
   exact mkL_get hc n i j v h hv
  ·obtain rfl : i = n := by omega
   rw [List.getElem?_append_right (by rw [mkL_len hc]; omega), mkL_len hc]
   rw [show i * K + j - i * K = j by omega]
   exact hv
theorem mkL_snoc {w : World} {g K k0 k : Nat} {c : Nat → List Value} (hc : ∀ m, (c m).length = K) (h : w.rangeAt g 0 (mkL c K k0 k)) (h1 : ∀ j v, (c (k0 + K * k))[j]? = some v → w.cell? ⟨g, k * K + j, none⟩ = some v) : w.rangeAt g 0 (mkL c K k0 (k + 1)) := by
 intro j v hv
 rw [mkL] at hv
 by_cases hj : j < (mkL c K k0 k).length
 ·rw [List.getElem?_append_left hj] at hv
  exact h j v hv
 ·rw [List.getElem?_append_right (by omega)] at hv
  have h2 := h1 _ v hv
  rw [mkL_len hc] at h2 hj
  rw [show 0 + j = k * K + (j - k * K) by omega]
  exact h2
theorem range_belowM {w w' : World} {g B : Nat} {L : List Value} (h : w.rangeAt g 0 L) (hb : Below B w w') (hB : g < B) : w'.rangeAt g 0 L := fun j v hv => (hb.cell (p := ⟨g, 0 + j, none⟩) hB).trans (h j v hv)
theorem sizeM (g : Nat) : ∀ (vs : List Value) (o : Nat) (w : World), (w.setCells g o vs).heap.size = w.heap.size
 | [], _, _ => rfl
 | v :: r, o, w => (sizeM g r (o + 1) (w.setCell ⟨g, o, none⟩ v)).trans (by simp)
theorem growM_sets (g : Nat) : ∀ (o : Nat) (vs : List Value) (w : World), w.grownBy (w.setCells g o vs) (some g)
 | _, [], w => World.grownBy.refl _ _
 | o, v :: r, w => growM_trans (growM_set g o v) (growM_sets g (o + 1) r (w.setCell ⟨g, o, none⟩ v))
theorem snocM {w : World} {g T : Nat} {L vs : List Value} (h : w.rangeAt g 0 L) (ht : w.there g 0 T) (hT : L.length + vs.length ≤ T) : (w.setCells g L.length vs).rangeAt g 0 (L ++ vs) ∧ (w.setCells g L.length vs).there g 0 T := by
 have h1 : (w.setCells g L.length vs).rangeAt g 0 L := World.rangeAt_setCells_apart h g L.length vs (.inr (.inl (by omega)))
 have h2 : (w.setCells g L.length vs).rangeAt g L.length vs := World.rangeAt_setCells_same w g L.length vs (fun j hj => by
  have := ht (L.length + j) (by omega)
  rwa [Nat.zero_add] at this)
 refine ⟨fun j v hv => ?_, World.there_setCells ht g L.length vs⟩
 by_cases hj : j < L.length
 ·rw [List.getElem?_append_left hj] at hv
  exact h1 j v hv
 ·rw [List.getElem?_append_right (by omega)] at hv
  have h3 := h2 _ v hv
  rw [show 0 + j = L.length + (j - L.length) by omega]
  exact h3
end Go.Proofs.YtjccnjfdeedneaaGreat
/- Marks in the lists of a grant: Word: written, and read back. -/
namespace Go.Proofs.YtjccnjfdeedneaaGreat
open Go Go.RowKit Go.Lib
set_option linter.unusedVariables false
set_option maxRecDepth 100000

def wmC (m : Nat) : List Value := [.int .i64 ((m : Int)), .int .i64 ((m : Int) + 1), .string (markT (m + 2)), .int .i64 ((m : Int) + 1 + 1 + 1), .bool (Int.tmod ((m : Int) + 1 + 1 + 1 + 1) 3 == 0)]
theorem wmC_len (m : Nat) : (wmC m).length = 5 := rfl
def MkWordRel (g n k0 : Nat) (w : World) (x i : Value) (wr : World) : Prop := ∃ k : Nat, k ≤ n ∧ i = .int .i64 k ∧ x = .int .i64 ((k0 + 5 * k : Nat) : Int) ∧ wr.rangeAt g 0 (mkL wmC 5 k0 k) ∧ wr.there g 0 (n * 5) ∧ w.grownBy wr (some g)
def MkWordOut (g n k0 : Nat) (w : World) (e : Ending) (w' : World) : Prop := e = .returned (.int .i64 ((k0 + 5 * n : Nat) : Int)) ∧ w'.rangeAt g 0 (mkL wmC 5 k0 n) ∧ w.grownBy w' (some g)
set_option maxHeartbeats 2000000 in
theorem markWord_some (g n cap k0 : Nat) (w : World) (hk0 : 1 ≤ k0) (hk : k0 + 5 * n < 100000000) (ht : w.there g 0 (n * 5)) (hgl : g < w.heap.size) : Calls Tryz.prog 56 #[.slice (some ⟨g, 0, none⟩) n cap, .int .i64 (k0 : Int)] w (MkWordOut g n k0 w) := by
 have HT := Lib.hid ht
 clear ht
 go_enter Tryz.func56, Tryz.ntmps56
 go_wp2_with fail
 go_loopw [1, 5] (MkWordRel g n k0 w) (fun _ i _ => n - (RowKit.intOf i).toNat)
 case atStart => exact ⟨0, by omega, rfl, rfl, fun j v hv => by simp [mkL] at hv, HT.out, World.grownBy.refl _ _⟩
 case round =>
  obtain ⟨k, hkn, rfl, rfl, hpa, hth, hgr⟩ := hrel
  have HPA := Lib.hid hpa
  have HTh := Lib.hid hth
  have HG := Lib.hid hgr
  have hz := hgr.size
  clear hpa hth hgr
  by_cases hlt : k < n
  ·obtain ⟨m, hm⟩ : ∃ m, m = k0 + 5 * k := ⟨_, rfl⟩
   have hkk : m + 5 < 100000000 := by omega
   have hk1 : 1 ≤ m := by omega
   have hln : (mkL wmC 5 k0 k).length = k * 5 := mkL_len wmC_len k
   have HNx : Hid (mkL wmC 5 k0 (k + 1) = mkL wmC 5 k0 k ++ wmC m) := Lib.hid (by rw [mkL, hm])
   have HEq : Hid (((k0 + 5 * (k + 1) : Nat) : Int) = (m : Int) + 1 + 1 + 1 + 1 + 1) := Lib.hid (by omega)
   rw [← hm]
   have HM := Lib.hid hm
   have HLn := Lib.hid hln
   clear hm hln
   have hgr' : g < wr.heap.size := by omega
   obtain ⟨v0, c0⟩ := Option.isSome_iff_exists.1 (HTh.out (k * 5) (by omega)).1
   have f0 := (HTh.out (k * 5) (by omega)).2
   rw [Nat.zero_add] at c0 f0
   obtain ⟨v1, c1⟩ := Option.isSome_iff_exists.1 (HTh.out (k * 5 + 1) (by omega)).1
   have f1 := (HTh.out (k * 5 + 1) (by omega)).2
   rw [Nat.zero_add] at c1 f1
   have hs := snocM (vs := [.int .i64 ((m : Int)), .int .i64 ((m : Int) + 1)]) HPA.out HTh.out (by rw [HLn.out]; show _ + 2 ≤ _; omega)
   rw [HLn.out] at hs
   have HR1 := Lib.hid hs.1
   have HT1 := Lib.hid hs.2
   have HG1 := Lib.hid (growM_trans HG.out (growM_sets g (k * 5) [.int .i64 ((m : Int)), .int .i64 ((m : Int) + 1)] wr))
   have hzX : (wr.setCells g (k * 5) [.int .i64 ((m : Int)), .int .i64 ((m : Int) + 1)]).heap.size = wr.heap.size := sizeM g _ (k * 5) wr
   clear hs
   go_wp2_with fail
   refine (markText_any (m + 2) _ (by omega) (by omega)).mono ?_
   rintro e w1 ⟨rfl, hb1'⟩
   have hb1 : Below (wr.setCells g (k * 5) [.int .i64 ((m : Int)), .int .i64 ((m : Int) + 1)]).heap.size (wr.setCells g (k * 5) [.int .i64 ((m : Int)), .int .i64 ((m : Int) + 1)]) w1 := hb1'
   have hgX : g < (wr.setCells g (k * 5) [.int .i64 ((m : Int)), .int .i64 ((m : Int) + 1)]).heap.size := by omega
   have HR2 := Lib.hid (range_belowM HR1.out hb1 hgX)
   have HT2 := Lib.hid (there_belowM HT1.out hb1 hgX)
   have HG2 := Lib.hid (growM_trans HG1.out (growM_of_below hb1))
   have hz1 := hb1.size
   clear hb1 hb1' c0 f0 c1 f1
   obtain ⟨v2, c2⟩ := Option.isSome_iff_exists.1 (HT2.out (k * 5 + 2) (by omega)).1
   have f2 := (HT2.out (k * 5 + 2) (by omega)).2
   rw [Nat.zero_add] at c2 f2
   obtain ⟨v3, c3⟩ := Option.isSome_iff_exists.1 (HT2.out (k * 5 + 3) (by omega)).1
   have f3 := (HT2.out (k * 5 + 3) (by omega)).2
   rw [Nat.zero_add] at c3 f3
   obtain ⟨v4, c4⟩ := Option.isSome_iff_exists.1 (HT2.out (k * 5 + 4) (by omega)).1
   have f4 := (HT2.out (k * 5 + 4) (by omega)).2
   rw [Nat.zero_add] at c4 f4
   have hs := snocM (vs := [.string (markT (m + 2)), .int .i64 ((m : Int) + 1 + 1 + 1), .bool (Int.tmod ((m : Int) + 1 + 1 + 1 + 1) 3 == 0)]) HR2.out HT2.out (by rw [List.length_append, HLn.out]; show _ + 2 + 3 ≤ _; omega)
   rw [List.length_append, HLn.out] at hs
   have HR3 := Lib.hid hs.1
   have HT3 := Lib.hid hs.2
   have HG3 := Lib.hid (growM_trans HG2.out (growM_sets g (k * 5 + 2) [.string (markT (m + 2)), .int .i64 ((m : Int) + 1 + 1 + 1), .bool (Int.tmod ((m : Int) + 1 + 1 + 1 + 1) 3 == 0)] w1))
   clear hs
   go_wp2_with fail
   go_roundw
   case rel => exact ⟨k + 1, by omega, by go_num, by rw [HEq.out], by rw [HNx.out, show wmC m = [.int .i64 ((m : Int)), .int .i64 ((m : Int) + 1)] ++ [.string (markT (m + 2)), .int .i64 ((m : Int) + 1 + 1 + 1), .bool (Int.tmod ((m : Int) + 1 + 1 + 1 + 1) 3 == 0)] from rfl, ← List.append_assoc]; exact HR3.out, HT3.out, HG3.out⟩
   case measure => simp [RowKit.intOf]; omega
  ·obtain rfl : k = n := by omega
   go_wp2_with fail
   go_ret
   exact ⟨rfl, HPA.out, HG.out⟩
theorem markWord_nil (p : Option Addr) (cap k0 : Nat) (w : World) (hk : k0 < 100000000) : Calls Tryz.prog 56 #[.slice p 0 cap, .int .i64 (k0 : Int)] w fun e w' => e = .returned (.int .i64 (k0 : Int)) ∧ w' = w := by
 go_enter Tryz.func56, Tryz.ntmps56
 go_wp2_with fail
 go_loopw [1, 5] (fun x i wr => x = .int .i64 (k0 : Int) ∧ i = .int .i64 0 ∧ wr = w) (fun _ _ _ => 0)
 case atStart => exact ⟨rfl, rfl, rfl⟩
 case round =>
  obtain ⟨rfl, rfl, rfl⟩ := hrel
  go_wp2_with fail
  go_ret
  exact ⟨rfl, rfl⟩
def HeWordRel (n k0 : Nat) (w : World) (x i : Value) (wr : World) : Prop := ∃ k : Nat, k ≤ n ∧ i = .int .i64 k ∧ x = .int .i64 ((k0 + 5 * k : Nat) : Int) ∧ Below w.heap.size w wr
set_option maxHeartbeats 2000000 in
theorem heldWord_some (g n cap k0 : Nat) (w : World) (hk0 : 1 ≤ k0) (hk : k0 + 5 * n < 100000000) (hp : w.rangeAt g 0 (mkL wmC 5 k0 n)) (hgl : g < w.heap.size) : Calls Tryz.prog 122 #[.slice (some ⟨g, 0, none⟩) n cap, .int .i64 (k0 : Int)] w (Ret (.int .i64 ((k0 + 5 * n : Nat) : Int)) w) := by
 have HP := Lib.hid hp
 clear hp
 go_enter Tryz.func122, Tryz.ntmps122
 go_wp2_with fail
 go_loopw [1, 5] (HeWordRel n k0 w) (fun _ i _ => n - (RowKit.intOf i).toNat)
 case atStart => exact ⟨0, by omega, rfl, rfl, Below.refl _ _⟩
 case round =>
  obtain ⟨k, hkn, rfl, rfl, hbel⟩ := hrel
  have HB := Lib.hid hbel
  have hz := hbel.size
  by_cases hlt : k < n
  ·obtain ⟨m, hm⟩ : ∃ m, m = k0 + 5 * k := ⟨_, rfl⟩
   have hkk : m + 5 < 100000000 := by omega
   have hk1 : 1 ≤ m := by omega
   have hrow : ∀ j v, (wmC m)[j]? = some v → wr.cell? ⟨g, k * 5 + j, none⟩ = some v := fun j v hv => by
    have h := HP.out _ v (mkL_get wmC_len n k j v hlt (by rw [← hm]; exact hv))
    rw [Nat.zero_add] at h
    exact (hbel.cell (p := ⟨g, k * 5 + j, none⟩) hgl).trans h
   have HEq : Hid (((k0 + 5 * (k + 1) : Nat) : Int) = (m : Int) + 1 + 1 + 1 + 1 + 1) := Lib.hid (by omega)
   have hgr : g < wr.heap.size := by omega
   have c0 : wr.cell? ⟨g, k * 5, none⟩ = some (.int .i64 ((m : Int))) := hrow 0 _ rfl
   have c1 : wr.cell? ⟨g, k * 5 + 1, none⟩ = some (.int .i64 ((m : Int) + 1)) := hrow 1 _ rfl
   have c2 : wr.cell? ⟨g, k * 5 + 2, none⟩ = some (.string (markT (m + 2))) := hrow 2 _ rfl
   have c3 : wr.cell? ⟨g, k * 5 + 3, none⟩ = some (.int .i64 ((m : Int) + 1 + 1 + 1)) := hrow 3 _ rfl
   have c4 : wr.cell? ⟨g, k * 5 + 4, none⟩ = some (.bool (Int.tmod ((m : Int) + 1 + 1 + 1 + 1) 3 == 0)) := hrow 4 _ rfl
   rw [← hm]
   clear hm hrow hbel
   have e0 : ((markT (m + 2)).toList == (markT (m + 2)).toList) = true := beq_self_eq_true _
   have C3 := Lib.hid c3
   have C4 := Lib.hid c4
   have u2 : ∀ u : Ext wr, u.w.cell? ⟨g, k * 5 + 2, none⟩ = some (.string (markT (m + 2))) := fun u => u.cell c2
   clear c2 c3 c4
   go_wp2_with fail
   refine ext_region wr (by kernel_rfl) (by kernel_rfl) (Below.refl _ _) ?_
   repeat (go_big_quiet_step ((go_at_call 95; exact calls_ext (markText_any (m + 2) _ (by omega) (by omega)))))
   refine wpQuiet_nil ?_
   intro w2 hb2
   have c3 := (hb2.cell (p := ⟨g, k * 5 + 3, none⟩) hgr).trans C3.out
   have c4 := (hb2.cell (p := ⟨g, k * 5 + 4, none⟩) hgr).trans C4.out
   have HB2 := Lib.hid (HB.out.trans (hb2.mono hz))
   clear hb2 u2
   go_wp2_with fail
   go_roundw
   case rel => exact ⟨k + 1, by omega, by go_num, by rw [HEq.out], HB2.out⟩
   case measure => simp [RowKit.intOf]; omega
  ·obtain rfl : k = n := by omega
   go_wp2_with fail
   go_ret
   exact ⟨rfl, HB.out⟩
theorem heldWord_nil (p : Option Addr) (cap k0 : Nat) (w : World) (hk : k0 < 100000000) : Calls Tryz.prog 122 #[.slice p 0 cap, .int .i64 (k0 : Int)] w fun e w' => e = .returned (.int .i64 (k0 : Int)) ∧ w' = w := by
 go_enter Tryz.func122, Tryz.ntmps122
 go_wp2_with fail
 go_loopw [1, 5] (fun x i wr => x = .int .i64 (k0 : Int) ∧ i = .int .i64 0 ∧ wr = w) (fun _ _ _ => 0)
 case atStart => exact ⟨rfl, rfl, rfl⟩
 case round =>
  obtain ⟨rfl, rfl, rfl⟩ := hrel
  go_wp2_with fail
  go_ret
  exact ⟨rfl, rfl⟩
end Go.Proofs.YtjccnjfdeedneaaGreat
/- Marks in the lists of a grant: Key: written, and read back. -/
namespace Go.Proofs.YtjccnjfdeedneaaGreat
open Go Go.RowKit Go.Lib
set_option linter.unusedVariables false
set_option maxRecDepth 100000

def kmC (m : Nat) : List Value := [.int .i64 ((m : Int)), .int .i64 ((m : Int) + 1), .int .i64 ((m : Int) + 1 + 1), .bool (Int.tmod ((m : Int) + 1 + 1 + 1) 3 == 0), .int .i64 ((m : Int) + 1 + 1 + 1 + 1), .int .i64 ((m : Int) + 1 + 1 + 1 + 1 + 1)]
theorem kmC_len (m : Nat) : (kmC m).length = 6 := rfl
def MkKeyRel (g n k0 : Nat) (w : World) (x i : Value) (wr : World) : Prop := ∃ k : Nat, k ≤ n ∧ i = .int .i64 k ∧ x = .int .i64 ((k0 + 6 * k : Nat) : Int) ∧ wr.rangeAt g 0 (mkL kmC 6 k0 k) ∧ wr.there g 0 (n * 6) ∧ w.grownBy wr (some g)
def MkKeyOut (g n k0 : Nat) (w : World) (e : Ending) (w' : World) : Prop := e = .returned (.int .i64 ((k0 + 6 * n : Nat) : Int)) ∧ w'.rangeAt g 0 (mkL kmC 6 k0 n) ∧ w.grownBy w' (some g)
set_option maxHeartbeats 2000000 in
theorem markKey_some (g n cap k0 : Nat) (w : World) (hk0 : 1 ≤ k0) (hk : k0 + 6 * n < 100000000) (ht : w.there g 0 (n * 6)) (hgl : g < w.heap.size) : Calls Tryz.prog 57 #[.slice (some ⟨g, 0, none⟩) n cap, .int .i64 (k0 : Int)] w (MkKeyOut g n k0 w) := by
 have HT := Lib.hid ht
 clear ht
 go_enter Tryz.func57, Tryz.ntmps57
 go_wp2_with fail
 go_loopw [1, 5] (MkKeyRel g n k0 w) (fun _ i _ => n - (RowKit.intOf i).toNat)
 case atStart => exact ⟨0, by omega, rfl, rfl, fun j v hv => by simp [mkL] at hv, HT.out, World.grownBy.refl _ _⟩
 case round =>
  obtain ⟨k, hkn, rfl, rfl, hpa, hth, hgr⟩ := hrel
  have HPA := Lib.hid hpa
  have HTh := Lib.hid hth
  have HG := Lib.hid hgr
  have hz := hgr.size
  clear hpa hth hgr
  by_cases hlt : k < n
  ·obtain ⟨m, hm⟩ : ∃ m, m = k0 + 6 * k := ⟨_, rfl⟩
   have hkk : m + 6 < 100000000 := by omega
   have hk1 : 1 ≤ m := by omega
   have hln : (mkL kmC 6 k0 k).length = k * 6 := mkL_len kmC_len k
   have HNx : Hid (mkL kmC 6 k0 (k + 1) = mkL kmC 6 k0 k ++ kmC m) := Lib.hid (by rw [mkL, hm])
   have HEq : Hid (((k0 + 6 * (k + 1) : Nat) : Int) = (m : Int) + 1 + 1 + 1 + 1 + 1 + 1) := Lib.hid (by omega)
   rw [← hm]
   have HM := Lib.hid hm
   have HLn := Lib.hid hln
   clear hm hln
   have hgr' : g < wr.heap.size := by omega
   obtain ⟨v0, c0⟩ := Option.isSome_iff_exists.1 (HTh.out (k * 6) (by omega)).1
   have f0 := (HTh.out (k * 6) (by omega)).2
   rw [Nat.zero_add] at c0 f0
   obtain ⟨v1, c1⟩ := Option.isSome_iff_exists.1 (HTh.out (k * 6 + 1) (by omega)).1
   have f1 := (HTh.out (k * 6 + 1) (by omega)).2
   rw [Nat.zero_add] at c1 f1
   obtain ⟨v2, c2⟩ := Option.isSome_iff_exists.1 (HTh.out (k * 6 + 2) (by omega)).1
   have f2 := (HTh.out (k * 6 + 2) (by omega)).2
   rw [Nat.zero_add] at c2 f2
   obtain ⟨v3, c3⟩ := Option.isSome_iff_exists.1 (HTh.out (k * 6 + 3) (by omega)).1
   have f3 := (HTh.out (k * 6 + 3) (by omega)).2
   rw [Nat.zero_add] at c3 f3
   obtain ⟨v4, c4⟩ := Option.isSome_iff_exists.1 (HTh.out (k * 6 + 4) (by omega)).1
   have f4 := (HTh.out (k * 6 + 4) (by omega)).2
   rw [Nat.zero_add] at c4 f4
   obtain ⟨v5, c5⟩ := Option.isSome_iff_exists.1 (HTh.out (k * 6 + 5) (by omega)).1
   have f5 := (HTh.out (k * 6 + 5) (by omega)).2
   rw [Nat.zero_add] at c5 f5
   have hs := snocM (vs := kmC m) HPA.out HTh.out (by rw [HLn.out, kmC_len]; omega)
   rw [HLn.out] at hs
   have HR1 := Lib.hid hs.1
   have HT1 := Lib.hid hs.2
   have HG1 := Lib.hid (growM_trans HG.out (growM_sets g (k * 6) (kmC m) wr))
   clear hs
   go_wp2_with fail
   go_roundw
   case rel => exact ⟨k + 1, by omega, by go_num, by rw [HEq.out], by rw [HNx.out]; exact HR1.out, HT1.out, HG1.out⟩
   case measure => simp [RowKit.intOf]; omega
  ·obtain rfl : k = n := by omega
   go_wp2_with fail
   go_ret
   exact ⟨rfl, HPA.out, HG.out⟩
theorem markKey_nil (p : Option Addr) (cap k0 : Nat) (w : World) (hk : k0 < 100000000) : Calls Tryz.prog 57 #[.slice p 0 cap, .int .i64 (k0 : Int)] w fun e w' => e = .returned (.int .i64 (k0 : Int)) ∧ w' = w := by
 go_enter Tryz.func57, Tryz.ntmps57
 go_wp2_with fail
 go_loopw [1, 5] (fun x i wr => x = .int .i64 (k0 : Int) ∧ i = .int .i64 0 ∧ wr = w) (fun _ _ _ => 0)
 case atStart => exact ⟨rfl, rfl, rfl⟩
 case round =>
  obtain ⟨rfl, rfl, rfl⟩ := hrel
  go_wp2_with fail
  go_ret
  exact ⟨rfl, rfl⟩
def HeKeyRel (n k0 : Nat) (w : World) (x i : Value) (wr : World) : Prop := ∃ k : Nat, k ≤ n ∧ i = .int .i64 k ∧ x = .int .i64 ((k0 + 6 * k : Nat) : Int) ∧ Below w.heap.size w wr
set_option maxHeartbeats 2000000 in
theorem heldKey_some (g n cap k0 : Nat) (w : World) (hk0 : 1 ≤ k0) (hk : k0 + 6 * n < 100000000) (hp : w.rangeAt g 0 (mkL kmC 6 k0 n)) (hgl : g < w.heap.size) : Calls Tryz.prog 123 #[.slice (some ⟨g, 0, none⟩) n cap, .int .i64 (k0 : Int)] w (Ret (.int .i64 ((k0 + 6 * n : Nat) : Int)) w) := by
 have HP := Lib.hid hp
 clear hp
 go_enter Tryz.func123, Tryz.ntmps123
 go_wp2_with fail
 go_loopw [1, 5] (HeKeyRel n k0 w) (fun _ i _ => n - (RowKit.intOf i).toNat)
 case atStart => exact ⟨0, by omega, rfl, rfl, Below.refl _ _⟩
 case round =>
  obtain ⟨k, hkn, rfl, rfl, hbel⟩ := hrel
  have HB := Lib.hid hbel
  have hz := hbel.size
  by_cases hlt : k < n
  ·obtain ⟨m, hm⟩ : ∃ m, m = k0 + 6 * k := ⟨_, rfl⟩
   have hkk : m + 6 < 100000000 := by omega
   have hk1 : 1 ≤ m := by omega
   have hrow : ∀ j v, (kmC m)[j]? = some v → wr.cell? ⟨g, k * 6 + j, none⟩ = some v := fun j v hv => by
    have h := HP.out _ v (mkL_get kmC_len n k j v hlt (by rw [← hm]; exact hv))
    rw [Nat.zero_add] at h
    exact (hbel.cell (p := ⟨g, k * 6 + j, none⟩) hgl).trans h
   have HEq : Hid (((k0 + 6 * (k + 1) : Nat) : Int) = (m : Int) + 1 + 1 + 1 + 1 + 1 + 1) := Lib.hid (by omega)
   have hgr : g < wr.heap.size := by omega
   have c0 : wr.cell? ⟨g, k * 6, none⟩ = some (.int .i64 ((m : Int))) := hrow 0 _ rfl
   have c1 : wr.cell? ⟨g, k * 6 + 1, none⟩ = some (.int .i64 ((m : Int) + 1)) := hrow 1 _ rfl
   have c2 : wr.cell? ⟨g, k * 6 + 2, none⟩ = some (.int .i64 ((m : Int) + 1 + 1)) := hrow 2 _ rfl
   have c3 : wr.cell? ⟨g, k * 6 + 3, none⟩ = some (.bool (Int.tmod ((m : Int) + 1 + 1 + 1) 3 == 0)) := hrow 3 _ rfl
   have c4 : wr.cell? ⟨g, k * 6 + 4, none⟩ = some (.int .i64 ((m : Int) + 1 + 1 + 1 + 1)) := hrow 4 _ rfl
   have c5 : wr.cell? ⟨g, k * 6 + 5, none⟩ = some (.int .i64 ((m : Int) + 1 + 1 + 1 + 1 + 1)) := hrow 5 _ rfl
   rw [← hm]
   clear hm hrow hbel
   go_wp2_with fail
   go_roundw
   case rel => exact ⟨k + 1, by omega, by go_num, by rw [HEq.out], HB.out⟩
   case measure => simp [RowKit.intOf]; omega
  ·obtain rfl : k = n := by omega
   go_wp2_with fail
   go_ret
   exact ⟨rfl, HB.out⟩
theorem heldKey_nil (p : Option Addr) (cap k0 : Nat) (w : World) (hk : k0 < 100000000) : Calls Tryz.prog 123 #[.slice p 0 cap, .int .i64 (k0 : Int)] w fun e w' => e = .returned (.int .i64 (k0 : Int)) ∧ w' = w := by
 go_enter Tryz.func123, Tryz.ntmps123
 go_wp2_with fail
 go_loopw [1, 5] (fun x i wr => x = .int .i64 (k0 : Int) ∧ i = .int .i64 0 ∧ wr = w) (fun _ _ _ => 0)
 case atStart => exact ⟨rfl, rfl, rfl⟩
 case round =>
  obtain ⟨rfl, rfl, rfl⟩ := hrel
  go_wp2_with fail
  go_ret
  exact ⟨rfl, rfl⟩
end Go.Proofs.YtjccnjfdeedneaaGreat
/- Marks in the lists of a grant: Int64: written, and read back. -/
namespace Go.Proofs.YtjccnjfdeedneaaGreat
open Go Go.RowKit Go.Lib
set_option linter.unusedVariables false
set_option maxRecDepth 100000

def imC (m : Nat) : List Value := [.int .i64 ((m : Int))]
theorem imC_len (m : Nat) : (imC m).length = 1 := rfl
def MkInt64Rel (g n k0 : Nat) (w : World) (x i : Value) (wr : World) : Prop := ∃ k : Nat, k ≤ n ∧ i = .int .i64 k ∧ x = .int .i64 ((k0 + 1 * k : Nat) : Int) ∧ wr.rangeAt g 0 (mkL imC 1 k0 k) ∧ wr.there g 0 (n * 1) ∧ w.grownBy wr (some g)
def MkInt64Out (g n k0 : Nat) (w : World) (e : Ending) (w' : World) : Prop := e = .returned (.int .i64 ((k0 + 1 * n : Nat) : Int)) ∧ w'.rangeAt g 0 (mkL imC 1 k0 n) ∧ w.grownBy w' (some g)
set_option maxHeartbeats 2000000 in
theorem markInt64_some (g n cap k0 : Nat) (w : World) (hk0 : 1 ≤ k0) (hk : k0 + 1 * n < 100000000) (ht : w.there g 0 (n * 1)) (hgl : g < w.heap.size) : Calls Tryz.prog 58 #[.slice (some ⟨g, 0, none⟩) n cap, .int .i64 (k0 : Int)] w (MkInt64Out g n k0 w) := by
 have HT := Lib.hid ht
 clear ht
 go_enter Tryz.func58, Tryz.ntmps58
 go_wp2_with fail
 go_loopw [1, 5] (MkInt64Rel g n k0 w) (fun _ i _ => n - (RowKit.intOf i).toNat)
 case atStart => exact ⟨0, by omega, rfl, rfl, fun j v hv => by simp [mkL] at hv, HT.out, World.grownBy.refl _ _⟩
 case round =>
  obtain ⟨k, hkn, rfl, rfl, hpa, hth, hgr⟩ := hrel
  have HPA := Lib.hid hpa
  have HTh := Lib.hid hth
  have HG := Lib.hid hgr
  have hz := hgr.size
  clear hpa hth hgr
  by_cases hlt : k < n
  ·obtain ⟨m, hm⟩ : ∃ m, m = k0 + 1 * k := ⟨_, rfl⟩
   have hkk : m + 1 < 100000000 := by omega
   have hk1 : 1 ≤ m := by omega
   have hln : (mkL imC 1 k0 k).length = k * 1 := mkL_len imC_len k
   have HNx : Hid (mkL imC 1 k0 (k + 1) = mkL imC 1 k0 k ++ imC m) := Lib.hid (by rw [mkL, hm])
   have HEq : Hid (((k0 + 1 * (k + 1) : Nat) : Int) = (m : Int) + 1) := Lib.hid (by omega)
   rw [← hm]
   have HM := Lib.hid hm
   have HLn := Lib.hid hln
   clear hm hln
   have hgr' : g < wr.heap.size := by omega
   obtain ⟨v0, c0⟩ := Option.isSome_iff_exists.1 (HTh.out (k * 1) (by omega)).1
   have f0 := (HTh.out (k * 1) (by omega)).2
   rw [Nat.zero_add] at c0 f0
   rw [Nat.mul_one] at c0 f0
   have hs := snocM (vs := imC m) HPA.out HTh.out (by rw [HLn.out, imC_len]; omega)
   rw [HLn.out] at hs
   have HR1 := Lib.hid hs.1
   have HT1 := Lib.hid hs.2
   have HG1 := Lib.hid (growM_trans HG.out (growM_sets g (k * 1) (imC m) wr))
   clear hs
   rw [Nat.mul_one] at HR1 HT1 HG1
   go_wp2_with fail
   go_roundw
   case rel => exact ⟨k + 1, by omega, by go_num, by rw [HEq.out], by rw [HNx.out]; exact HR1.out, HT1.out, HG1.out⟩
   case measure => simp [RowKit.intOf]; omega
  ·obtain rfl : k = n := by omega
   go_wp2_with fail
   go_ret
   exact ⟨rfl, HPA.out, HG.out⟩
theorem markInt64_nil (p : Option Addr) (cap k0 : Nat) (w : World) (hk : k0 < 100000000) : Calls Tryz.prog 58 #[.slice p 0 cap, .int .i64 (k0 : Int)] w fun e w' => e = .returned (.int .i64 (k0 : Int)) ∧ w' = w := by
 go_enter Tryz.func58, Tryz.ntmps58
 go_wp2_with fail
 go_loopw [1, 5] (fun x i wr => x = .int .i64 (k0 : Int) ∧ i = .int .i64 0 ∧ wr = w) (fun _ _ _ => 0)
 case atStart => exact ⟨rfl, rfl, rfl⟩
 case round =>
  obtain ⟨rfl, rfl, rfl⟩ := hrel
  go_wp2_with fail
  go_ret
  exact ⟨rfl, rfl⟩
def HeInt64Rel (n k0 : Nat) (w : World) (x i : Value) (wr : World) : Prop := ∃ k : Nat, k ≤ n ∧ i = .int .i64 k ∧ x = .int .i64 ((k0 + 1 * k : Nat) : Int) ∧ Below w.heap.size w wr
set_option maxHeartbeats 2000000 in
theorem heldInt64_some (g n cap k0 : Nat) (w : World) (hk0 : 1 ≤ k0) (hk : k0 + 1 * n < 100000000) (hp : w.rangeAt g 0 (mkL imC 1 k0 n)) (hgl : g < w.heap.size) : Calls Tryz.prog 124 #[.slice (some ⟨g, 0, none⟩) n cap, .int .i64 (k0 : Int)] w (Ret (.int .i64 ((k0 + 1 * n : Nat) : Int)) w) := by
 have HP := Lib.hid hp
 clear hp
 go_enter Tryz.func124, Tryz.ntmps124
 go_wp2_with fail
 go_loopw [1, 5] (HeInt64Rel n k0 w) (fun _ i _ => n - (RowKit.intOf i).toNat)
 case atStart => exact ⟨0, by omega, rfl, rfl, Below.refl _ _⟩
 case round =>
  obtain ⟨k, hkn, rfl, rfl, hbel⟩ := hrel
  have HB := Lib.hid hbel
  have hz := hbel.size
  by_cases hlt : k < n
  ·obtain ⟨m, hm⟩ : ∃ m, m = k0 + 1 * k := ⟨_, rfl⟩
   have hkk : m + 1 < 100000000 := by omega
   have hk1 : 1 ≤ m := by omega
   have hrow : ∀ j v, (imC m)[j]? = some v → wr.cell? ⟨g, k * 1 + j, none⟩ = some v := fun j v hv => by
    have h := HP.out _ v (mkL_get imC_len n k j v hlt (by rw [← hm]; exact hv))
    rw [Nat.zero_add] at h
    exact (hbel.cell (p := ⟨g, k * 1 + j, none⟩) hgl).trans h
   have HEq : Hid (((k0 + 1 * (k + 1) : Nat) : Int) = (m : Int) + 1) := Lib.hid (by omega)
   have hgr : g < wr.heap.size := by omega
   have c0 : wr.cell? ⟨g, k * 1, none⟩ = some (.int .i64 ((m : Int))) := hrow 0 _ rfl
   rw [Nat.mul_one] at c0
   rw [← hm]
   clear hm hrow hbel
   go_wp2_with fail
   go_roundw
   case rel => exact ⟨k + 1, by omega, by go_num, by rw [HEq.out], HB.out⟩
   case measure => simp [RowKit.intOf]; omega
  ·obtain rfl : k = n := by omega
   go_wp2_with fail
   go_ret
   exact ⟨rfl, HB.out⟩
theorem heldInt64_nil (p : Option Addr) (cap k0 : Nat) (w : World) (hk : k0 < 100000000) : Calls Tryz.prog 124 #[.slice p 0 cap, .int .i64 (k0 : Int)] w fun e w' => e = .returned (.int .i64 (k0 : Int)) ∧ w' = w := by
 go_enter Tryz.func124, Tryz.ntmps124
 go_wp2_with fail
 go_loopw [1, 5] (fun x i wr => x = .int .i64 (k0 : Int) ∧ i = .int .i64 0 ∧ wr = w) (fun _ _ _ => 0)
 case atStart => exact ⟨rfl, rfl, rfl⟩
 case round =>
  obtain ⟨rfl, rfl, rfl⟩ := hrel
  go_wp2_with fail
  go_ret
  exact ⟨rfl, rfl⟩
end Go.Proofs.YtjccnjfdeedneaaGreat
/- Marks in the lists of a grant: Entry: written, and read back. -/
namespace Go.Proofs.YtjccnjfdeedneaaGreat
open Go Go.RowKit Go.Lib
set_option linter.unusedVariables false
set_option maxRecDepth 100000

def emC (m : Nat) : List Value := [.int .i64 ((m : Int)), .int .i64 ((m : Int) + 1), .int .i64 ((m : Int) + 1 + 1), .int .i64 ((m : Int) + 1 + 1 + 1)]
theorem emC_len (m : Nat) : (emC m).length = 4 := rfl
def MkEntryRel (g n k0 : Nat) (w : World) (x i : Value) (wr : World) : Prop := ∃ k : Nat, k ≤ n ∧ i = .int .i64 k ∧ x = .int .i64 ((k0 + 4 * k : Nat) : Int) ∧ wr.rangeAt g 0 (mkL emC 4 k0 k) ∧ wr.there g 0 (n * 4) ∧ w.grownBy wr (some g)
def MkEntryOut (g n k0 : Nat) (w : World) (e : Ending) (w' : World) : Prop := e = .returned (.int .i64 ((k0 + 4 * n : Nat) : Int)) ∧ w'.rangeAt g 0 (mkL emC 4 k0 n) ∧ w.grownBy w' (some g)
set_option maxHeartbeats 2000000 in
theorem markEntry_some (g n cap k0 : Nat) (w : World) (hk0 : 1 ≤ k0) (hk : k0 + 4 * n < 100000000) (ht : w.there g 0 (n * 4)) (hgl : g < w.heap.size) : Calls Tryz.prog 59 #[.slice (some ⟨g, 0, none⟩) n cap, .int .i64 (k0 : Int)] w (MkEntryOut g n k0 w) := by
 have HT := Lib.hid ht
 clear ht
 go_enter Tryz.func59, Tryz.ntmps59
 go_wp2_with fail
 go_loopw [1, 5] (MkEntryRel g n k0 w) (fun _ i _ => n - (RowKit.intOf i).toNat)
 case atStart => exact ⟨0, by omega, rfl, rfl, fun j v hv => by simp [mkL] at hv, HT.out, World.grownBy.refl _ _⟩
 case round =>
  obtain ⟨k, hkn, rfl, rfl, hpa, hth, hgr⟩ := hrel
  have HPA := Lib.hid hpa
  have HTh := Lib.hid hth
  have HG := Lib.hid hgr
  have hz := hgr.size
  clear hpa hth hgr
  by_cases hlt : k < n
  ·obtain ⟨m, hm⟩ : ∃ m, m = k0 + 4 * k := ⟨_, rfl⟩
   have hkk : m + 4 < 100000000 := by omega
   have hk1 : 1 ≤ m := by omega
   have hln : (mkL emC 4 k0 k).length = k * 4 := mkL_len emC_len k
   have HNx : Hid (mkL emC 4 k0 (k + 1) = mkL emC 4 k0 k ++ emC m) := Lib.hid (by rw [mkL, hm])
   have HEq : Hid (((k0 + 4 * (k + 1) : Nat) : Int) = (m : Int) + 1 + 1 + 1 + 1) := Lib.hid (by omega)
   rw [← hm]
   have HM := Lib.hid hm
   have HLn := Lib.hid hln
   clear hm hln
   have hgr' : g < wr.heap.size := by omega
   obtain ⟨v0, c0⟩ := Option.isSome_iff_exists.1 (HTh.out (k * 4) (by omega)).1
   have f0 := (HTh.out (k * 4) (by omega)).2
   rw [Nat.zero_add] at c0 f0
   obtain ⟨v1, c1⟩ := Option.isSome_iff_exists.1 (HTh.out (k * 4 + 1) (by omega)).1
   have f1 := (HTh.out (k * 4 + 1) (by omega)).2
   rw [Nat.zero_add] at c1 f1
   obtain ⟨v2, c2⟩ := Option.isSome_iff_exists.1 (HTh.out (k * 4 + 2) (by omega)).1
   have f2 := (HTh.out (k * 4 + 2) (by omega)).2
   rw [Nat.zero_add] at c2 f2
   obtain ⟨v3, c3⟩ := Option.isSome_iff_exists.1 (HTh.out (k * 4 + 3) (by omega)).1
   have f3 := (HTh.out (k * 4 + 3) (by omega)).2
   rw [Nat.zero_add] at c3 f3
   have hs := snocM (vs := emC m) HPA.out HTh.out (by rw [HLn.out, emC_len]; omega)
   rw [HLn.out] at hs
   have HR1 := Lib.hid hs.1
   have HT1 := Lib.hid hs.2
   have HG1 := Lib.hid (growM_trans HG.out (growM_sets g (k * 4) (emC m) wr))
   clear hs
   go_wp2_with fail
   go_roundw
   case rel => exact ⟨k + 1, by omega, by go_num, by rw [HEq.out], by rw [HNx.out]; exact HR1.out, HT1.out, HG1.out⟩
   case measure => simp [RowKit.intOf]; omega
  ·obtain rfl : k = n := by omega
   go_wp2_with fail
   go_ret
   exact ⟨rfl, HPA.out, HG.out⟩
theorem markEntry_nil (p : Option Addr) (cap k0 : Nat) (w : World) (hk : k0 < 100000000) : Calls Tryz.prog 59 #[.slice p 0 cap, .int .i64 (k0 : Int)] w fun e w' => e = .returned (.int .i64 (k0 : Int)) ∧ w' = w := by
 go_enter Tryz.func59, Tryz.ntmps59
 go_wp2_with fail
 go_loopw [1, 5] (fun x i wr => x = .int .i64 (k0 : Int) ∧ i = .int .i64 0 ∧ wr = w) (fun _ _ _ => 0)
 case atStart => exact ⟨rfl, rfl, rfl⟩
 case round =>
  obtain ⟨rfl, rfl, rfl⟩ := hrel
  go_wp2_with fail
  go_ret
  exact ⟨rfl, rfl⟩
def HeEntryRel (n k0 : Nat) (w : World) (x i : Value) (wr : World) : Prop := ∃ k : Nat, k ≤ n ∧ i = .int .i64 k ∧ x = .int .i64 ((k0 + 4 * k : Nat) : Int) ∧ Below w.heap.size w wr
set_option maxHeartbeats 2000000 in
theorem heldEntry_some (g n cap k0 : Nat) (w : World) (hk0 : 1 ≤ k0) (hk : k0 + 4 * n < 100000000) (hp : w.rangeAt g 0 (mkL emC 4 k0 n)) (hgl : g < w.heap.size) : Calls Tryz.prog 61 #[.slice (some ⟨g, 0, none⟩) n cap, .int .i64 (k0 : Int)] w (Ret (.int .i64 ((k0 + 4 * n : Nat) : Int)) w) := by
 have HP := Lib.hid hp
 clear hp
 go_enter Tryz.func61, Tryz.ntmps61
 go_wp2_with fail
 go_loopw [1, 5] (HeEntryRel n k0 w) (fun _ i _ => n - (RowKit.intOf i).toNat)
 case atStart => exact ⟨0, by omega, rfl, rfl, Below.refl _ _⟩
 case round =>
  obtain ⟨k, hkn, rfl, rfl, hbel⟩ := hrel
  have HB := Lib.hid hbel
  have hz := hbel.size
  by_cases hlt : k < n
  ·obtain ⟨m, hm⟩ : ∃ m, m = k0 + 4 * k := ⟨_, rfl⟩
   have hkk : m + 4 < 100000000 := by omega
   have hk1 : 1 ≤ m := by omega
   have hrow : ∀ j v, (emC m)[j]? = some v → wr.cell? ⟨g, k * 4 + j, none⟩ = some v := fun j v hv => by
    have h := HP.out _ v (mkL_get emC_len n k j v hlt (by rw [← hm]; exact hv))
    rw [Nat.zero_add] at h
    exact (hbel.cell (p := ⟨g, k * 4 + j, none⟩) hgl).trans h
   have HEq : Hid (((k0 + 4 * (k + 1) : Nat) : Int) = (m : Int) + 1 + 1 + 1 + 1) := Lib.hid (by omega)
   have hgr : g < wr.heap.size := by omega
   have c0 : wr.cell? ⟨g, k * 4, none⟩ = some (.int .i64 ((m : Int))) := hrow 0 _ rfl
   have c1 : wr.cell? ⟨g, k * 4 + 1, none⟩ = some (.int .i64 ((m : Int) + 1)) := hrow 1 _ rfl
   have c2 : wr.cell? ⟨g, k * 4 + 2, none⟩ = some (.int .i64 ((m : Int) + 1 + 1)) := hrow 2 _ rfl
   have c3 : wr.cell? ⟨g, k * 4 + 3, none⟩ = some (.int .i64 ((m : Int) + 1 + 1 + 1)) := hrow 3 _ rfl
   rw [← hm]
   clear hm hrow hbel
   go_wp2_with fail
   go_roundw
   case rel => exact ⟨k + 1, by omega, by go_num, by rw [HEq.out], HB.out⟩
   case measure => simp [RowKit.intOf]; omega
  ·obtain rfl : k = n := by omega
   go_wp2_with fail
   go_ret
   exact ⟨rfl, HB.out⟩
theorem heldEntry_nil (p : Option Addr) (cap k0 : Nat) (w : World) (hk : k0 < 100000000) : Calls Tryz.prog 61 #[.slice p 0 cap, .int .i64 (k0 : Int)] w fun e w' => e = .returned (.int .i64 (k0 : Int)) ∧ w' = w := by
 go_enter Tryz.func61, Tryz.ntmps61
 go_wp2_with fail
 go_loopw [1, 5] (fun x i wr => x = .int .i64 (k0 : Int) ∧ i = .int .i64 0 ∧ wr = w) (fun _ _ _ => 0)
 case atStart => exact ⟨rfl, rfl, rfl⟩
 case round =>
  obtain ⟨rfl, rfl, rfl⟩ := hrel
  go_wp2_with fail
  go_ret
  exact ⟨rfl, rfl⟩
end Go.Proofs.YtjccnjfdeedneaaGreat
