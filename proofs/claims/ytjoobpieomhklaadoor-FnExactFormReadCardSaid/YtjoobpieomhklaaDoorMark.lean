/- The marks that a law writes into an answer, and looks for: texts, pairs. -/
import Derived.Test.YtjoobpieomhklaaDoorPairA
import Derived.Deep.LoopGhost
import Derived.IntWalk
namespace Go.Proofs.YtjoobpieomhklaaDoor
open Go Go.RowKit Go.Lib
set_option linter.unusedVariables false

def digF : Nat → Nat → List UInt8
  | 0, _ => []
  | f + 1, k => if k = 0 then [] else digF f (k / 10) ++ [UInt8.ofNat (48 + k % 10)]
theorem digF_len : ∀ (f k : Nat), (digF f k).length ≤ f
  | 0, _ => by simp [digF]
  | f + 1, k => by
    unfold digF
    split
    · simp
    · have := digF_len f (k / 10)
      simp; omega
def markT (k : Nat) : ByteArray := ⟨#[109]⟩ ++ ⟨(digF 5 k).toArray⟩
theorem mark_cons (c : UInt8) (out : List UInt8) : Value.string ((⟨#[c]⟩ : ByteArray) ++ ⟨out.toArray⟩) = .string ⟨(c :: out).toArray⟩ := by
  congr 1
def MtRel (k0 : Nat) (w : World) (f : Nat) (x o : Value) (wr : World) : Prop := ∃ (k : Nat) (out : List UInt8), x = .int .i64 k ∧ o = .string ⟨out.toArray⟩ ∧ k < 10 ^ f ∧ digF f k ++ out = digF 5 k0 ∧ out.length + f ≤ 5 ∧ Below w.heap.size w wr

set_option maxRecDepth 100000 in
theorem markText_any (k0 : Nat) (w : World) (h0 : 1 ≤ k0) (h1 : k0 < 100000) : Calls Tryd.prog 29 #[.int .i64 (k0 : Int)] w fun e w' => e = .returned (.string (markT k0)) ∧ Below w.heap.size w w' := by
  have d0 : decide (k0 = 0) = false := decide_eq_false (by omega)
  go_enter Tryd.func29, Tryd.ntmps29
  go_wp2_with fail
  go_loopg [0, 3] 5 (MtRel k0 w)
  case atStart => exact ⟨k0, [], rfl, rfl, by omega, by simp, by simp, Below.refl _ _⟩
  case round =>
    obtain ⟨k, out, rfl, rfl, hk, he, hl, hbel⟩ := hrel
    have HE := Lib.hid he
    have HB := Lib.hid hbel
    have hz := hbel.size
    clear he hbel
    cases gk with
    | zero =>
      have hk0 : k = 0 := by simpa using hk
      subst hk0
      have HM : Hid ((⟨#[109]⟩ : ByteArray) ++ ⟨out.toArray⟩ = markT k0) := Lib.hid (by unfold markT; rw [← HE.out]; rfl)
      have hs : (⟨out.toArray⟩ : ByteArray).size ≤ 5 := by show out.length ≤ 5; omega
      go_wp2_with fail
      go_ret
      exact ⟨by rw [HM.out]; rfl, HB.out⟩
    | succ f =>
      by_cases hkz : k = 0
      · subst hkz
        have HM : Hid ((⟨#[109]⟩ : ByteArray) ++ ⟨out.toArray⟩ = markT k0) := Lib.hid (by unfold markT; rw [← HE.out]; simp [digF])
        have hs : (⟨out.toArray⟩ : ByteArray).size ≤ 5 := by show out.length ≤ 5; omega
        go_wp2_with fail
        go_ret
        exact ⟨by rw [HM.out]; rfl, HB.out⟩
      · have hkp : 0 < k := by omega
        have hkb : k < 10000000000 := by
          have h2 : f + 1 ≤ 5 := by omega
          have := Nat.pow_le_pow_right (n := 10) (by decide) h2
          omega
        obtain ⟨c, hc⟩ : ∃ c, c = UInt8.ofNat (48 + k % 10) := ⟨_, rfl⟩
        have HD : Hid (digF (f + 1) k = digF f (k / 10) ++ [c]) := Lib.hid (by rw [digF, if_neg hkz, hc])
        have hm0 : (0 : Int) ≤ (k : Int) := by omega
        have HR : Hid (Row (wr.alloc (.cells #[.int .u8 (48 + (k : Int) % 10)] 5)) wr.heap.size 5 (byteCells (⟨#[c]⟩ : ByteArray).data.toList ++ [])) := Lib.hid (by
          have h3 : ((UInt8.ofNat (48 + k % 10)).toNat : Int) = 48 + (k : Int) % 10 := by
            rw [UInt8.toNat_ofNat', Nat.mod_eq_of_lt (by omega)]
            omega
          have h4 : byteCells (⟨#[c]⟩ : ByteArray).data.toList ++ [] = [.int .u8 (48 + (k : Int) % 10)] := by rw [← h3, ← hc]; rfl
          rw [h4]
          exact heap_alloc_new _ _)
        clear hkz hc
        go_wp2_with (refine wpList_bytes_str rfl (.tmp 12) 45 9 5 rfl Tryd.underlying45 Tryd.underlying5 Tryd.underlying9 wr.heap.size 1 1 ⟨#[c]⟩ rfl [] HR.out rfl ?_)
        go_roundg f
        case measure => omega
        case rel => exact ⟨k / 10, c :: out, by go_num, mark_cons _ _, by rw [Nat.div_lt_iff_lt_mul (by decide), ← Nat.pow_succ]; exact hk, by rw [← HE.out, HD.out, List.append_assoc]; rfl, by rw [List.length_cons]; omega, HB.out.alloc hz _⟩

/-- The pairs of marks. -/
def marksL (k0 : Nat) : Nat → List Pr
  | 0 => []
  | n + 1 => marksL k0 n ++ [(markT (k0 + 2 * n), markT (k0 + 2 * n + 1))]
theorem marksL_len (k0 : Nat) : ∀ n, (marksL k0 n).length = n
  | 0 => rfl
  | n + 1 => by rw [marksL, List.length_append, marksL_len k0 n]; rfl
theorem marksL_get (k0 : Nat) : ∀ n i, i < n → (marksL k0 n)[i]? = some (markT (k0 + 2 * i), markT (k0 + 2 * i + 1))
  | 0, i, h => by omega
  | n + 1, i, h => by
    by_cases e : i = n
    · subst e
      rw [marksL, List.getElem?_append_right (by rw [marksL_len]; exact Nat.le_refl _), marksL_len, Nat.sub_self]
      rfl
    · rw [marksL, List.getElem?_append_left (by rw [marksL_len]; omega)]
      exact marksL_get k0 n i (by omega)
theorem grown_trans {w w1 w2 : World} {r : Option Nat} (h1 : w.grownBy w1 r) (h2 : w1.grownBy w2 r) : w.grownBy w2 r :=
  ⟨h2.os.trans h1.os, h2.tape.trans h1.tape, h2.output.trans h1.output, Nat.le_trans h1.size h2.size, fun k hk hr => (h2.block k (Nat.lt_of_lt_of_le hk h1.size) hr).trans (h1.block k hk hr)⟩
theorem grown_of_below {w w1 : World} {r : Option Nat} (h : Below w.heap.size w w1) : w.grownBy w1 r := ⟨h.os, h.tape, h.output, h.size, fun k hk _ => h.block k hk⟩
theorem grown_set {w : World} (g j : Nat) (v : Value) : w.grownBy (w.setCell ⟨g, j, none⟩ v) (some g) :=
  ⟨rfl, rfl, rfl, by simp, fun k _ hr => Below.heap_setCell w ⟨g, j, none⟩ v k (fun e => hr (by rw [e]))⟩
theorem there_below' {w w' : World} {B b o n : Nat} (h : w.there b o n) (hb : Below B w w') (hB : b < B) : w'.there b o n := fun j hj => by
  obtain ⟨h1, h2⟩ := h j hj
  exact ⟨by rw [hb.cell (p := ⟨b, o + j, none⟩) hB]; exact h1, by rw [hb.frozen (p := ⟨b, o + j, none⟩) hB]; exact h2⟩
def MarkRel (g n k0 : Nat) (w : World) (x i : Value) (wr : World) : Prop := ∃ k : Nat, k ≤ n ∧ i = .int .i64 k ∧ x = .int .i64 ((k0 + 2 * k : Nat) : Int) ∧ PairsAt wr g 0 (marksL k0 k) ∧ wr.there g 0 (n * 2) ∧ w.grownBy wr (some g)
theorem markPairS_nil (p : Option Addr) (cap k0 : Nat) (w : World) (hk : k0 < 100000) : Calls Tryd.prog 16 #[.slice p 0 cap, .int .i64 (k0 : Int)] w fun e w' => e = .returned (.int .i64 (k0 : Int)) ∧ w = w' := by
  go_enter Tryd.func16, Tryd.ntmps16
  go_wp2_with fail
  go_loop [1, 5] (fun x i => x = .int .i64 (k0 : Int) ∧ i = .int .i64 0) (fun _ _ => 0)
  case atStart => exact ⟨rfl, rfl⟩
  case round =>
    obtain ⟨rfl, rfl⟩ := hrel
    go_wp2_with fail
    go_ret
    exact ⟨rfl, rfl⟩
theorem heldPairS_nil (p : Option Addr) (cap k0 : Nat) (w : World) (hk : k0 < 100000) : Calls Tryd.prog 17 #[.slice p 0 cap, .int .i64 (k0 : Int)] w fun e w' => e = .returned (.int .i64 (k0 : Int)) ∧ w = w' := by
  go_enter Tryd.func17, Tryd.ntmps17
  go_wp2_with fail
  go_loop [1, 5] (fun x i => x = .int .i64 (k0 : Int) ∧ i = .int .i64 0) (fun _ _ => 0)
  case atStart => exact ⟨rfl, rfl⟩
  case round =>
    obtain ⟨rfl, rfl⟩ := hrel
    go_wp2_with fail
    go_ret
    exact ⟨rfl, rfl⟩
theorem marks_snoc {w : World} {g k0 k : Nat} (h : PairsAt w g 0 (marksL k0 k)) (h0 : w.cell? ⟨g, k * 2, none⟩ = some (.string (markT (k0 + 2 * k)))) (h1 : w.cell? ⟨g, k * 2 + 1, none⟩ = some (.string (markT (k0 + 2 * k + 1)))) : PairsAt w g 0 (marksL k0 (k + 1)) := by
  unfold PairsAt
  rw [marksL, List.flatMap_append]
  refine rangeAt_append h ?_
  rw [flat_len pairCf_len, marksL_len, Nat.zero_add]
  intro j v hv
  match j, hv with
  | 0, hv => simp [pairCf] at hv; subst hv; exact h0
  | 1, hv => simp [pairCf] at hv; subst hv; exact h1
  | j + 2, hv => simp [pairCf] at hv
def MarkOut (g n k0 : Nat) (w : World) (e : Ending) (w' : World) : Prop := e = .returned (.int .i64 ((k0 + 2 * n : Nat) : Int)) ∧ PairsAt w' g 0 (marksL k0 n) ∧ w.grownBy w' (some g)

set_option maxRecDepth 100000 in
set_option maxHeartbeats 800000 in
theorem markPairS_some (g n cap k0 : Nat) (w : World) (hk0 : 1 ≤ k0) (hk : k0 + 2 * n < 100000) (ht : w.there g 0 (n * 2)) (hgl : g < w.heap.size) : Calls Tryd.prog 16 #[.slice (some ⟨g, 0, none⟩) n cap, .int .i64 (k0 : Int)] w (MarkOut g n k0 w) := by
  have HT := Lib.hid ht
  clear ht
  go_enter Tryd.func16, Tryd.ntmps16
  go_wp2_with fail
  go_loopw [1, 5] (MarkRel g n k0 w) (fun _ i _ => n - (RowKit.intOf i).toNat)
  case atStart => exact ⟨0, by omega, rfl, rfl, fun j v hv => by simp [marksL] at hv, HT.out, World.grownBy.refl _ _⟩
  case round =>
    obtain ⟨k, hkn, rfl, rfl, hpa, hth, hgr⟩ := hrel
    have HPA := Lib.hid hpa
    have HTh := Lib.hid hth
    have HG := Lib.hid hgr
    have hz := hgr.size
    clear hpa hth hgr
    by_cases hlt : k < n
    · have hkk : k0 + 2 * k < 100000 := by omega
      have hk1 : 1 ≤ k0 + 2 * k := by omega
      obtain ⟨m, hm⟩ : ∃ m, m = k0 + 2 * k := ⟨_, rfl⟩
      rw [← hm] at hkk hk1
      rw [← hm]
      have HM := Lib.hid hm
      clear hm
      have hgr' : g < wr.heap.size := by omega
      go_wp2_with fail
      refine (markText_any m _ hk1 hkk).mono ?_
      rintro e w1 ⟨rfl, hb1⟩
      obtain ⟨v0, hv0⟩ := Option.isSome_iff_exists.1 (HTh.out (k * 2) (by omega)).1
      obtain ⟨v1, hv1⟩ := Option.isSome_iff_exists.1 (HTh.out (k * 2 + 1) (by omega)).1
      rw [Nat.zero_add] at hv0 hv1
      have c0 := (hb1.cell (p := ⟨g, k * 2, none⟩) hgr').trans hv0
      have c1 := (hb1.cell (p := ⟨g, k * 2 + 1, none⟩) hgr').trans hv1
      have f0 : w1.frozen? ⟨g, k * 2, none⟩ = false := (hb1.frozen (p := ⟨g, k * 2, none⟩) hgr').trans (by have := (HTh.out (k * 2) (by omega)).2; rwa [Nat.zero_add] at this)
      have f1 : w1.frozen? ⟨g, k * 2 + 1, none⟩ = false := (hb1.frozen (p := ⟨g, k * 2 + 1, none⟩) hgr').trans (by have := (HTh.out (k * 2 + 1) (by omega)).2; rwa [Nat.zero_add] at this)
      have hz1 := hb1.size
      have HB1 := Lib.hid hb1
      clear hb1 hv0 hv1
      go_wp2_with fail
      have hm1 : m + 1 < 100000 := by have := HM.out; omega
      refine (markText_any (m + 1) _ (by omega) hm1).mono ?_
      rintro e w2 ⟨rfl, hb2⟩
      have hz2 := hb2.size
      have hgw : g < (w1.setCell ⟨g, k * 2, none⟩ (.string (markT m))).heap.size := by simp; omega
      have c1b : w2.cell? ⟨g, k * 2 + 1, none⟩ = some v1 := (hb2.cell (p := ⟨g, k * 2 + 1, none⟩) hgw).trans ((World.cell?_setCell_other _ _ _ _ (by simp)).trans c1)
      have f1b : w2.frozen? ⟨g, k * 2 + 1, none⟩ = false := (hb2.frozen (p := ⟨g, k * 2 + 1, none⟩) hgw).trans (by rw [World.frozen?_setCell]; exact f1)
      have c0b : w2.cell? ⟨g, k * 2, none⟩ = some (.string (markT m)) := (hb2.cell (p := ⟨g, k * 2, none⟩) hgw).trans (World.cell?_setCell_same _ _ _ c0)
      have HG2 := Lib.hid (grown_trans (grown_trans (grown_trans HG.out (grown_of_below HB1.out)) (grown_set g (k * 2) (.string (markT m)))) (grown_of_below hb2))
      have hpa2 : PairsAt w2 g 0 (marksL k0 k) := rangeAt_below (World.rangeAt_setCells_apart (w := w1) (rangeAt_below HPA.out HB1.out hgr') g (k * 2) [.string (markT m)] (.inr (.inl (by rw [flat_len pairCf_len, marksL_len]; omega)))) hb2 hgw
      have hth2 : w2.there g 0 (n * 2) := there_below' (World.there_setCells (w := w1) (there_below' HTh.out HB1.out hgr') g (k * 2) [.string (markT m)]) hb2 hgw
      have HPA3 := Lib.hid (World.rangeAt_setCells_apart (w := w2) hpa2 g (k * 2 + 1) [.string (markT (m + 1))] (.inr (.inl (by rw [flat_len pairCf_len, marksL_len]; omega))))
      have HTh3 := Lib.hid (World.there_setCells (w := w2) hth2 g (k * 2 + 1) [.string (markT (m + 1))])
      have HC0 := Lib.hid ((World.cell?_setCell_other w2 ⟨g, k * 2 + 1, none⟩ ⟨g, k * 2, none⟩ (.string (markT (m + 1))) (by simp)).trans c0b)
      have HC1 := Lib.hid (World.cell?_setCell_same w2 ⟨g, k * 2 + 1, none⟩ (.string (markT (m + 1))) c1b)
      have HG3 := Lib.hid (grown_trans HG2.out (grown_set g (k * 2 + 1) (.string (markT (m + 1)))))
      have HEq : Hid (((k0 + 2 * (k + 1) : Nat) : Int) = (m : Int) + 1 + 1) := Lib.hid (by have := HM.out; omega)
      clear hb2 hpa2 hth2 c0 c1 c0b f0 f1
      go_wp2_with fail
      go_roundw
      case rel => exact ⟨k + 1, by omega, by go_num, by rw [HEq.out], marks_snoc HPA3.out (by rw [← HM.out]; exact HC0.out) (by rw [← HM.out]; exact HC1.out), HTh3.out, HG3.out⟩
      case measure => simp [RowKit.intOf]; omega
    · obtain rfl : k = n := by omega
      go_wp2_with fail
      go_ret
      exact ⟨rfl, HPA.out, HG.out⟩
end Go.Proofs.YtjoobpieomhklaaDoor
