/- What all share: numbers that are atomic; where the shared store lies. -/
import Derived.Test.YtchfgdiipjbgoaaIRg
import Derived.Test.YtchfgdiipjbgoaaLocks
import Derived.Test.YtchfgdiipjbgoaaLed4
import Derived.Laws.LoneSync
import Derived.Conc.MuLone
import Derived.LoopN
namespace Go.Proofs.Ytchfgdiipjbgoaa
open Go Go.RowKit Go.Lib Go.MuLone
set_option linter.unusedVariables false
set_option maxRecDepth 100000

theorem st64 (b off : Nat) (v n : Int) (w : World) (h : w.cell? ⟨b, off, none⟩ = some (.int .i64 v)) (hz : w.frozen? ⟨b, off, none⟩ = false) : Calls Try.prog 37 #[.pointer (some ⟨b, off, none⟩), .int .i64 n] w fun e w' => e = .returned (.tuple #[]) ∧ w' = w.setCell ⟨b, off, none⟩ (.int .i64 n) := by
  have hx := run_call_store (P := Try.prog) Try.func59 (by kernel_rfl) (by kernel_rfl) (by kernel_rfl) (by kernel_rfl) (k := .i64) (y := n) h hz
  go_enter Try.func37, Try.ntmps37
  go_wp2_with fail
  go_returns
  exact ⟨rfl, rfl⟩
/-- Where the shared store lies: its block, the maps of its stripes. -/
structure ShH where
  sb : Nat
  w0 : Nat
  k0 : Nat
  w1 : Nat
  k1 : Nat
  w2 : Nat
  k2 : Nat
  w3 : Nat
  k3 : Nat
/-- Its cells; m: the state of the stripes' locks, c: that of the cache's. -/
def shL (now ver hold : Int) (cs : Value) (c m : Int) (h : ShH) : List Value :=
  [.int .i64 now, .int .i64 ver, .int .i64 hold, .int .i32 c, .int .u32 0, cs, .int .i32 m, .int .u32 0, .map (some h.w0), .map (some h.k0), .int .i32 m, .int .u32 0, .map (some h.w1), .map (some h.k1),
   .int .i32 m, .int .u32 0, .map (some h.w2), .map (some h.k2), .int .i32 m, .int .u32 0, .map (some h.w3), .map (some h.k3)]
def ShH.wAt (h : ShH) : Nat → Nat | 0 => h.w0 | 1 => h.w1 | 2 => h.w2 | _ => h.w3
def ShH.kAt (h : ShH) : Nat → Nat | 0 => h.k0 | 1 => h.k1 | 2 => h.k2 | _ => h.k3
/-- The blocks lie one behind the other. -/
def ShH.Rise (h : ShH) : Prop := h.sb < h.w0 ∧ h.w0 < h.k0 ∧ h.k0 < h.w1 ∧ h.w1 < h.k1 ∧ h.k1 < h.w2 ∧ h.w2 < h.k2 ∧ h.k2 < h.w3 ∧ h.w3 < h.k3
theorem shL_w (now ver hold : Int) (cs : Value) (c m : Int) (h : ShH) {j : Nat} (hj : j < 4) : (shL now ver hold cs c m h)[8 + 4 * j]? = some (.map (some (h.wAt j))) := by
  rcases (show j = 0 ∨ j = 1 ∨ j = 2 ∨ j = 3 by omega) with rfl | rfl | rfl | rfl <;> rfl
theorem shL_k (now ver hold : Int) (cs : Value) (c m : Int) (h : ShH) {j : Nat} (hj : j < 4) : (shL now ver hold cs c m h)[9 + 4 * j]? = some (.map (some (h.kAt j))) := by
  rcases (show j = 0 ∨ j = 1 ∨ j = 2 ∨ j = 3 by omega) with rfl | rfl | rfl | rfl <;> rfl
theorem ShH.Rise.w_ge {h : ShH} (hr : h.Rise) (j : Nat) : h.sb < h.wAt j ∧ h.w0 ≤ h.wAt j ∧ h.wAt j ≤ h.k3 := by
  obtain ⟨h1, h2, h3, h4, h5, h6, h7, h8⟩ := hr
  unfold ShH.wAt; split <;> omega
theorem ShH.Rise.k_ge {h : ShH} (hr : h.Rise) (j : Nat) : h.sb < h.kAt j ∧ h.w0 ≤ h.kAt j ∧ h.kAt j ≤ h.k3 := by
  obtain ⟨h1, h2, h3, h4, h5, h6, h7, h8⟩ := hr
  unfold ShH.kAt; split <;> omega
theorem ShH.Rise.wk {h : ShH} (hr : h.Rise) (i j : Nat) : h.wAt i ≠ h.kAt j := by
  obtain ⟨h1, h2, h3, h4, h5, h6, h7, h8⟩ := hr
  unfold ShH.wAt ShH.kAt; split <;> split <;> omega
theorem ShH.Rise.ww {h : ShH} (hr : h.Rise) {i j : Nat} (hi : i < 4) (hj : j < 4) (hne : i ≠ j) : h.wAt i ≠ h.wAt j := by
  obtain ⟨h1, h2, h3, h4, h5, h6, h7, h8⟩ := hr
  rcases (show i = 0 ∨ i = 1 ∨ i = 2 ∨ i = 3 by omega) with rfl | rfl | rfl | rfl <;> rcases (show j = 0 ∨ j = 1 ∨ j = 2 ∨ j = 3 by omega) with rfl | rfl | rfl | rfl <;> simp only [ShH.wAt] <;> omega
theorem ShH.Rise.kk {h : ShH} (hr : h.Rise) {i j : Nat} (hi : i < 4) (hj : j < 4) (hne : i ≠ j) : h.kAt i ≠ h.kAt j := by
  obtain ⟨h1, h2, h3, h4, h5, h6, h7, h8⟩ := hr
  rcases (show i = 0 ∨ i = 1 ∨ i = 2 ∨ i = 3 by omega) with rfl | rfl | rfl | rfl <;> rcases (show j = 0 ∨ j = 1 ∨ j = 2 ∨ j = 3 by omega) with rfl | rfl | rfl | rfl <;> simp only [ShH.kAt] <;> omega
/-- The stripes hold FW, FK, each its share; no more than M entries in any. -/
def ShMaps (w : World) (h : ShH) (M : Nat) (FW FK : Int → Option Value) : Prop :=
  (∀ j, j < 4 → ∃ n, n ≤ M ∧ IMap Try.prog 2 w (h.wAt j) n (stF FW j)) ∧ (∀ j, j < 4 → ∃ n, n ≤ M ∧ IMap Try.prog 2 w (h.kAt j) n (stF FK j))
theorem ShMaps.later {w w' : World} {h : ShH} {M : Nat} {FW FK : Int → Option Value} (k : ShMaps w h M FW FK) (hb : Below w.heap.size w w') : ShMaps w' h M FW FK :=
  ⟨fun j hj => by obtain ⟨n, h1, h2⟩ := k.1 j hj; exact ⟨n, h1, h2.later hb⟩, fun j hj => by obtain ⟨n, h1, h2⟩ := k.2 j hj; exact ⟨n, h1, h2.later hb⟩⟩
theorem ShMaps.grown {w w' : World} {h : ShH} {M : Nat} {FW FK : Int → Option Value} {r : Option Nat} (k : ShMaps w h M FW FK) (hg : w.grownBy w' r) (h1 : ∀ j, j < 4 → some (h.wAt j) ≠ r) (h2 : ∀ j, j < 4 → some (h.kAt j) ≠ r) : ShMaps w' h M FW FK :=
  ⟨fun j hj => by obtain ⟨n, a, b⟩ := k.1 j hj; exact ⟨n, a, b.grown hg (h1 j hj)⟩, fun j hj => by obtain ⟨n, a, b⟩ := k.2 j hj; exact ⟨n, a, b.grown hg (h2 j hj)⟩⟩
theorem ShMaps.setCell {w : World} {h : ShH} {M : Nat} {FW FK : Int → Option Value} (k : ShMaps w h M FW FK) {a : Addr} (u : Value) (h1 : ∀ j, j < 4 → h.wAt j ≠ a.block) (h2 : ∀ j, j < 4 → h.kAt j ≠ a.block) : ShMaps (w.setCell a u) h M FW FK :=
  ⟨fun j hj => by obtain ⟨n, x, y⟩ := k.1 j hj; exact ⟨n, x, y.setCell (h1 j hj) u⟩, fun j hj => by obtain ⟨n, x, y⟩ := k.2 j hj; exact ⟨n, x, y.setCell (h2 j hj) u⟩⟩
/-- One entry more, in its stripe. -/
theorem ShMaps.putW {w w' : World} {h : ShH} {M n : Nat} {FW FK : Int → Option Value} {x : Int} {v : Value} {s : Nat} (hr : h.Rise) (hs : s < 4) (hx : x % 4 = s) (k : ShMaps w h M FW FK) (hn : n ≤ M + 1) (hm : IMap Try.prog 2 w' (h.wAt s) n (setAt (stF FW s) x v)) (hg : w.grownBy w' (some (h.wAt s))) : ShMaps w' h (M + 1) (setAt FW x v) FK := by
  refine ⟨fun j hj => ?_, fun j hj => ?_⟩
  · by_cases e : j = s
    · subst e
      exact ⟨n, hn, hm.same (stF_set_here hx)⟩
    · obtain ⟨m, a, b⟩ := k.1 j hj
      exact ⟨m, by omega, (b.grown hg (fun e2 => hr.ww hj hs e (Option.some.inj e2))).same (stF_set_else (by omega))⟩
  · obtain ⟨m, a, b⟩ := k.2 j hj
    exact ⟨m, by omega, b.grown hg (fun e2 => hr.wk s j (Option.some.inj e2).symm)⟩
theorem ShMaps.putK {w w' : World} {h : ShH} {M n : Nat} {FW FK : Int → Option Value} {x : Int} {v : Value} {s : Nat} (hr : h.Rise) (hs : s < 4) (hx : x % 4 = s) (k : ShMaps w h M FW FK) (hn : n ≤ M + 1) (hm : IMap Try.prog 2 w' (h.kAt s) n (setAt (stF FK s) x v)) (hg : w.grownBy w' (some (h.kAt s))) : ShMaps w' h (M + 1) FW (setAt FK x v) := by
  refine ⟨fun j hj => ?_, fun j hj => ?_⟩
  · obtain ⟨m, a, b⟩ := k.1 j hj
    exact ⟨m, by omega, b.grown hg (fun e2 => hr.wk j s (Option.some.inj e2))⟩
  · by_cases e : j = s
    · subst e
      exact ⟨n, hn, hm.same (stF_set_here hx)⟩
    · obtain ⟨m, a, b⟩ := k.2 j hj
      exact ⟨m, by omega, (b.grown hg (fun e2 => hr.kk hj hs e (Option.some.inj e2))).same (stF_set_else (by omega))⟩
theorem stripeOf_any (sb : Nat) (x : Int) (s : Nat) (w : World) (h0 : 0 ≤ x) (hs : x % 4 = s) (hs4 : s < 4) : Calls Try.prog 60 #[.pointer (some ⟨sb, 0, none⟩), .int .i64 x] w fun e w' => e = .returned (.pointer (some ⟨sb, 6 + s * 4, none⟩)) ∧ w' = w := by
  have e1 : Int.tmod x 4 = (s : Int) := by rw [Int.tmod_eq_emod_of_nonneg h0]; exact hs
  go_enter Try.func60, Try.ntmps60
  go_wp2_with fail
  go_ret
  exact ⟨rfl, rfl⟩
end Go.Proofs.Ytchfgdiipjbgoaa
