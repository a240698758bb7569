/- lwAt: one byte of the input as a number below a bound. -/
import Derived.Test.YtghcolobjfgfgaaDoorDraw3
namespace Go.Proofs.YtghcolobjfgfgaaDoor
open Go Go.RowKit

def AtPost (w : World) (most : Int) (e : Ending) (w' : World) : Prop := ∃ r : Nat, (1 < most → (r : Int) < most) ∧ (most ≤ 1 → r = 0) ∧ r < 256 ∧ e = .returned (.int .i64 (r : Nat)) ∧ w = w'
theorem at_post {w : World} {most z X : Int} {e : Ending} (h1 : 1 < most) (z0 : 0 ≤ z) (z1 : z < 256) (hX : X = z % most) (he : e = .returned (.int .i64 X)) : AtPost w most e w := by
  have g0 : 0 ≤ z % most := Int.emod_nonneg _ (by omega)
  have g1 : z % most < most := Int.emod_lt_of_pos _ (by omega)
  have g2 : z % most ≤ z := by
    have := Int.emod_add_mul_ediv z most
    have := Int.mul_nonneg (show 0 ≤ most by omega) (Int.ediv_nonneg z0 (show 0 ≤ most by omega))
    omega
  refine ⟨(z % most).toNat, fun _ => by omega, fun _ => by omega, by omega, ?_, rfl⟩
  rw [he, hX, Int.toNat_of_nonneg g0]

set_option maxRecDepth 100000 in
set_option maxHeartbeats 2000000 in
theorem at_any (w : World) (a : Option Addr) (len cap : Nat) (zs : List Int) (k : Nat) (most : Int) (hk : k ≤ 1) (hm : most ≤ 9223372036854775807) (hl : len ≤ 281474976710656) (h : IsRow .u8 w a len cap zs) :
    Calls Tryd.prog 19 #[.slice a len cap, .int .i64 (k : Nat), .int .i64 most] w (AtPost w most) := by
  have HC := Lib.hid (row_code h)
  clear h
  by_cases h1 : most ≤ 1
  · have d0 : decide (most ≤ 1) = true := decide_eq_true h1
    have HM := Lib.hid h1
    clear h1
    go_enter Tryd.func19, Tryd.ntmps19
    go_wp2_with fail
    go_ret
    exact ⟨0, fun h => by have := HM.out; omega, fun _ => rfl, by omega, rfl, rfl⟩
  have d0 : decide (most ≤ 1) = false := decide_eq_false h1
  by_cases hz : len = 0
  · subst hz
    go_enter Tryd.func19, Tryd.ntmps19
    go_wp2_with fail
    go_ret
    exact ⟨0, fun h => by omega, fun _ => rfl, by omega, rfl, rfl⟩
  have d1 : ((len : Int) == 0) = false := beq_eq_false_iff_ne.2 (by omega)
  have hr : k % len < len := Nat.mod_lt _ (by omega)
  obtain ⟨b, off, z, rfl, hb, hzz, z0, z1⟩ := HC.out (k % len) hr
  have e1 : Int.tmod (k : Int) (len : Int) = ((k % len : Nat) : Int) := by rw [Int.tmod_eq_emod_of_nonneg (by omega)]; simp
  have hne : ¬ (len : Int) = 0 := by omega
  have hne' : ¬ most = 0 := by omega
  generalize k % len = q at *
  go_enter Tryd.func19, Tryd.ntmps19
  go_wp2_with fail
  go_ret
  exact at_post h1 z0 z1 rfl rfl
end Go.Proofs.YtghcolobjfgfgaaDoor
