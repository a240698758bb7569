/- The source of the draws: how it begins. lwAt: one byte of the input as a number below a bound. -/
import Derived.Test.YtchfgdiipjbgoaaGreatFSrcN
namespace Go.Proofs.YtchfgdiipjbgoaaGreat
open Go Go.RowKit

theorem row_len {k : IntKind} {w : World} {a : Option Addr} {len cap : Nat} {zs : List Int} (h : IsRow k w a len cap zs) : len ≤ cap := by
 rcases h with ⟨_, rfl, rfl, _⟩ | ⟨_, _, h, _⟩
 ·exact Nat.le_refl _
 ·exact h
theorem row_code {w : World} {a : Option Addr} {len cap : Nat} {zs : List Int} (h : IsRow .u8 w a len cap zs) : CodeAt w.heap.size w a len := fun i hi => by
 rcases h with ⟨_, rfl, _, _⟩ | ⟨x, rfl, hl, hm, hz, hc, hwz⟩
 ·omega
 ·obtain ⟨b, off, spot⟩ := x
  have hci := hc i (by omega)
  have hspot : spot = none := by simpa [Addr.add] using World.cell?_spot (hc 0 (by omega))
  subst hspot
  have hc2 : w.cell? ⟨b, off + i, none⟩ = some (.int .u8 (zs.getD i 0)) := by
   by_cases e : i = 0
   ·subst e; simpa [Addr.add] using hci
   ·simpa [Addr.add, e] using hci
  have hw := hwz (zs.getD i 0) (by rw [List.getD_eq_getElem?_getD, List.getElem?_eq_getElem (by omega)]; exact List.getElem_mem _)
  have hb : 0 ≤ zs.getD i 0 ∧ zs.getD i 0 ≤ 255 := by
   simp only [Lit.wf, Bool.and_eq_true, decide_eq_true_eq] at hw
   exact hw
  exact ⟨b, off, zs.getD i 0, rfl, World.block_lt_of_cell? w ⟨b, off + i, none⟩ hc2, hc2, hb.1, by omega⟩

def SourcePost (w : World) (e : Ending) (w' : World) : Prop := ∃ g, w.heap.size ≤ g ∧ e = .returned (.pointer (some ⟨g, 0, none⟩)) ∧ SrcAt g w' ∧ Below w.heap.size w w'
def SourceRel (g : Nat) (a : Option Addr) (len cap : Nat) (w0 : World) (i : Value) (wr : World) : Prop := ∃ (k : Nat) (mix : Int), k ≤ len ∧ i = .int .i64 k ∧ 0 ≤ mix ∧ mix < 18446744073709551616 ∧ SrcAs g a len cap 0 mix 0 w0 wr

theorem wrap_hi (x : Int) : IntKind.u64.wrap x < 18446744073709551616 := by rw [IntKind.wrap_u64]; exact Int.emod_lt_of_pos _ (by decide)
theorem source_post {w w0 W : World} {a : Option Addr} {len cap : Nat} {mix size : Int} {e : Ending} (hb : Below w.heap.size w w0) (he : e = .returned (.pointer (some ⟨w.heap.size, 0, none⟩)))
  (hA : SrcAs w.heap.size a len cap 0 mix size w0 W) (hs : w.heap.size < w0.heap.size) (hc : CodeAt w.heap.size w0 a len) (hl : len ≤ 281474976710656) (m0 : 0 ≤ mix) (m1 : mix < 18446744073709551616) (s0 : 0 ≤ size) (s1 : size ≤ 12) : SourcePost w e W :=
 ⟨w.heap.size, Nat.le_refl _, he, ⟨a, len, cap, 0, mix, size, hA.1, by omega, by omega, hl, m0, m1, s0, s1, hc.grown hA.2⟩,
  hb.grown hA.2 (by omega) (fun k hk => by have := Option.some.inj hk; omega)⟩

set_option maxRecDepth 100000 in
set_option maxHeartbeats 2000000 in
theorem source_any (w : World) (a : Option Addr) (len cap : Nat) (zs : List Int) (hl : len ≤ 281474976710656) (h : IsRow .u8 w a len cap zs) :
  Calls Tryz.prog 77 #[.slice a len cap] w (SourcePost w) := by
 have HC := Lib.hid ((row_code h).keep (fun k hk => ((Below.refl w.heap.size w).alloc (Nat.le_refl _) (.cells #[.slice a len cap, .int .i64 0, .int .u64 88172645463325252, .int .i64 0] 211)).block k hk))
 have hb0 := (Below.refl w.heap.size w).alloc (Nat.le_refl _) (.cells #[.slice a len cap, .int .i64 0, .int .u64 88172645463325252, .int .i64 0] 211)
 have HB0 := Lib.hid hb0
 have HA : Hid (SrcAs w.heap.size a len cap 0 88172645463325252 0 (w.alloc (.cells #[.slice a len cap, .int .i64 0, .int .u64 88172645463325252, .int .i64 0] 211)) (w.alloc (.cells #[.slice a len cap, .int .i64 0, .int .u64 88172645463325252, .int .i64 0] 211))) := Lib.hid ⟨heap_alloc_new _ _, grown_refl _ _⟩
 have hsz : w.heap.size < (w.alloc (.cells #[.slice a len cap, .int .i64 0, .int .u64 88172645463325252, .int .i64 0] 211)).heap.size := by simp
 clear h hb0
 go_enter Tryz.func77, Tryz.ntmps77
 go_wp2_with fail
 generalize (w.alloc (.cells #[.slice a len cap, .int .i64 0, .int .u64 88172645463325252, .int .i64 0] 211)) = w0 at *
 go_loopw [4] (SourceRel w.heap.size a len cap w0) (fun i _ => len - (RowKit.intOf i).toNat)
 case atStart => exact ⟨0, _, by omega, rfl, by omega, by omega, HA.out⟩
 case round =>
  obtain ⟨k, mix, hk, rfl, hm0, hm1, hA⟩ := hrel
  have HA1 := Lib.hid hA
  have HM := Lib.hid hm1
  obtain ⟨c0, c1, c2, c3, f1, f2, f3⟩ := hA.facts
  clear hA hm1
  by_cases hlt : k < len ∧ k < 64
  ·obtain ⟨hk1, hk2⟩ := hlt
   obtain ⟨b, off, z, rfl, hb, hz, z0, z1⟩ := (HC.out.grown HA1.out.2) k hk1
   have hne : ¬ w.heap.size = b := by omega
   go_wp2_with fail
   go_region
   go_wp2_with fail
   go_roundw
   case rel => exact ⟨k + 1, _, by omega, by go_num, wrap_lo _, wrap_hi _, by first | exact HA1.out.drew.setMix _ | exact (HA1.out.setMix _).drew | exact (HA1.out.drewN _).setMix _⟩
   case measure => simp [RowKit.intOf]; omega
  ·have hx : (len ≤ k) ∨ (k < len ∧ 64 ≤ k) := by omega
   clear hlt
   by_cases h12 : 12 < (len : Int) / 20
   ·rcases hx with hx | ⟨hx1, hx2⟩
    all_goals
     go_wp2_with fail
     go_ret
     exact source_post HB0.out rfl ((HA1.out.setSize _).setSize _) (by omega) HC.out hl hm0 HM.out (by omega) (by omega)
   ·rcases hx with hx | ⟨hx1, hx2⟩
    all_goals
     go_wp2_with fail
     go_ret
     exact source_post HB0.out rfl (HA1.out.setSize _) (by omega) HC.out hl hm0 HM.out (by omega) (by omega)
end Go.Proofs.YtchfgdiipjbgoaaGreat
/- lwAt: one byte of the input as a number below a bound. -/
namespace Go.Proofs.YtchfgdiipjbgoaaGreat
open Go Go.RowKit

def AtPost (w : World) (most : Int) (e : Ending) (w' : World) : Prop := ∃ r : Nat, (1 < most → (r : Int) < most) ∧ (most ≤ 1 → r = 0) ∧ r < 256 ∧ e = .returned (.int .i64 (r : Nat)) ∧ w = w'
theorem at_post {w : World} {most z X : Int} {e : Ending} (h1 : 1 < most) (z0 : 0 ≤ z) (z1 : z < 256) (hX : X = z % most) (he : e = .returned (.int .i64 X)) : AtPost w most e w := by
 have g0 : 0 ≤ z % most := Int.emod_nonneg _ (by omega)
 have g1 : z % most < most := Int.emod_lt_of_pos _ (by omega)
 have g2 : z % most ≤ z := by
  have := Int.emod_add_mul_ediv z most
  have := Int.mul_nonneg (show 0 ≤ most by omega) (Int.ediv_nonneg z0 (show 0 ≤ most by omega))
  omega
 refine ⟨(z % most).toNat, fun _ => by omega, fun _ => by omega, by omega, ?_, rfl⟩
 rw [he, hX, Int.toNat_of_nonneg g0]

set_option maxRecDepth 100000 in
set_option maxHeartbeats 2000000 in
theorem at_any (w : World) (a : Option Addr) (len cap : Nat) (zs : List Int) (k : Nat) (most : Int) (hk : k ≤ 1) (hm : most ≤ 9223372036854775807) (hl : len ≤ 281474976710656) (h : IsRow .u8 w a len cap zs) :
  Calls Tryz.prog 24 #[.slice a len cap, .int .i64 (k : Nat), .int .i64 most] w (AtPost w most) := by
 have HC := Lib.hid (row_code h)
 clear h
 by_cases h1 : most ≤ 1
 ·have d0 : decide (most ≤ 1) = true := decide_eq_true h1
  have HM := Lib.hid h1
  clear h1
  go_enter Tryz.func24, Tryz.ntmps24
  go_wp2_with fail
  go_ret
  exact ⟨0, fun h => by have := HM.out; omega, fun _ => rfl, by omega, rfl, rfl⟩
 have d0 : decide (most ≤ 1) = false := decide_eq_false h1
 by_cases hz : len = 0
 ·subst hz
  go_enter Tryz.func24, Tryz.ntmps24
  go_wp2_with fail
  go_ret
  exact ⟨0, fun h => by omega, fun _ => rfl, by omega, rfl, rfl⟩
 have d1 : ((len : Int) == 0) = false := beq_eq_false_iff_ne.2 (by omega)
 have hr : k % len < len := Nat.mod_lt _ (by omega)
 obtain ⟨b, off, z, rfl, hb, hzz, z0, z1⟩ := HC.out (k % len) hr
 have e1 : Int.tmod (k : Int) (len : Int) = ((k % len : Nat) : Int) := by rw [Int.tmod_eq_emod_of_nonneg (by omega)]; simp
 have hne : ¬ (len : Int) = 0 := by omega
 have hne' : ¬ most = 0 := by omega
 generalize k % len = q at *
 go_enter Tryz.func24, Tryz.ntmps24
 go_wp2_with fail
 go_ret
 exact at_post h1 z0 z1 rfl rfl
end Go.Proofs.YtchfgdiipjbgoaaGreat
