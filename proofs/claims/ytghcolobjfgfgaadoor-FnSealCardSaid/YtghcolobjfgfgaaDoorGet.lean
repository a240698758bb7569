/- GetNum: the model's function. -/
import Derived.Test.YtghcolobjfgfgaaDoorCode
import Derived.Test.YtghcolobjfgfgaaDoorRdMath
import Derived.Laws.ResultCell
namespace Go.Proofs.YtghcolobjfgfgaaDoor
open Go Go.RowKit

def numOut (r : Int × Int × Int) : Value := .agg #[.int .i64 r.1, .int .i64 r.2.1, .int .i64 r.2.2]
def RdRel (s : ByteArray) (p : Nat) (R : Int × Int × Int) (u i : Value) : Prop := ∃ k x : Nat, k ≤ 9 ∧ x < 2 ^ (7 * k) ∧ Rd.rd s p (10 - k) k x = R ∧ u = .int .u64 x ∧ i = .int .i64 k

theorem numOut_of {r r' : Int × Int × Int} (h : r = r') : Ending.returned (numOut r) = .returned (numOut r') := by rw [h]

set_option maxRecDepth 100000 in
set_option maxHeartbeats 2000000 in
theorem get_spec_in (s : ByteArray) (p : Nat) (w : World) (hs : s.size ≤ 8000) (hp : p ≤ 9223372036854775807) :
    Calls Tryd.prog 25 #[.string s, .int .i64 p] w fun e w' => e = .returned (numOut (Rd.rd s p 10 0 0)) ∧ Below w.heap.size w w' := by
  go_enter Tryd.func25, Tryd.ntmps25
  go_wp2_with fail
  go_loop [5, 6] (RdRel s p (Rd.rd s p 10 0 0)) (fun _ i => 10 - (RowKit.intOf i).toNat)
  case atStart => exact ⟨0, 0, by omega, by decide, rfl, rfl, rfl⟩
  case round =>
    obtain ⟨k, x, hk, hx, hr, rfl, rfl⟩ := hrel
    have HR := Lib.hid hr
    have HX := Lib.hid hx
    clear hr hx
    by_cases hlt : p + k < s.size
    · have hcb : s[p + k].toNat < 256 := UInt8.toNat_lt _
      by_cases hbig : k = 9 ∧ 1 < s[p + k].toNat
      · have HE := Lib.hid (Rd.rd_big (u := x) hbig.1 hlt hbig.2)
        have hk9 : 9 ≤ k := by omega
        have e9 : ((k : Int) == 9) = true := by rw [beq_iff_eq]; omega
        have d1 : decide (1 < (s[p + k].toNat : Int)) = true := decide_eq_true (by omega)
        clear hbig
        go_wp2_with fail
        exact bodyPost_ret (v := numOut (0, 0, 3)) (by simp [results, Tryd.results25, go_sem, numOut]) rfl ⟨numOut_of (by rw [← HR.out, HE.out]), (Below.refl _ _).alloc (Nat.le_refl _) _⟩
      · have HB := Lib.hid hbig
        have hput := Rd.put_wrap (h := hlt) hk HX.out hbig
        have hy := Rd.put_lt64 (h := hlt) hk HX.out hbig
        have HY := Lib.hid (Rd.put_lt (h := hlt) HX.out)
        by_cases hc : s[p + k].toNat < 128
        · have dc : decide ((s[p + k].toNat : Int) < 128) = true := decide_eq_true (by omega)
          have h9 : ((k : Int) == 9) = false ∨ (((k : Int) == 9) = true ∧ decide (1 < (s[p + k].toNat : Int)) = false) := by
            by_cases e : k = 9
            · exact Or.inr ⟨by rw [beq_iff_eq]; omega, decide_eq_false (by omega)⟩
            · exact Or.inl (by rw [beq_eq_false_iff_ne]; omega)
          by_cases hz : s[p + k].toNat = 0 ∧ 0 < k
          · have HE := Lib.hid (Rd.rd_zero (u := x) hk hlt hbig hz.1 hz.2)
            have z1 : ((s[p + k].toNat : Int) == 0) = true := by rw [beq_iff_eq]; omega
            have z2 : 0 < k := hz.2
            generalize Rd.put s p k x hlt = y at *
            clear hbig hz
            rcases h9 with e9 | ⟨e9, d9⟩
            all_goals
              go_wp2_with fail
              exact bodyPost_ret (v := numOut (0, 0, 3)) (by simp [results, Tryd.results25, go_sem, numOut]) rfl ⟨numOut_of (by rw [← HR.out, HE.out]), (Below.refl _ _).alloc (Nat.le_refl _) _⟩
          · have HE := Lib.hid (Rd.rd_done (u := x) hk hlt hbig hc hz)
            have hz' : ((s[p + k].toNat : Int) == 0) = false ∨ (((s[p + k].toNat : Int) == 0) = true ∧ ¬ 0 < k) := by
              by_cases e : s[p + k].toNat = 0
              · exact Or.inr ⟨by rw [beq_iff_eq]; omega, by omega⟩
              · exact Or.inl (by rw [beq_eq_false_iff_ne]; omega)
            generalize Rd.put s p k x hlt = y at *
            clear hbig hz
            by_cases ho : y % 2 = 1
            · have o1 : ((y : Int) % 2 == 1) = true := by rw [beq_iff_eq]; omega
              have HU := Lib.hid (Rd.unf_odd ho)
              clear ho
              rcases h9 with e9 | ⟨e9, d9⟩
              all_goals
                rcases hz' with z1 | ⟨z1, z2⟩
                all_goals
                  go_wp2_with fail
                  exact bodyPost_ret (v := numOut (-((y : Int) / 2) - 1, (p : Int) + k + 1, 0)) (by simp [results, Tryd.results25, go_sem, numOut]) rfl ⟨numOut_of (by rw [← HR.out, HE.out, HU.out]; simp), (Below.refl _ _).alloc (Nat.le_refl _) _⟩
            · have o1 : ((y : Int) % 2 == 1) = false := by rw [beq_eq_false_iff_ne]; omega
              have HU := Lib.hid (Rd.unf_even ho)
              clear ho
              rcases h9 with e9 | ⟨e9, d9⟩
              all_goals
                rcases hz' with z1 | ⟨z1, z2⟩
                all_goals
                  go_wp2_with fail
                  exact bodyPost_ret (v := numOut ((y : Int) / 2, (p : Int) + k + 1, 0)) (by simp [results, Tryd.results25, go_sem, numOut]) rfl ⟨numOut_of (by rw [← HR.out, HE.out, HU.out]; simp), (Below.refl _ _).alloc (Nat.le_refl _) _⟩
        · have hk9 : k < 9 := by omega
          have HE := Lib.hid (Rd.rd_more (u := x) hk9 hlt (by omega))
          have e9 : ((k : Int) == 9) = false := by rw [beq_eq_false_iff_ne]; omega
          have dc : decide ((s[p + k].toNat : Int) < 128) = false := decide_eq_false (by omega)
          generalize Rd.put s p k x hlt = y at *
          clear hbig
          go_wp2_with fail
          go_round
          case rel => exact ⟨k + 1, y, by omega, HY.out, by rw [← HE.out, HR.out], rfl, by go_num⟩
          case measure => simp [RowKit.intOf]; omega
    · have HE := Lib.hid (Rd.rd_short (u := x) hk (show s.size ≤ p + k by omega))
      go_wp2_with fail
      exact bodyPost_ret (v := numOut (0, 0, 4)) (by simp [results, Tryd.results25, go_sem, numOut]) rfl ⟨numOut_of (by rw [← HR.out, HE.out]), (Below.refl _ _).alloc (Nat.le_refl _) _⟩
end Go.Proofs.YtghcolobjfgfgaaDoor
