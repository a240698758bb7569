/- spec.l02Part: the walk. -/
import Derived.Test.YtjoobpieomhklaaDoorEsc
import Derived.Test.YtjoobpieomhklaaDoorPairA
namespace Go.Proofs.YtjoobpieomhklaaDoor
open Go Go.RowKit Go.Lib
set_option linter.unusedVariables false

/-- What stands ahead of the first '=', and what stands behind it. -/
def cutL : List UInt8 → List UInt8 × List UInt8
  | [] => ([], [])
  | c :: r => if c = 61 then ([], r) else (c :: (cutL r).1, (cutL r).2)
theorem cutL_none : ∀ l : List UInt8, (61 : UInt8) ∉ l → cutL l = (l, [])
  | [], _ => rfl
  | c :: r, h => by
    have h1 : c ≠ 61 := fun e => h (by simp [e])
    rw [cutL, if_neg h1, cutL_none r (fun e => h (by simp [e]))]
theorem cutL_hit : ∀ (pre post : List UInt8), (61 : UInt8) ∉ pre → cutL (pre ++ 61 :: post) = (pre, post)
  | [], post, _ => by simp [cutL]
  | c :: r, post, h => by
    have h1 : c ≠ 61 := fun e => h (by simp [e])
    rw [List.cons_append, cutL, if_neg h1, cutL_hit r post (fun e => h (by simp [e]))]
theorem cutL_len (l : List UInt8) : (cutL l).1.length ≤ l.length ∧ (cutL l).2.length ≤ l.length := by
  induction l with
  | nil => simp [cutL]
  | cons c r ih =>
    unfold cutL
    split
    · simp
    · simp
      omega
def bs (l : List UInt8) : ByteArray := ⟨l.toArray⟩
theorem bs_size (l : List UInt8) : (bs l).size = l.length := rfl
theorem bs_data (l : List UInt8) : (bs l).data.toList = l := by simp [bs]
def partP (l : List UInt8) : Pr := (bs (cutL l).1, bs (decL (cutL l).2))
def rawP (l : List UInt8) : Pr := (bs (cutL l).1, bs (cutL l).2)
theorem split_at {s : ByteArray} {k : Nat} (hk : k < s.size) (hc : s[k] = 61) : s.data.toList = s.data.toList.take k ++ 61 :: s.data.toList.drop (k + 1) := by
  have h := (List.take_append_drop k s.data.toList).symm
  rw [drop_cons s k hk, hc] at h
  exact h
def PartRel (s : ByteArray) (i : Value) : Prop := ∃ k : Nat, k ≤ s.size ∧ i = .int .i64 k ∧ (61 : UInt8) ∉ s.data.toList.take k
theorem not_mem_step {s : ByteArray} {k : Nat} (hk : k < s.size) (h : (61 : UInt8) ∉ s.data.toList.take k) (hc : (61 : UInt8) ≠ s[k]) : (61 : UInt8) ∉ s.data.toList.take (k + 1) := by
  rw [take_snoc s k hk, List.mem_append]
  rintro (g | g)
  · exact h g
  · exact hc (by simpa using g)
theorem str_eq {a : ByteArray} {l : List UInt8} (h : a.data.toList = l) : a = bs l := Go.WideShapes.bytes_inj (by rw [h, bs_data])

set_option maxRecDepth 100000 in
theorem part_spec (s : ByteArray) (w : World) (hs : s.size ≤ 8000) :
    Calls Tryd.prog 10 #[.string s] w fun e w' => e = .returned (.agg #[.string (partP s.data.toList).1, .string (partP s.data.toList).2]) ∧ Below w.heap.size w w' := by
  go_enter Tryd.func10, Tryd.ntmps10
  go_wp2_with fail
  go_loop [3] (PartRel s) (fun i => s.size - (RowKit.intOf i).toNat)
  case atStart => exact ⟨0, by omega, rfl, by simp⟩
  case round =>
    obtain ⟨k, hk, rfl, hno⟩ := hrel
    have HN := Lib.hid hno
    clear hno
    by_cases hlt : k < s.size
    · by_cases hc : s[k].toNat = 61
      · have hcb : ((s[k].toNat : Int) == 61) = true := by rw [hc]; rfl
        have HS := Lib.hid (split_at hlt (UInt8.toNat_inj.1 hc))
        have HP : Hid (partP s.data.toList = (s.extract 0 k, bs (decL (s.data.toList.drop (k + 1))))) := Lib.hid (by
          have h1 : cutL s.data.toList = (s.data.toList.take k, s.data.toList.drop (k + 1)) := by
            conv => lhs; rw [HS.out]
            exact cutL_hit _ _ HN.out
          unfold partP
          rw [h1, ← str_eq (extract_from_zero s k)])
        have HX := Lib.hid (extract_drop s (k + 1))
        have hes : (s.extract (k + 1) s.size).size ≤ 1048576 := by rw [size_eq, extract_drop, List.length_drop, ← size_eq]; omega
        clear hc
        have i0 : (0 : Int) ≤ (k : Int) + 1 := by omega
        have i1 : (k : Int) + 1 ≤ (s.size : Int) := by omega
        have i4 : ((k : Int) + 1).toNat = k + 1 := by omega
        have i6 : IntKind.i64.wrap ((k : Int) + 1) = (k : Int) + 1 := IntWalk.i64_in _ (by omega)
        go_wp2_with fail
        go_region_with (go_at_call 18; refine (dec_spec _ _ hes).mono ?_; rw [HX.out]; rintro e w2 ⟨rfl, hb2⟩; have q0 : w2.cell? ⟨w.heap.size, 0, none⟩ = some (.string { data := #[] }) := (hb2.cell (p := ⟨w.heap.size, 0, none⟩) (by simp)).trans (by simp); have q1 : w2.cell? ⟨w.heap.size, 1, none⟩ = some (.string { data := #[] }) := (hb2.cell (p := ⟨w.heap.size, 1, none⟩) (by simp)).trans (by simp); have f0 : w2.frozen? ⟨w.heap.size, 0, none⟩ = false := (hb2.frozen (p := ⟨w.heap.size, 0, none⟩) (by simp)).trans (by simp); have f1 : w2.frozen? ⟨w.heap.size, 1, none⟩ = false := (hb2.frozen (p := ⟨w.heap.size, 1, none⟩) (by simp)).trans (by simp))
        have HB := Lib.hid (((Below.refl w.heap.size w).alloc (Nat.le_refl _) (.cells #[Value.string { data := #[] }, Value.string { data := #[] }] 32)).drew.trans (hb2.mono (by simp)))
        clear hb2 i0 i1 i4 i6
        go_wp2_with fail
        refine bodyPost_ret (v := .agg #[.string (s.extract 0 k), .string ⟨(decL (s.data.toList.drop (k + 1))).toArray⟩]) (by simp [results, Tryd.results10, go_sem, q0, q1]) rfl ⟨by rw [HP.out]; rfl, ?_⟩
        exact (HB.out.setCell (p := ⟨w.heap.size, 0, none⟩) (Nat.le_refl _) _).setCell (p := ⟨w.heap.size, 1, none⟩) (Nat.le_refl _) _
      · have hcb : ((s[k].toNat : Int) == 61) = false := by rw [beq_eq_false_iff_ne]; omega
        have HC : Hid ((61 : UInt8) ≠ s[k]) := Lib.hid (fun e => hc (by rw [← e]; rfl))
        clear hc
        go_wp2_with fail
        go_round
        case rel => exact ⟨k + 1, by omega, by go_num, not_mem_step hlt HN.out HC.out⟩
        case measure => simp [RowKit.intOf]; omega
    · obtain rfl : k = s.size := by omega
      have HP : Hid (partP s.data.toList = (s, ByteArray.empty)) := Lib.hid (by
        have h0 : (61 : UInt8) ∉ s.data.toList := by have h := HN.out; rwa [List.take_of_length_le (by rw [← size_eq]; exact Nat.le_refl _)] at h
        unfold partP
        rw [cutL_none _ h0, decL_nil]
        rw [← str_eq (a := s) rfl]
        rfl)
      go_wp2_with fail
      refine bodyPost_ret (v := .agg #[.string s, .string { data := #[] }]) (by simp [results, Tryd.results10, go_sem]) rfl ⟨by rw [HP.out]; rfl, ?_⟩
      exact (Below.refl _ _).alloc (Nat.le_refl _) _
end Go.Proofs.YtjoobpieomhklaaDoor
