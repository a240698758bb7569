/- ThreadNew: the model, the program. -/
import Derived.Test.YtgkdajlkajmdiaaThNew
namespace Go.Proofs.Ytgkdajlkajmdiaa
open Go Go.RowKit Go.Lib
set_option linter.unusedVariables false
set_option maxRecDepth 100000

def zeroT : TH := ⟨⟨0, 0, 0, 0, 0, ⟨#[]⟩, 0⟩, 0, 0, 0, ⟨0, 0, 0, false⟩, false⟩
def newT (r : RQ) : TH := ⟨r, 0, 0, 0, ⟨0, 0, 0, false⟩, false⟩
def newTh (r : RQ) : TH := if rightB r then newT r else zeroT
theorem rq_size {r : RQ} (h : rightB r = true) : r.proof.size ≤ 8 := by
  unfold rightB at h
  simp only [Bool.and_eq_true] at h
  obtain ⟨⟨h1, h2⟩, ⟨⟨⟨h3, h4⟩, h5⟩, h6⟩, h7⟩ := h
  split at h7
  · exact (of_decide_eq_true h7).2.1
  · rw [ByteArray.toList_eq] at h7
    have h8 := List.isEmpty_iff.1 h7
    have h9 : r.proof.data.size = 0 := by rw [← Array.length_toList, h8]; rfl
    show r.proof.data.size ≤ 8
    omega
set_option maxHeartbeats 1000000 in
theorem new_spec (r : RQ) (w : World) (hp : r.proof.size ≤ maxLen) : Calls Try.prog 23 #[rqV r] w (Ret (thV (newTh r)) w) := by
  obtain ⟨W, hW⟩ : ∃ W, W = (w.alloc (.cells #[.int .i64 r.no, .int .i64 r.kind, .int .i64 r.client, .int .i64 r.code, .int .i64 r.token, .string r.proof, .int .i64 r.upTo] 58)).alloc (.cells #[.int .i64 0, .int .i64 0, .int .i64 0, .int .i64 0, .int .i64 0, .string ⟨#[]⟩, .int .i64 0, .int .i64 0, .int .i64 0, .int .i64 0, .int .i64 0, .int .i64 0, .int .i64 0, .bool false, .bool false] 61) := ⟨_, rfl⟩
  have hb0 : Below w.heap.size w W := by rw [hW]; go_grown
  have r0 : Row W w.heap.size 58 [.int .i64 r.no, .int .i64 r.kind, .int .i64 r.client, .int .i64 r.code, .int .i64 r.token, .string r.proof, .int .i64 r.upTo] := by
    rw [hW]
    exact Row.below (heap_alloc_new w _) ((Below.refl _ _).alloc (Nat.le_refl _) _) (by simp)
  have r1 : Row W (w.heap.size + 1) 61 [.int .i64 0, .int .i64 0, .int .i64 0, .int .i64 0, .int .i64 0, .string ⟨#[]⟩, .int .i64 0, .int .i64 0, .int .i64 0, .int .i64 0, .int .i64 0, .int .i64 0, .int .i64 0, .bool false, .bool false] := by
    rw [hW]
    have h := heap_alloc_new (w.alloc (.cells #[.int .i64 r.no, .int .i64 r.kind, .int .i64 r.client, .int .i64 r.code, .int .i64 r.token, .string r.proof, .int .i64 r.upTo] 58)) (.cells #[.int .i64 0, .int .i64 0, .int .i64 0, .int .i64 0, .int .i64 0, .string ⟨#[]⟩, .int .i64 0, .int .i64 0, .int .i64 0, .int .i64 0, .int .i64 0, .int .i64 0, .int .i64 0, .bool false, .bool false] 61)
    rw [World.size_alloc] at h
    exact h
  have HW := Lib.hid hW
  have HB := Lib.hid hb0
  have R0 := Lib.hid r0
  have R1 := Lib.hid r1
  have hz := hb0.size
  have HV := Lib.hid (show rqV r = .agg #[.int .i64 r.no, .int .i64 r.kind, .int .i64 r.client, .int .i64 r.code, .int .i64 r.token, .string r.proof, .int .i64 r.upTo] from rfl)
  clear hW hb0 r0 r1
  obtain ⟨b, hb⟩ : ∃ b, rightB r = b := ⟨_, rfl⟩
  have HBb := Lib.hid hb
  rw [HV.out]
  go_enter Try.func23, Try.ntmps23
  go_wp2_with fail
  rw [← HV.out, ← HW.out]
  refine (right_spec r _ hp).mono ?_
  rw [HBb.out]
  rintro e w1 ⟨rfl, hb1⟩
  have S0 := Lib.hid (R0.out.below hb1 R0.out.lt)
  have S1 := Lib.hid (R1.out.below hb1 R1.out.lt)
  have HB1 := Lib.hid (HB.out.trans (hb1.mono hz))
  have c0 : w1.cell? ⟨w.heap.size, 0, none⟩ = some (.int .i64 r.no) := S0.out.cell 0
  have c1 : w1.cell? ⟨w.heap.size, 1, none⟩ = some (.int .i64 r.kind) := S0.out.cell 1
  have c2 : w1.cell? ⟨w.heap.size, 2, none⟩ = some (.int .i64 r.client) := S0.out.cell 2
  have c3 : w1.cell? ⟨w.heap.size, 3, none⟩ = some (.int .i64 r.code) := S0.out.cell 3
  have c4 : w1.cell? ⟨w.heap.size, 4, none⟩ = some (.int .i64 r.token) := S0.out.cell 4
  have c5 : w1.cell? ⟨w.heap.size, 5, none⟩ = some (.string r.proof) := S0.out.cell 5
  have c6 : w1.cell? ⟨w.heap.size, 6, none⟩ = some (.int .i64 r.upTo) := S0.out.cell 6
  have hT := Lib.hid (S1.out.there 0 15 (by simp))
  clear hb1
  cases b with
  | false =>
    have HN := Lib.hid (show newTh r = zeroT by simp [newTh, hb])
    clear hb
    go_wp2_with (refine Stop.out (p := wpList _ _ _ [{ dst := none, op := .store 61 (.tmp 2) (.tmp 6), type := _, pos := _, after := _, guard := _ }] _ _) ?_)
    constructor
    refine wpList_store_to rfl 61 (.tmp 2) (.tmp 6) rfl (w.heap.size + 1) 0 #[.int .i64 0, .int .i64 0, .int .i64 0, .int .i64 0, .int .i64 0, .string ⟨#[]⟩, .int .i64 0, .int .i64 0, .int .i64 0, .int .i64 0, .int .i64 0, .int .i64 0, .int .i64 0, .bool false, .bool false] rfl rfl hT.out sizeThread (oneThread zeroT) ?_
    intro Z hZ
    have hk7 : Kept w1.heap.size (w.heap.size + 1) (w.heap.size + 1) (w.heap.size + 1) w1 Z := by rw [hZ]; exact Kept.setCells (.inl rfl) _ 0 (Kept.refl _ _ _ _ _)
    have Z1 : Row Z (w.heap.size + 1) 61 (thL zeroT) := by rw [hZ]; exact S1.out.setCells _ 0
    have HBz := HB1.out.trans (hk7.below (B := w.heap.size) HB1.out.size (by omega) (by omega) (by omega))
    clear hZ hk7
    go_wp2_with fail
    refine bodyPost_ret (ret_thread rfl rfl Z1) rfl ?_
    exact ⟨by rw [HN.out], HBz⟩
  | true =>
    have HN := Lib.hid (show newTh r = newT r by simp [newTh, hb])
    have hp8 := rq_size hb
    clear hb
    go_wp2_with (refine Stop.out (p := wpList _ _ _ [{ dst := none, op := .store 61 (.tmp 2) (.tmp 8), type := _, pos := _, after := _, guard := _ }] _ _) ?_)
    constructor
    refine wpList_store_to rfl 61 (.tmp 2) (.tmp 8) rfl (w.heap.size + 1) 0 #[.int .i64 r.no, .int .i64 r.kind, .int .i64 r.client, .int .i64 r.code, .int .i64 r.token, .string r.proof, .int .i64 r.upTo, .int .i64 0, .int .i64 0, .int .i64 0, .int .i64 0, .int .i64 0, .int .i64 0, .bool false, .bool false] rfl rfl hT.out sizeThread (oneThread (newT r)) ?_
    intro Z hZ
    have hk7 : Kept w1.heap.size (w.heap.size + 1) (w.heap.size + 1) (w.heap.size + 1) w1 Z := by rw [hZ]; exact Kept.setCells (.inl rfl) _ 0 (Kept.refl _ _ _ _ _)
    have Z1 : Row Z (w.heap.size + 1) 61 (thL (newT r)) := by rw [hZ]; exact S1.out.setCells _ 0
    have HBz := HB1.out.trans (hk7.below (B := w.heap.size) HB1.out.size (by omega) (by omega) (by omega))
    clear hZ hk7
    go_wp2_with fail
    refine bodyPost_ret (ret_thread rfl rfl Z1) rfl ?_
    exact ⟨by rw [HN.out], HBz⟩
set_option maxHeartbeats 1000000 in
theorem new_impl (r : RQ) (w : World) (hp : r.proof.size ≤ maxLen) : Calls Try.prog 25 #[rqV r] w (Ret (thV (newTh r)) w) := by
  obtain ⟨W, hW⟩ : ∃ W, W = (w.alloc (.cells #[.int .i64 r.no, .int .i64 r.kind, .int .i64 r.client, .int .i64 r.code, .int .i64 r.token, .string r.proof, .int .i64 r.upTo] 58)).alloc (.cells #[.int .i64 0, .int .i64 0, .int .i64 0, .int .i64 0, .int .i64 0, .string ⟨#[]⟩, .int .i64 0, .int .i64 0, .int .i64 0, .int .i64 0, .int .i64 0, .int .i64 0, .int .i64 0, .bool false, .bool false] 61) := ⟨_, rfl⟩
  have hb0 : Below w.heap.size w W := by rw [hW]; go_grown
  have r0 : Row W w.heap.size 58 [.int .i64 r.no, .int .i64 r.kind, .int .i64 r.client, .int .i64 r.code, .int .i64 r.token, .string r.proof, .int .i64 r.upTo] := by
    rw [hW]
    exact Row.below (heap_alloc_new w _) ((Below.refl _ _).alloc (Nat.le_refl _) _) (by simp)
  have r1 : Row W (w.heap.size + 1) 61 [.int .i64 0, .int .i64 0, .int .i64 0, .int .i64 0, .int .i64 0, .string ⟨#[]⟩, .int .i64 0, .int .i64 0, .int .i64 0, .int .i64 0, .int .i64 0, .int .i64 0, .int .i64 0, .bool false, .bool false] := by
    rw [hW]
    have h := heap_alloc_new (w.alloc (.cells #[.int .i64 r.no, .int .i64 r.kind, .int .i64 r.client, .int .i64 r.code, .int .i64 r.token, .string r.proof, .int .i64 r.upTo] 58)) (.cells #[.int .i64 0, .int .i64 0, .int .i64 0, .int .i64 0, .int .i64 0, .string ⟨#[]⟩, .int .i64 0, .int .i64 0, .int .i64 0, .int .i64 0, .int .i64 0, .int .i64 0, .int .i64 0, .bool false, .bool false] 61)
    rw [World.size_alloc] at h
    exact h
  have HW := Lib.hid hW
  have HB := Lib.hid hb0
  have R0 := Lib.hid r0
  have R1 := Lib.hid r1
  have hz := hb0.size
  have HV := Lib.hid (show rqV r = .agg #[.int .i64 r.no, .int .i64 r.kind, .int .i64 r.client, .int .i64 r.code, .int .i64 r.token, .string r.proof, .int .i64 r.upTo] from rfl)
  clear hW hb0 r0 r1
  obtain ⟨b, hb⟩ : ∃ b, rightB r = b := ⟨_, rfl⟩
  have HBb := Lib.hid hb
  rw [HV.out]
  go_enter Try.func25, Try.ntmps25
  go_wp2_with fail
  rw [← HV.out, ← HW.out]
  refine (right_impl r _ hp).mono ?_
  rw [HBb.out]
  rintro e w1 ⟨rfl, hb1⟩
  have S0 := Lib.hid (R0.out.below hb1 R0.out.lt)
  have S1 := Lib.hid (R1.out.below hb1 R1.out.lt)
  have HB1 := Lib.hid (HB.out.trans (hb1.mono hz))
  have c0 : w1.cell? ⟨w.heap.size, 0, none⟩ = some (.int .i64 r.no) := S0.out.cell 0
  have c1 : w1.cell? ⟨w.heap.size, 1, none⟩ = some (.int .i64 r.kind) := S0.out.cell 1
  have c2 : w1.cell? ⟨w.heap.size, 2, none⟩ = some (.int .i64 r.client) := S0.out.cell 2
  have c3 : w1.cell? ⟨w.heap.size, 3, none⟩ = some (.int .i64 r.code) := S0.out.cell 3
  have c4 : w1.cell? ⟨w.heap.size, 4, none⟩ = some (.int .i64 r.token) := S0.out.cell 4
  have c5 : w1.cell? ⟨w.heap.size, 5, none⟩ = some (.string r.proof) := S0.out.cell 5
  have c6 : w1.cell? ⟨w.heap.size, 6, none⟩ = some (.int .i64 r.upTo) := S0.out.cell 6
  have hT := Lib.hid (S1.out.there 0 15 (by simp))
  clear hb1
  cases b with
  | false =>
    have HN := Lib.hid (show newTh r = zeroT by simp [newTh, hb])
    clear hb
    go_wp2_with (refine Stop.out (p := wpList _ _ _ [{ dst := none, op := .store 61 (.tmp 2) (.tmp 6), type := _, pos := _, after := _, guard := _ }] _ _) ?_)
    constructor
    refine wpList_store_to rfl 61 (.tmp 2) (.tmp 6) rfl (w.heap.size + 1) 0 #[.int .i64 0, .int .i64 0, .int .i64 0, .int .i64 0, .int .i64 0, .string ⟨#[]⟩, .int .i64 0, .int .i64 0, .int .i64 0, .int .i64 0, .int .i64 0, .int .i64 0, .int .i64 0, .bool false, .bool false] rfl rfl hT.out sizeThread (oneThread zeroT) ?_
    intro Z hZ
    have hk7 : Kept w1.heap.size (w.heap.size + 1) (w.heap.size + 1) (w.heap.size + 1) w1 Z := by rw [hZ]; exact Kept.setCells (.inl rfl) _ 0 (Kept.refl _ _ _ _ _)
    have Z1 : Row Z (w.heap.size + 1) 61 (thL zeroT) := by rw [hZ]; exact S1.out.setCells _ 0
    have HBz := HB1.out.trans (hk7.below (B := w.heap.size) HB1.out.size (by omega) (by omega) (by omega))
    clear hZ hk7
    go_wp2_with fail
    refine bodyPost_ret (ret_thread rfl rfl Z1) rfl ?_
    exact ⟨by rw [HN.out], HBz⟩
  | true =>
    have HN := Lib.hid (show newTh r = newT r by simp [newTh, hb])
    have hp8 := rq_size hb
    clear hb
    go_wp2_with fail
    refine (show Calls _ _ #[thV (newT r)] _ _ from (workerOf_any (newT r) _).mono ?_)
    rintro e w2 ⟨rfl, hk2, hb2⟩
    have T1 := Lib.hid (S1.out.below hb2 S1.out.lt)
    have HK2 := Lib.hid hk2
    have HB2 := Lib.hid (HB1.out.trans (hb2.mono HB1.out.size))
    clear hb2 hk2 c0 c1 c2 c3 c4 c5 c6 hT
    go_wp2_with fail
    refine (thread_any (newT r) _ _ HK2.out (by show r.proof.size ≤ _; omega)).mono ?_
    rintro e w3 ⟨rfl, hb3⟩
    have U1 := Lib.hid (T1.out.below hb3 T1.out.lt)
    have HB3 := Lib.hid (HB2.out.trans (hb3.mono HB2.out.size))
    have hT := Lib.hid (U1.out.there 0 15 (by simp))
    rw [show thV (newT r) = .agg #[.int .i64 r.no, .int .i64 r.kind, .int .i64 r.client, .int .i64 r.code, .int .i64 r.token, .string r.proof, .int .i64 r.upTo, .int .i64 0, .int .i64 0, .int .i64 0, .int .i64 0, .int .i64 0, .int .i64 0, .bool false, .bool false] from rfl]
    clear hb3
    go_wp2_with (refine Stop.out (p := wpList _ _ _ [{ dst := none, op := .store 61 (.tmp 2) (.tmp 10), type := _, pos := _, after := _, guard := _ }] _ _) ?_)
    constructor
    refine wpList_store_to rfl 61 (.tmp 2) (.tmp 10) rfl (w.heap.size + 1) 0 #[.int .i64 r.no, .int .i64 r.kind, .int .i64 r.client, .int .i64 r.code, .int .i64 r.token, .string r.proof, .int .i64 r.upTo, .int .i64 0, .int .i64 0, .int .i64 0, .int .i64 0, .int .i64 0, .int .i64 0, .bool false, .bool false] rfl rfl hT.out sizeThread (oneThread (newT r)) ?_
    intro Z hZ
    have hk7 : Kept w3.heap.size (w.heap.size + 1) (w.heap.size + 1) (w.heap.size + 1) w3 Z := by rw [hZ]; exact Kept.setCells (.inl rfl) _ 0 (Kept.refl _ _ _ _ _)
    have Z1 : Row Z (w.heap.size + 1) 61 (thL (newT r)) := by rw [hZ]; exact U1.out.setCells _ 0
    have HBz := HB3.out.trans (hk7.below (B := w.heap.size) HB3.out.size (by omega) (by omega) (by omega))
    clear hZ hk7
    go_wp2_with fail
    refine bodyPost_ret (ret_thread rfl rfl Z1) rfl ?_
    exact ⟨by rw [HN.out], HBz⟩
end Go.Proofs.Ytgkdajlkajmdiaa
