/- A thread out of a worker: the program's side of ThreadNew. -/
import Derived.Test.YtgkdajlkajmdiaaThRight
import Derived.Test.YtgkdajlkajmdiaaThTo
import Derived.Test.YtgkdajlkajmdiaaJoin
import Derived.Test.YtgkdajlkajmdiaaHeldL
import Derived.Deep.MidRow
namespace Go.Proofs.Ytgkdajlkajmdiaa
open Go Go.RowKit Go.Lib
set_option linter.unusedVariables false
set_option maxRecDepth 100000

section
variable {P : Program} {ops : Array Oper} {Q : Exit → Act → World → Prop} {o : Oper} {a : Act}
/-- A call as one step of a region that draws its order. -/
theorem stepT_call {w : World} {KK : Act → World → Prop} {F : Prop} (hgd : o.guard = none) (f : FuncId) (args : Array Value) (hrun : (execOp a.eval o).run P w = .ok (.enter f args) w) (v : Value) (R : World → Prop)
    (hc : Calls P f args w fun e w' => e = .returned v ∧ R w') (h : ∀ w', R w' → KK (a.put o.dst v) w') : if Region.wanted o (yielded ops a.tmps) = true then Oper.wp P o a w KK Q else F := by
  have hw : Region.wanted o (yielded ops a.tmps) = true := by simp [Region.wanted, hgd]
  rw [if_pos hw]
  unfold Oper.wp
  rw [hrun, Oper.upon_enter]
  refine hc.mono fun e w'' hh => ?_
  obtain ⟨rfl, hr⟩ := hh
  exact h _ hr
/-- A store of a struct as one step of a region that draws its order. -/
theorem stepT_store {w : World} {KK : Act → World → Prop} {F : Prop} (hgd : o.guard = none) (ty : TypeId) (x y : Operand) (ho : o.op = .store ty x y) (b i : Nat) (cells : Array Value) (hx : a.eval x = .pointer (some ⟨b, i, none⟩)) (hy : a.eval y = .agg cells)
    (ht : w.there b i cells.size) (hi : (P.info? ty).map (·.size) = some cells.size) (h1 : cells.all (·.oneCell') = true) (h : KK (a.put o.dst undef) (w.setCells b i cells.toList)) : if Region.wanted o (yielded ops a.tmps) = true then Oper.wp P o a w KK Q else F := by
  have hw : Region.wanted o (yielded ops a.tmps) = true := by simp [Region.wanted, hgd]
  rw [if_pos hw]
  exact wp_store_mid ty x y ho b i cells hx hy ht hi h1 h
end
theorem append_nil_bytes (t : ByteArray) : t ++ ⟨#[]⟩ = t := by
  apply ByteArray.ext
  simp
theorem ret_reqT {fn : Func} {p : Tmp} (h : fn.results = #[.cell p 58]) {tmps : Array Value} {w : World} {g : Nat} {r : RQ} (hp : tmps.getD p undef = .pointer (some ⟨g, 0, none⟩)) (hr : Row w g 58 [.int .i64 r.no, .int .i64 r.kind, .int .i64 r.client, .int .i64 r.code, .int .i64 r.token, .string r.proof, .int .i64 r.upTo]) :
    (results fn tmps).run Try.prog w = .ok (rqV r) w := by
  have hu := Try.underlying58
  exact results_cell_row h tmps w g 58 #[.int .i64 r.no, .int .i64 r.kind, .int .i64 r.client, .int .i64 r.code, .int .i64 r.token, .string r.proof, .int .i64 r.upTo] (0, 0) _ hp hr hu rfl sizeReqT
set_option maxHeartbeats 1000000 in
theorem inNew_any (r : RQ) (w : World) (hp : r.proof.size ≤ 100000) : Calls Try.prog 96 #[rqV r] w (Ret (rqV r) w) := by
  obtain ⟨W, hW⟩ : ∃ W, W = (w.alloc (.cells #[.int .i64 r.no, .int .i64 r.kind, .int .i64 r.client, .int .i64 r.code, .int .i64 r.token, .string r.proof, .int .i64 r.upTo] 58)).alloc (.cells #[.int .i64 0, .int .i64 0, .int .i64 0, .int .i64 0, .int .i64 0, .string ⟨#[]⟩, .int .i64 0] 58) := ⟨_, rfl⟩
  have hb0 : Below w.heap.size w W := by rw [hW]; go_grown
  have r0 : Row W w.heap.size 58 [.int .i64 r.no, .int .i64 r.kind, .int .i64 r.client, .int .i64 r.code, .int .i64 r.token, .string r.proof, .int .i64 r.upTo] := by
    rw [hW]
    exact Row.below (heap_alloc_new w _) ((Below.refl _ _).alloc (Nat.le_refl _) _) (by simp)
  have r1 : Row W (w.heap.size + 1) 58 [.int .i64 0, .int .i64 0, .int .i64 0, .int .i64 0, .int .i64 0, .string ⟨#[]⟩, .int .i64 0] := by
    rw [hW]
    have h := heap_alloc_new (w.alloc (.cells #[.int .i64 r.no, .int .i64 r.kind, .int .i64 r.client, .int .i64 r.code, .int .i64 r.token, .string r.proof, .int .i64 r.upTo] 58)) (.cells #[.int .i64 0, .int .i64 0, .int .i64 0, .int .i64 0, .int .i64 0, .string ⟨#[]⟩, .int .i64 0] 58)
    rw [World.size_alloc] at h
    exact h
  have HW := Lib.hid hW
  have HB := Lib.hid hb0
  have R0 := Lib.hid r0
  have R1 := Lib.hid r1
  have hz := hb0.size
  have HV := Lib.hid (show rqV r = .agg #[.int .i64 r.no, .int .i64 r.kind, .int .i64 r.client, .int .i64 r.code, .int .i64 r.token, .string r.proof, .int .i64 r.upTo] from rfl)
  have hj : r.proof.size + (⟨#[]⟩ : ByteArray).size ≤ 140737488355328 := by
    have : (⟨#[]⟩ : ByteArray).size = 0 := rfl
    omega
  clear hW hb0 r0 r1
  rw [HV.out]
  go_enter Try.func96, Try.ntmps96
  go_wp2_with fail
  rw [← HW.out]
  refine (join_any r.proof ⟨#[]⟩ _ hj).mono ?_
  rintro e w1 ⟨rfl, hb1⟩
  rw [append_nil_bytes]
  have S0 := Lib.hid (R0.out.below hb1 R0.out.lt)
  have S1 := Lib.hid (R1.out.below hb1 R1.out.lt)
  have HB1 := Lib.hid (HB.out.trans (hb1.mono hz))
  have z5 : w1.cell? ⟨w.heap.size, 5, none⟩ = some (.string r.proof) := S0.out.cell 5
  have f5 : w1.frozen? ⟨w.heap.size, 5, none⟩ = false := S0.out.free 5
  have t0 : Row (w1.setCell ⟨w.heap.size, 5, none⟩ (.string r.proof)) w.heap.size 58 [.int .i64 r.no, .int .i64 r.kind, .int .i64 r.client, .int .i64 r.code, .int .i64 r.token, .string r.proof, .int .i64 r.upTo] := S0.out.set 5 _
  have hk : Kept w1.heap.size w.heap.size w.heap.size w.heap.size w1 (w1.setCell ⟨w.heap.size, 5, none⟩ (.string r.proof)) := (Kept.refl _ _ _ _ _).setCell (a := ⟨w.heap.size, 5, none⟩) _ (.inl rfl)
  have T1 := Lib.hid (S1.out.kept hk S1.out.lt (by omega) (by omega) (by omega))
  have HB2 := Lib.hid (HB1.out.trans (hk.below (B := w.heap.size) HB1.out.size (by omega) (by omega) (by omega)))
  obtain ⟨V, hV⟩ : ∃ V, V = w1.setCell ⟨w.heap.size, 5, none⟩ (.string r.proof) := ⟨_, rfl⟩
  have HVe := Lib.hid hV
  rw [← hV] at t0 T1 HB2
  have d0 : V.cell? ⟨w.heap.size, 0, none⟩ = some (.int .i64 r.no) := t0.cell 0
  have d1 : V.cell? ⟨w.heap.size, 1, none⟩ = some (.int .i64 r.kind) := t0.cell 1
  have d2 : V.cell? ⟨w.heap.size, 2, none⟩ = some (.int .i64 r.client) := t0.cell 2
  have d3 : V.cell? ⟨w.heap.size, 3, none⟩ = some (.int .i64 r.code) := t0.cell 3
  have d4 : V.cell? ⟨w.heap.size, 4, none⟩ = some (.int .i64 r.token) := t0.cell 4
  have d5 : V.cell? ⟨w.heap.size, 5, none⟩ = some (.string r.proof) := t0.cell 5
  have d6 : V.cell? ⟨w.heap.size, 6, none⟩ = some (.int .i64 r.upTo) := t0.cell 6
  have hth : V.there (w.heap.size + 1) 0 (#[.int .i64 r.no, .int .i64 r.kind, .int .i64 r.client, .int .i64 r.code, .int .i64 r.token, .string r.proof, .int .i64 r.upTo] : Array Value).size := T1.out.there 0 7 (by simp)
  have HT := Lib.hid hth
  clear hb1 hk hth t0 hV
  rw [HVe.out] at d0 d1 d2 d3 d4 d5 d6
  go_wp2_with (refine Stop.out (p := wpList _ _ _ [{ dst := none, op := .store 58 (.tmp 2) (.tmp 7), type := _, pos := _, after := _, guard := _ }] _ _) ?_)
  constructor
  rw [← HVe.out]
  refine wpList_store_to rfl 58 (.tmp 2) (.tmp 7) rfl (w.heap.size + 1) 0 #[.int .i64 r.no, .int .i64 r.kind, .int .i64 r.client, .int .i64 r.code, .int .i64 r.token, .string r.proof, .int .i64 r.upTo] rfl rfl HT.out sizeReqT (oneReqT r) ?_
  intro Z hZ
  have hk7 : Kept w1.heap.size (w.heap.size + 1) (w.heap.size + 1) (w.heap.size + 1) V Z := by rw [hZ]; exact Kept.setCells (.inl rfl) _ 0 (Kept.refl _ _ _ _ _)
  have Z1 : Row Z (w.heap.size + 1) 58 [.int .i64 r.no, .int .i64 r.kind, .int .i64 r.client, .int .i64 r.code, .int .i64 r.token, .string r.proof, .int .i64 r.upTo] := by rw [hZ]; exact T1.out.setCells _ 0
  have HBz := HB2.out.trans (hk7.below (B := w.heap.size) HB1.out.size (by omega) (by omega) (by omega))
  clear hZ hk7
  go_wp2_with fail
  refine bodyPost_ret (ret_reqT rfl rfl Z1) rfl ?_
  exact ⟨rfl, HBz⟩
/-- At pb lies the worker of a thread. -/
def WkAt (w : World) (pb : Nat) (t : TH) : Prop := Row w pb 171 (thL t)
set_option maxHeartbeats 1000000 in
theorem workerOf_any (t : TH) (w : World) : Calls Try.prog 57 #[thV t] w fun e w' => e = .returned (.pointer (some ⟨w.heap.size + 1, 0, none⟩)) ∧ WkAt w' (w.heap.size + 1) t ∧ Below w.heap.size w w' := by
  have HV := Lib.hid (show thV t = .agg #[.int .i64 t.req.no, .int .i64 t.req.kind, .int .i64 t.req.client, .int .i64 t.req.code, .int .i64 t.req.token, .string t.req.proof, .int .i64 t.req.upTo, .int .i64 t.pc, .int .i64 t.ver, .int .i64 t.till, .int .i64 t.resp.code, .int .i64 t.resp.token, .int .i64 t.resp.next, .bool t.resp.yes, .bool t.done] from rfl)
  rw [HV.out]
  go_enter Try.func57, Try.ntmps57
  go_wp2_with fail
  go_ret
  refine ⟨by go_num, ?_, by go_grown⟩
  have h := heap_alloc_new (w.alloc (.cells #[.int .i64 t.req.no, .int .i64 t.req.kind, .int .i64 t.req.client, .int .i64 t.req.code, .int .i64 t.req.token, .string t.req.proof, .int .i64 t.req.upTo, .int .i64 t.pc, .int .i64 t.ver, .int .i64 t.till, .int .i64 t.resp.code, .int .i64 t.resp.token, .int .i64 t.resp.next, .bool t.resp.yes, .bool t.done] 61)) (.cells #[.int .i64 t.req.no, .int .i64 t.req.kind, .int .i64 t.req.client, .int .i64 t.req.code, .int .i64 t.req.token, .string t.req.proof, .int .i64 t.req.upTo, .int .i64 t.pc, .int .i64 t.ver, .int .i64 t.till, .int .i64 t.resp.code, .int .i64 t.resp.token, .int .i64 t.resp.next, .bool t.resp.yes, .bool t.done] 171)
  rw [World.size_alloc] at h
  exact h
set_option maxHeartbeats 4000000 in
theorem thread_any (t : TH) (pb : Nat) (w : World) (hw : WkAt w pb t) (hp : t.req.proof.size ≤ 100000) : Calls Try.prog 58 #[.pointer (some ⟨pb, 0, none⟩)] w (Ret (thV t) w) := by
  have hb0 := (Below.refl w.heap.size w).alloc (Nat.le_refl _) (.cells #[.int .i64 0, .int .i64 0, .int .i64 0, .int .i64 0, .int .i64 0, .string ⟨#[]⟩, .int .i64 0, .int .i64 0, .int .i64 0, .int .i64 0, .int .i64 0, .int .i64 0, .int .i64 0, .bool false, .bool false] 61)
  have hr : Row (w.alloc (.cells #[.int .i64 0, .int .i64 0, .int .i64 0, .int .i64 0, .int .i64 0, .string ⟨#[]⟩, .int .i64 0, .int .i64 0, .int .i64 0, .int .i64 0, .int .i64 0, .int .i64 0, .int .i64 0, .bool false, .bool false] 61)) w.heap.size 61 [.int .i64 0, .int .i64 0, .int .i64 0, .int .i64 0, .int .i64 0, .string ⟨#[]⟩, .int .i64 0, .int .i64 0, .int .i64 0, .int .i64 0, .int .i64 0, .int .i64 0, .int .i64 0, .bool false, .bool false] := heap_alloc_new w _
  obtain ⟨W, hW⟩ : ∃ W, W = w.alloc (.cells #[.int .i64 0, .int .i64 0, .int .i64 0, .int .i64 0, .int .i64 0, .string ⟨#[]⟩, .int .i64 0, .int .i64 0, .int .i64 0, .int .i64 0, .int .i64 0, .int .i64 0, .int .i64 0, .bool false, .bool false] 61) := ⟨_, rfl⟩
  have hk := Row.below hw hb0 hw.lt
  rw [← hW] at hb0 hr hk
  have HW := Lib.hid hW
  have HB := Lib.hid hb0
  have HR := Lib.hid hr
  have HKr := Lib.hid hk
  have hpl : pb < w.heap.size := hw.lt
  have HK9 : Hid (∀ w', Below W.heap.size W w' → w'.cell? ⟨pb, 0, none⟩ = some (.int .i64 t.req.no) ∧ w'.cell? ⟨pb, 1, none⟩ = some (.int .i64 t.req.kind) ∧ w'.cell? ⟨pb, 2, none⟩ = some (.int .i64 t.req.client) ∧ w'.cell? ⟨pb, 3, none⟩ = some (.int .i64 t.req.code) ∧ w'.cell? ⟨pb, 4, none⟩ = some (.int .i64 t.req.token) ∧ w'.cell? ⟨pb, 5, none⟩ = some (.string t.req.proof) ∧ w'.cell? ⟨pb, 6, none⟩ = some (.int .i64 t.req.upTo) ∧ w'.cell? ⟨pb, 7, none⟩ = some (.int .i64 t.pc) ∧ w'.cell? ⟨pb, 8, none⟩ = some (.int .i64 t.ver) ∧ w'.cell? ⟨pb, 9, none⟩ = some (.int .i64 t.till) ∧ w'.cell? ⟨pb, 10, none⟩ = some (.int .i64 t.resp.code) ∧ w'.cell? ⟨pb, 11, none⟩ = some (.int .i64 t.resp.token) ∧ w'.cell? ⟨pb, 12, none⟩ = some (.int .i64 t.resp.next) ∧ w'.cell? ⟨pb, 13, none⟩ = some (.bool t.resp.yes) ∧ w'.cell? ⟨pb, 14, none⟩ = some (.bool t.done)) := Lib.hid (fun w' hb => by
    have h := hk.below hb hk.lt
    exact ⟨h.cell 0, h.cell 1, h.cell 2, h.cell 3, h.cell 4, h.cell 5, h.cell 6, h.cell 7, h.cell 8, h.cell 9, h.cell 10, h.cell 11, h.cell 12, h.cell 13, h.cell 14⟩)
  have hz := hb0.size
  have HVr := Lib.hid (show rqV t.req = .agg #[.int .i64 t.req.no, .int .i64 t.req.kind, .int .i64 t.req.client, .int .i64 t.req.code, .int .i64 t.req.token, .string t.req.proof, .int .i64 t.req.upTo] from rfl)
  clear hb0 hr hk hw hW
  go_enter Try.func58, Try.ntmps58
  go_wp2_with fail
  rw [← HW.out]
  have HBd := Lib.hid ((Below.refl W.heap.size W).drew)
  refine region_L 26 (fun _ => True) (fun w' => w'.cell? ⟨pb, 0, none⟩ = some (.int .i64 t.req.no) ∧ w'.cell? ⟨pb, 1, none⟩ = some (.int .i64 t.req.kind) ∧ w'.cell? ⟨pb, 2, none⟩ = some (.int .i64 t.req.client) ∧ w'.cell? ⟨pb, 3, none⟩ = some (.int .i64 t.req.code) ∧ w'.cell? ⟨pb, 4, none⟩ = some (.int .i64 t.req.token) ∧ w'.cell? ⟨pb, 5, none⟩ = some (.string t.req.proof) ∧ w'.cell? ⟨pb, 6, none⟩ = some (.int .i64 t.req.upTo) ∧ w'.cell? ⟨pb, 7, none⟩ = some (.int .i64 t.pc) ∧ w'.cell? ⟨pb, 8, none⟩ = some (.int .i64 t.ver) ∧ w'.cell? ⟨pb, 9, none⟩ = some (.int .i64 t.till) ∧ w'.cell? ⟨pb, 10, none⟩ = some (.int .i64 t.resp.code) ∧ w'.cell? ⟨pb, 11, none⟩ = some (.int .i64 t.resp.token) ∧ w'.cell? ⟨pb, 12, none⟩ = some (.int .i64 t.resp.next) ∧ w'.cell? ⟨pb, 13, none⟩ = some (.bool t.resp.yes) ∧ w'.cell? ⟨pb, 14, none⟩ = some (.bool t.done)) (by kernel_rfl) ⟨fun _ => trivial, HK9.out _ HBd.out⟩ (fun hHL => ?_)
  refine wpAnyL_take (i := 0) (v := ?_) (by rfl) rfl (by kernel_rfl) (by kernel_rfl) (by kernel_rfl) (fun _ _ _ h => h) (Or.inl ⟨by rfl, ?_⟩) hHL ?_
  rotate_left
  · intro w hSw; (try dsimp only at hSw); (first | (go_simp; done) | (go_simp; with_reducible rfl))
  clear hHL
  intro hHL
  (try simp only [Act.put, List.setIfInBounds_toArray, List.set_cons_zero, List.set_cons_succ])
  refine wpAnyL_take (i := 1) (v := ?_) (by rfl) rfl (by kernel_rfl) (by kernel_rfl) (by kernel_rfl) (fun _ _ _ h => h) (Or.inl ⟨by rfl, ?_⟩) hHL ?_
  rotate_left
  · intro w hSw; (try dsimp only at hSw); (first | (go_simp; done) | (go_simp; with_reducible rfl))
  clear hHL
  intro hHL
  (try simp only [Act.put, List.setIfInBounds_toArray, List.set_cons_zero, List.set_cons_succ])
  refine wpAnyL_take (i := 2) (v := ?_) (by rfl) rfl (by kernel_rfl) (by kernel_rfl) (by kernel_rfl) (fun _ _ _ h => h) (Or.inl ⟨by rfl, ?_⟩) hHL ?_
  rotate_left
  · intro w hSw; (try dsimp only at hSw); (first | (go_simp; done) | (go_simp; with_reducible rfl))
  clear hHL
  intro hHL
  (try simp only [Act.put, List.setIfInBounds_toArray, List.set_cons_zero, List.set_cons_succ])
  refine wpAnyL_take (i := 3) (v := ?_) (by rfl) rfl (by kernel_rfl) (by kernel_rfl) (by kernel_rfl) (fun _ _ _ h => h) (Or.inl ⟨by rfl, ?_⟩) hHL ?_
  rotate_left
  · intro w hSw; (try dsimp only at hSw); (first | (go_simp; done) | (go_simp; with_reducible rfl))
  clear hHL
  intro hHL
  (try simp only [Act.put, List.setIfInBounds_toArray, List.set_cons_zero, List.set_cons_succ])
  refine wpAnyL_take (i := 5) (v := ?_) (by rfl) rfl (by kernel_rfl) (by kernel_rfl) (by kernel_rfl) (fun _ _ _ h => h) (Or.inl ⟨by rfl, ?_⟩) hHL ?_
  rotate_left
  · intro w hSw; (try dsimp only at hSw); (first | (go_simp; done) | (go_simp; with_reducible rfl))
  clear hHL
  intro hHL
  (try simp only [Act.put, List.setIfInBounds_toArray, List.set_cons_zero, List.set_cons_succ])
  refine wpAnyL_take (i := 6) (v := ?_) (by rfl) rfl (by kernel_rfl) (by kernel_rfl) (by kernel_rfl) (fun _ _ _ h => h) (Or.inl ⟨by rfl, ?_⟩) hHL ?_
  rotate_left
  · intro w hSw; (try dsimp only at hSw); (first | (go_simp; done) | (go_simp; with_reducible rfl))
  clear hHL
  intro hHL
  (try simp only [Act.put, List.setIfInBounds_toArray, List.set_cons_zero, List.set_cons_succ])
  refine wpAnyL_take (i := 7) (v := ?_) (by rfl) rfl (by kernel_rfl) (by kernel_rfl) (by kernel_rfl) (fun _ _ _ h => h) (Or.inl ⟨by rfl, ?_⟩) hHL ?_
  rotate_left
  · intro w hSw; (try dsimp only at hSw); (first | (go_simp; done) | (go_simp; with_reducible rfl))
  clear hHL
  intro hHL
  (try simp only [Act.put, List.setIfInBounds_toArray, List.set_cons_zero, List.set_cons_succ])
  refine wpAnyL_take (i := 8) (v := ?_) (by rfl) rfl (by kernel_rfl) (by kernel_rfl) (by kernel_rfl) (fun _ _ _ h => h) (Or.inl ⟨by rfl, ?_⟩) hHL ?_
  rotate_left
  · intro w hSw; (try dsimp only at hSw); (first | (go_simp; done) | (go_simp; with_reducible rfl))
  clear hHL
  intro hHL
  (try simp only [Act.put, List.setIfInBounds_toArray, List.set_cons_zero, List.set_cons_succ])
  refine wpAnyL_take (i := 9) (v := ?_) (by rfl) rfl (by kernel_rfl) (by kernel_rfl) (by kernel_rfl) (fun _ _ _ h => h) (Or.inl ⟨by rfl, ?_⟩) hHL ?_
  rotate_left
  · intro w hSw; (try dsimp only at hSw); (first | (go_simp; done) | (go_simp; with_reducible rfl))
  clear hHL
  intro hHL
  (try simp only [Act.put, List.setIfInBounds_toArray, List.set_cons_zero, List.set_cons_succ])
  refine wpAnyL_take (i := 10) (v := ?_) (by rfl) rfl (by kernel_rfl) (by kernel_rfl) (by kernel_rfl) (fun _ _ _ h => h) (Or.inl ⟨by rfl, ?_⟩) hHL ?_
  rotate_left
  · intro w hSw; (try dsimp only at hSw); (first | (go_simp; done) | (go_simp; with_reducible rfl))
  clear hHL
  intro hHL
  (try simp only [Act.put, List.setIfInBounds_toArray, List.set_cons_zero, List.set_cons_succ])
  refine wpAnyL_take (i := 11) (v := ?_) (by rfl) rfl (by kernel_rfl) (by kernel_rfl) (by kernel_rfl) (fun _ _ _ h => h) (Or.inl ⟨by rfl, ?_⟩) hHL ?_
  rotate_left
  · intro w hSw; (try dsimp only at hSw); (first | (go_simp; done) | (go_simp; with_reducible rfl))
  clear hHL
  intro hHL
  (try simp only [Act.put, List.setIfInBounds_toArray, List.set_cons_zero, List.set_cons_succ])
  refine wpAnyL_take (i := 12) (v := ?_) (by rfl) rfl (by kernel_rfl) (by kernel_rfl) (by kernel_rfl) (fun _ _ _ h => h) (Or.inl ⟨by rfl, ?_⟩) hHL ?_
  rotate_left
  · intro w hSw; (try dsimp only at hSw); (first | (go_simp; done) | (go_simp; with_reducible rfl))
  clear hHL
  intro hHL
  (try simp only [Act.put, List.setIfInBounds_toArray, List.set_cons_zero, List.set_cons_succ])
  refine wpAnyL_take (i := 13) (v := ?_) (by rfl) rfl (by kernel_rfl) (by kernel_rfl) (by kernel_rfl) (fun _ _ _ h => h) (Or.inl ⟨by rfl, ?_⟩) hHL ?_
  rotate_left
  · intro w hSw; (try dsimp only at hSw); (first | (go_simp; done) | (go_simp; with_reducible rfl))
  clear hHL
  intro hHL
  (try simp only [Act.put, List.setIfInBounds_toArray, List.set_cons_zero, List.set_cons_succ])
  refine wpAnyL_take (i := 14) (v := ?_) (by rfl) rfl (by kernel_rfl) (by kernel_rfl) (by kernel_rfl) (fun _ _ _ h => h) (Or.inl ⟨by rfl, ?_⟩) hHL ?_
  rotate_left
  · intro w hSw; (try dsimp only at hSw); (first | (go_simp; done) | (go_simp; with_reducible rfl))
  clear hHL
  intro hHL
  (try simp only [Act.put, List.setIfInBounds_toArray, List.set_cons_zero, List.set_cons_succ])
  refine wpAnyL_take (i := 15) (v := ?_) (by rfl) rfl (by kernel_rfl) (by kernel_rfl) (by kernel_rfl) (fun _ _ _ h => h) (Or.inl ⟨by rfl, ?_⟩) hHL ?_
  rotate_left
  · intro w hSw; (try dsimp only at hSw); (first | (go_simp; done) | (go_simp; with_reducible rfl))
  clear hHL
  intro hHL
  (try simp only [Act.put, List.setIfInBounds_toArray, List.set_cons_zero, List.set_cons_succ])
  refine wpAnyL_take (i := 16) (v := ?_) (by rfl) rfl (by kernel_rfl) (by kernel_rfl) (by kernel_rfl) (fun _ _ _ h => h) (Or.inl ⟨by rfl, ?_⟩) hHL ?_
  rotate_left
  · intro w hSw; (try dsimp only at hSw); (first | (go_simp; done) | (go_simp; with_reducible rfl))
  clear hHL
  intro hHL
  (try simp only [Act.put, List.setIfInBounds_toArray, List.set_cons_zero, List.set_cons_succ])
  refine wpAnyL_take (i := 17) (v := ?_) (by rfl) rfl (by kernel_rfl) (by kernel_rfl) (by kernel_rfl) (fun _ _ _ h => h) (Or.inl ⟨by rfl, ?_⟩) hHL ?_
  rotate_left
  · intro w hSw; (try dsimp only at hSw); (first | (go_simp; done) | (go_simp; with_reducible rfl))
  clear hHL
  intro hHL
  (try simp only [Act.put, List.setIfInBounds_toArray, List.set_cons_zero, List.set_cons_succ])
  refine wpAnyL_take (i := 18) (v := ?_) (by rfl) rfl (by kernel_rfl) (by kernel_rfl) (by kernel_rfl) (fun _ _ _ h => h) (Or.inl ⟨by rfl, ?_⟩) hHL ?_
  rotate_left
  · intro w hSw; (try dsimp only at hSw); (first | (go_simp; done) | (go_simp; with_reducible rfl))
  clear hHL
  intro hHL
  (try simp only [Act.put, List.setIfInBounds_toArray, List.set_cons_zero, List.set_cons_succ])
  refine wpAnyL_take (i := 19) (v := ?_) (by rfl) rfl (by kernel_rfl) (by kernel_rfl) (by kernel_rfl) (fun _ _ _ h => h) (Or.inl ⟨by rfl, ?_⟩) hHL ?_
  rotate_left
  · intro w hSw; (try dsimp only at hSw); (first | (go_simp; done) | (go_simp; with_reducible rfl))
  clear hHL
  intro hHL
  (try simp only [Act.put, List.setIfInBounds_toArray, List.set_cons_zero, List.set_cons_succ])
  refine wpAnyL_take (i := 20) (v := ?_) (by rfl) rfl (by kernel_rfl) (by kernel_rfl) (by kernel_rfl) (fun _ _ _ h => h) (Or.inl ⟨by rfl, ?_⟩) hHL ?_
  rotate_left
  · intro w hSw; (try dsimp only at hSw); (first | (go_simp; done) | (go_simp; with_reducible rfl))
  clear hHL
  intro hHL
  (try simp only [Act.put, List.setIfInBounds_toArray, List.set_cons_zero, List.set_cons_succ])
  refine wpAnyL_take (i := 21) (v := ?_) (by rfl) rfl (by kernel_rfl) (by kernel_rfl) (by kernel_rfl) (fun _ _ _ h => h) (Or.inl ⟨by rfl, ?_⟩) hHL ?_
  rotate_left
  · intro w hSw; (try dsimp only at hSw); (first | (go_simp; done) | (go_simp; with_reducible rfl))
  clear hHL
  intro hHL
  (try simp only [Act.put, List.setIfInBounds_toArray, List.set_cons_zero, List.set_cons_succ])
  refine wpAnyL_take (i := 22) (v := ?_) (by rfl) rfl (by kernel_rfl) (by kernel_rfl) (by kernel_rfl) (fun _ _ _ h => h) (Or.inl ⟨by rfl, ?_⟩) hHL ?_
  rotate_left
  · intro w hSw; (try dsimp only at hSw); (first | (go_simp; done) | (go_simp; with_reducible rfl))
  clear hHL
  intro hHL
  (try simp only [Act.put, List.setIfInBounds_toArray, List.set_cons_zero, List.set_cons_succ])
  refine wpAnyL_take (i := 23) (v := ?_) (by rfl) rfl (by kernel_rfl) (by kernel_rfl) (by kernel_rfl) (fun _ _ _ h => h) (Or.inl ⟨by rfl, ?_⟩) hHL ?_
  rotate_left
  · intro w hSw; (try dsimp only at hSw); (first | (go_simp; done) | (go_simp; with_reducible rfl))
  clear hHL
  intro hHL
  (try simp only [Act.put, List.setIfInBounds_toArray, List.set_cons_zero, List.set_cons_succ])
  refine wpAnyL_take (i := 24) (v := ?_) (by rfl) rfl (by kernel_rfl) (by kernel_rfl) (by kernel_rfl) (fun _ _ _ h => h) (Or.inl ⟨by rfl, ?_⟩) hHL ?_
  rotate_left
  · intro w hSw; (try dsimp only at hSw); (first | (go_simp; done) | (go_simp; with_reducible rfl))
  clear hHL
  intro hHL
  (try simp only [Act.put, List.setIfInBounds_toArray, List.set_cons_zero, List.set_cons_succ])
  refine wpAnyL_ready (rs := [4]) (by kernel_rfl) (by simp) ?_
  refine AllReadyL.cons rfl (fun K hK => ?_) AllReadyL.nil
  refine stepT_call rfl 96 #[.agg #[.int .i64 t.req.no, .int .i64 t.req.kind, .int .i64 t.req.client, .int .i64 t.req.code, .int .i64 t.req.token, .string t.req.proof, .int .i64 t.req.upTo]] (by kernel_rfl) (.agg #[.int .i64 t.req.no, .int .i64 t.req.kind, .int .i64 t.req.client, .int .i64 t.req.code, .int .i64 t.req.token, .string t.req.proof, .int .i64 t.req.upTo]) (fun w' => Below W.drew.heap.size W.drew w') (inNew_any t.req _ hp) ?_
  intro w7 hb7
  have HB7 := Lib.hid (HBd.out.trans hb7)
  refine hK.out _ _ ⟨fun _ => trivial, HK9.out _ HB7.out⟩ (fun hHL => ?_)
  clear hK K hb7
  (try simp only [Act.put, List.setIfInBounds_toArray, List.set_cons_zero, List.set_cons_succ])
  refine wpAnyL_take (i := 25) (v := ?_) (by rfl) rfl (by kernel_rfl) (by kernel_rfl) (by kernel_rfl) (fun _ _ _ h => h) (Or.inl ⟨by rfl, ?_⟩) hHL ?_
  rotate_left
  · intro w hSw; (try dsimp only at hSw); (first | (go_simp; done) | (go_simp; with_reducible rfl))
  clear hHL
  intro hHL
  (try simp only [Act.put, List.setIfInBounds_toArray, List.set_cons_zero, List.set_cons_succ])
  refine wpAnyL_ready (rs := [26]) (by kernel_rfl) (by simp) ?_
  refine AllReadyL.cons rfl (fun K hK => ?_) AllReadyL.nil
  have h7 := HR.out.below HB7.out HR.out.lt
  refine stepT_store rfl 61 (.tmp 2) (.tmp 28) rfl w.heap.size 0 #[.int .i64 t.req.no, .int .i64 t.req.kind, .int .i64 t.req.client, .int .i64 t.req.code, .int .i64 t.req.token, .string t.req.proof, .int .i64 t.req.upTo, .int .i64 t.pc, .int .i64 t.ver, .int .i64 t.till, .int .i64 t.resp.code, .int .i64 t.resp.token, .int .i64 t.resp.next, .bool t.resp.yes, .bool t.done] rfl rfl (h7.there 0 15 (by simp)) sizeThread (oneThread t) ?_
  refine hK.out _ _ ⟨fun _ => trivial, ?_⟩ (fun hHL => ?_)
  · have hk8 : Kept w7.heap.size w.heap.size w.heap.size w.heap.size w7 (w7.setCells w.heap.size 0 #[.int .i64 t.req.no, .int .i64 t.req.kind, .int .i64 t.req.client, .int .i64 t.req.code, .int .i64 t.req.token, .string t.req.proof, .int .i64 t.req.upTo, .int .i64 t.pc, .int .i64 t.ver, .int .i64 t.till, .int .i64 t.resp.code, .int .i64 t.resp.token, .int .i64 t.resp.next, .bool t.resp.yes, .bool t.done].toList) := Kept.setCells (.inl rfl) _ 0 (Kept.refl _ _ _ _ _)
    have h8 := HKr.out.below HB7.out HKr.out.lt
    have h := h8.kept hk8 h8.lt (by omega) (by omega) (by omega)
    exact ⟨h.cell 0, h.cell 1, h.cell 2, h.cell 3, h.cell 4, h.cell 5, h.cell 6, h.cell 7, h.cell 8, h.cell 9, h.cell 10, h.cell 11, h.cell 12, h.cell 13, h.cell 14⟩
  clear hK K hHL
  refine wpAnyL_done (by kernel_rfl) ?_ _
  have hk8 : Kept w7.heap.size w.heap.size w.heap.size w.heap.size w7 (w7.setCells w.heap.size 0 #[.int .i64 t.req.no, .int .i64 t.req.kind, .int .i64 t.req.client, .int .i64 t.req.code, .int .i64 t.req.token, .string t.req.proof, .int .i64 t.req.upTo, .int .i64 t.pc, .int .i64 t.ver, .int .i64 t.till, .int .i64 t.resp.code, .int .i64 t.resp.token, .int .i64 t.resp.next, .bool t.resp.yes, .bool t.done].toList) := Kept.setCells (.inl rfl) _ 0 (Kept.refl _ _ _ _ _)
  have Z1 : Row (w7.setCells w.heap.size 0 #[.int .i64 t.req.no, .int .i64 t.req.kind, .int .i64 t.req.client, .int .i64 t.req.code, .int .i64 t.req.token, .string t.req.proof, .int .i64 t.req.upTo, .int .i64 t.pc, .int .i64 t.ver, .int .i64 t.till, .int .i64 t.resp.code, .int .i64 t.resp.token, .int .i64 t.resp.next, .bool t.resp.yes, .bool t.done].toList) w.heap.size 61 (thL t) := h7.setCells _ 0
  have HBz := Lib.hid ((HB.out.trans (HB7.out.mono hz)).trans (hk8.below (B := w.heap.size) (by have := HB7.out.size; omega) (by omega) (by omega) (by omega)))
  have HZ1 := Lib.hid Z1
  clear hk8 Z1 h7
  generalize (w7.setCells w.heap.size 0 #[.int .i64 t.req.no, .int .i64 t.req.kind, .int .i64 t.req.client, .int .i64 t.req.code, .int .i64 t.req.token, .string t.req.proof, .int .i64 t.req.upTo, .int .i64 t.pc, .int .i64 t.ver, .int .i64 t.till, .int .i64 t.resp.code, .int .i64 t.resp.token, .int .i64 t.resp.next, .bool t.resp.yes, .bool t.done].toList) = Z at HBz HZ1 ⊢
  go_wp2_with fail
  refine bodyPost_ret (ret_thread rfl rfl HZ1.out) rfl ?_
  exact ⟨rfl, HBz.out⟩
end Go.Proofs.Ytgkdajlkajmdiaa
