/- The model: the two keys that a request is given; a key marked. -/
import Derived.Test.YtchfgdiipjbgoaaGreatFSpM
import Derived.Test.YtchfgdiipjbgoaaGreatFGdE
import Derived.Laws.BitsLemmas
namespace Go.Proofs.YtchfgdiipjbgoaaGreat
open Go Go.RowKit Go.Lib
set_option linter.unusedVariables false
set_option maxRecDepth 100000

def kyL (x : Ky) : List Value := [.int .i64 x.no, .int .i64 x.client, .int .i64 x.fam, .bool x.refresh, .int .i64 x.till, .int .i64 x.state]
theorem ret_key {fn : Func} {p : Tmp} (h : fn.results = #[.cell p 138]) {tmps : Array Value} {w : World} {g : Nat} {x : Ky} (hp : tmps.getD p undef = .pointer (some ⟨g, 0, none⟩)) (hr : Row w g 138 (kyL x)) :
  (results fn tmps).run Tryz.prog w = .ok (kyV x) w := by
 have hu := Tryz.underlying138
 exact results_cell_row h tmps w g 138 (kyL x).toArray (0, 0) _ hp hr hu rfl sizeKey
theorem wrap_small {n : Int} (h0 : -1000000000 ≤ n) (h1 : n ≤ 1000000000) : IntKind.i64.wrap n = n := by rw [IntKind.wrap_i64]; omega
set_option maxHeartbeats 1000000 in
theorem access_spec (r : RQ) (fam now : Int) (w : World) (hn : 1 ≤ r.no ∧ r.no ≤ 99) (ht : 0 ≤ now ∧ now ≤ 1000000) : Calls Tryz.prog 224 #[rqV r, .int .i64 fam, .int .i64 now] w (Ret (kyV (accK r fam now)) w) := by
 obtain ⟨n0, n1⟩ := hn
 obtain ⟨t0, t1⟩ := ht
 have W1 : Hid (IntKind.i64.wrap (10 * r.no) = 10 * r.no) := Lib.hid (wrap_small (by omega) (by omega))
 have W2 : Hid (IntKind.i64.wrap (10 * r.no + 1) = 10 * r.no + 1) := Lib.hid (wrap_small (by omega) (by omega))
 have W3 : Hid (IntKind.i64.wrap (now + 60) = now + 60) := Lib.hid (wrap_small (by omega) (by omega))
 unfold rqV
 obtain ⟨X, hX⟩ : ∃ X, X = (w.alloc (.cells #[.int .i64 r.no, .int .i64 r.kind, .int .i64 r.client, .int .i64 r.code, .int .i64 r.token, .string r.proof, .int .i64 r.upTo] 29)).alloc (.cells #[.int .i64 0, .int .i64 0, .int .i64 0, .bool false, .int .i64 0, .int .i64 0] 138) := ⟨_, rfl⟩
 obtain ⟨s, hs⟩ : ∃ s, s = w.heap.size := ⟨_, rfl⟩
 have hbx : Below w.heap.size w X := by rw [hX]; exact ((Below.refl _ _).alloc (Nat.le_refl _) _).alloc (by simp) _
 have hqx : Row X s 29 (rqL r) := by rw [hX, hs]; exact Row.below (heap_alloc_new w _) ((Below.refl (w.alloc _).heap.size _).alloc (Nat.le_refl _) _) (by simp)
 have hax : Row X (s + 1) 138 [.int .i64 0, .int .i64 0, .int .i64 0, .bool false, .int .i64 0, .int .i64 0] := by rw [hX, hs]; exact heap_alloc2_new w _ _
 have HX0 := Lib.hid hX
 have HSe := Lib.hid hs
 have HBx := Lib.hid hbx
 have HAx := Lib.hid hax
 have c0 : X.cell? ⟨s, 0, none⟩ = some (.int .i64 r.no) := hqx.cell 0
 have c2 : X.cell? ⟨s, 2, none⟩ = some (.int .i64 r.client) := hqx.cell 2
 clear hX hs hbx hqx hax
 go_enter Tryz.func224, Tryz.ntmps224
 go_wp2_with fail
 rw [← HX0.out, ← HSe.out]
 refine region_tail 11 (by kernel_rfl) (by kernel_rfl) ?_
 simp only [List.take_succ_cons, List.take_zero, List.drop_succ_cons, List.drop_zero]
 repeat still_step
 try simp only [W1.out, W2.out, W3.out]
 still_call (upT_spec _ _)
 repeat still_step
 refine wpStill_nil ?_
 have hbV : Below X.heap.size X X.drew := (Below.refl _ _).drew
 obtain ⟨V, hV⟩ : ∃ V, V = X.drew := ⟨_, rfl⟩
 rw [← hV] at hbV ⊢
 have HAV := Lib.hid (HAx.out.below hbV HAx.out.lt)
 have HBV := Lib.hid (HBx.out.trans (hbV.mono HBx.out.size))
 have hsw : s = w.heap.size := HSe.out
 have hth : V.there (s + 1) 0 (#[.int .i64 (10 * r.no + 1), .int .i64 r.client, .int .i64 fam, .bool false, .int .i64 (upT (now + 60)), .int .i64 0] : Array Value).size := HAV.out.there 0 6 (by simp)
 have HT := Lib.hid hth
 have HS2 := Lib.hid hsw
 clear hV hbV hth hsw c0 c2
 refine wpList_store_to rfl 138 (.tmp 6) (.tmp 17) rfl (s + 1) 0 #[.int .i64 (10 * r.no + 1), .int .i64 r.client, .int .i64 fam, .bool false, .int .i64 (upT (now + 60)), .int .i64 0] rfl rfl HT.out sizeKey (oneKey (accK r fam now)) ?_
 intro Z hZ
 have hk : Kept V.heap.size (s + 1) (s + 1) (s + 1) V Z := by rw [hZ]; exact Kept.setCells (.inl rfl) _ 0 (Kept.refl _ _ _ _ _)
 have HZ1 : Hid (Row Z (s + 1) 138 (kyL (accK r fam now))) := Lib.hid (by rw [hZ]; exact HAV.out.setCells _ 0)
 have HBZ := Lib.hid (HBV.out.trans (hk.below (B := w.heap.size) (by have := HBV.out.size; omega) (by have := HS2.out; omega) (by have := HS2.out; omega) (by have := HS2.out; omega)))
 clear hZ hk
 go_wp2_with fail
 refine bodyPost_ret (ret_key rfl rfl HZ1.out) rfl ?_
 exact ⟨rfl, HBZ.out⟩
set_option maxHeartbeats 1000000 in
theorem next_spec (r : RQ) (fam now : Int) (w : World) (hn : 1 ≤ r.no ∧ r.no ≤ 99) (ht : 0 ≤ now ∧ now ≤ 1000000) : Calls Tryz.prog 225 #[rqV r, .int .i64 fam, .int .i64 now] w (Ret (kyV (nextK r fam now)) w) := by
 obtain ⟨n0, n1⟩ := hn
 obtain ⟨t0, t1⟩ := ht
 have W1 : Hid (IntKind.i64.wrap (10 * r.no) = 10 * r.no) := Lib.hid (wrap_small (by omega) (by omega))
 have W2 : Hid (IntKind.i64.wrap (10 * r.no + 2) = 10 * r.no + 2) := Lib.hid (wrap_small (by omega) (by omega))
 have W3 : Hid (IntKind.i64.wrap (now + 300) = now + 300) := Lib.hid (wrap_small (by omega) (by omega))
 unfold rqV
 obtain ⟨X, hX⟩ : ∃ X, X = (w.alloc (.cells #[.int .i64 r.no, .int .i64 r.kind, .int .i64 r.client, .int .i64 r.code, .int .i64 r.token, .string r.proof, .int .i64 r.upTo] 29)).alloc (.cells #[.int .i64 0, .int .i64 0, .int .i64 0, .bool false, .int .i64 0, .int .i64 0] 138) := ⟨_, rfl⟩
 obtain ⟨s, hs⟩ : ∃ s, s = w.heap.size := ⟨_, rfl⟩
 have hbx : Below w.heap.size w X := by rw [hX]; exact ((Below.refl _ _).alloc (Nat.le_refl _) _).alloc (by simp) _
 have hqx : Row X s 29 (rqL r) := by rw [hX, hs]; exact Row.below (heap_alloc_new w _) ((Below.refl (w.alloc _).heap.size _).alloc (Nat.le_refl _) _) (by simp)
 have hax : Row X (s + 1) 138 [.int .i64 0, .int .i64 0, .int .i64 0, .bool false, .int .i64 0, .int .i64 0] := by rw [hX, hs]; exact heap_alloc2_new w _ _
 have HX0 := Lib.hid hX
 have HSe := Lib.hid hs
 have HBx := Lib.hid hbx
 have HAx := Lib.hid hax
 have c0 : X.cell? ⟨s, 0, none⟩ = some (.int .i64 r.no) := hqx.cell 0
 have c2 : X.cell? ⟨s, 2, none⟩ = some (.int .i64 r.client) := hqx.cell 2
 clear hX hs hbx hqx hax
 go_enter Tryz.func225, Tryz.ntmps225
 go_wp2_with fail
 rw [← HX0.out, ← HSe.out]
 refine region_tail 11 (by kernel_rfl) (by kernel_rfl) ?_
 simp only [List.take_succ_cons, List.take_zero, List.drop_succ_cons, List.drop_zero]
 repeat still_step
 try simp only [W1.out, W2.out, W3.out]
 still_call (upT_spec _ _)
 repeat still_step
 refine wpStill_nil ?_
 have hbV : Below X.heap.size X X.drew := (Below.refl _ _).drew
 obtain ⟨V, hV⟩ : ∃ V, V = X.drew := ⟨_, rfl⟩
 rw [← hV] at hbV ⊢
 have HAV := Lib.hid (HAx.out.below hbV HAx.out.lt)
 have HBV := Lib.hid (HBx.out.trans (hbV.mono HBx.out.size))
 have hsw : s = w.heap.size := HSe.out
 have hth : V.there (s + 1) 0 (#[.int .i64 (10 * r.no + 2), .int .i64 r.client, .int .i64 fam, .bool true, .int .i64 (upT (now + 300)), .int .i64 0] : Array Value).size := HAV.out.there 0 6 (by simp)
 have HT := Lib.hid hth
 have HS2 := Lib.hid hsw
 clear hV hbV hth hsw c0 c2
 refine wpList_store_to rfl 138 (.tmp 6) (.tmp 17) rfl (s + 1) 0 #[.int .i64 (10 * r.no + 2), .int .i64 r.client, .int .i64 fam, .bool true, .int .i64 (upT (now + 300)), .int .i64 0] rfl rfl HT.out sizeKey (oneKey (nextK r fam now)) ?_
 intro Z hZ
 have hk : Kept V.heap.size (s + 1) (s + 1) (s + 1) V Z := by rw [hZ]; exact Kept.setCells (.inl rfl) _ 0 (Kept.refl _ _ _ _ _)
 have HZ1 : Hid (Row Z (s + 1) 138 (kyL (nextK r fam now))) := Lib.hid (by rw [hZ]; exact HAV.out.setCells _ 0)
 have HBZ := Lib.hid (HBV.out.trans (hk.below (B := w.heap.size) (by have := HBV.out.size; omega) (by have := HS2.out; omega) (by have := HS2.out; omega) (by have := HS2.out; omega)))
 clear hZ hk
 go_wp2_with fail
 refine bodyPost_ret (ret_key rfl rfl HZ1.out) rfl ?_
 exact ⟨rfl, HBZ.out⟩
end Go.Proofs.YtchfgdiipjbgoaaGreat
