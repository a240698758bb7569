/- FormRead: the walk of the law. -/
import Derived.Test.YtjoobpieomhklaaDoorHeld
namespace Go.Proofs.YtjoobpieomhklaaDoor
open Go Go.RowKit Go.Lib
set_option linter.unusedVariables false

def Marked (n : Nat) (w : World) (v : Value) : Prop := (n = 0 ∧ v = .slice none 0 0) ∨ ∃ g cap, v = .slice (some ⟨g, 0, none⟩) n cap ∧ g < w.heap.size ∧ PairsAt w g 0 (marksL 1 n)
theorem Marked.later {n : Nat} {w w1 : World} {v : Value} (h : Marked n w v) (hb : Below w.heap.size w w1) : Marked n w1 v := by
  rcases h with h | ⟨g, cap, h1, h2, h3⟩
  · exact .inl h
  · exact .inr ⟨g, cap, h1, Nat.lt_of_lt_of_le h2 hb.size, h3.later hb⟩
def MarkV (n : Nat) (v : Value) (w : World) (e : Ending) (w' : World) : Prop := e = .returned (.int .i64 ((1 + 2 * n : Nat) : Int)) ∧ Marked n w' v ∧ w.grownBy w' v.ownBlock
theorem markFO_V {w0 w : World} {l : List Pr} {v : Value} {c : Int} (h : PairsV w0 w l v) (hl : l.length ≤ 8001) : Calls Tryd.prog 7 #[.agg #[v, .int .i64 c], .int .i64 1] w (MarkV l.length v w) := by
  rcases h with ⟨rfl, rfl⟩ | ⟨g, cap, rfl, _, h3, h4, h5⟩
  · exact (markFO_nil none 0 1 c w (by omega)).mono fun _ _ ⟨h1, h2⟩ => ⟨h1, .inl ⟨rfl, rfl⟩, grown_of_below h2⟩
  · exact (markFO_some g _ cap 1 c w (by omega) (by omega) h5 h3).mono fun _ _ ⟨h1, h2, h6⟩ => ⟨h1, .inr ⟨g, cap, rfl, Nat.lt_of_lt_of_le h3 h6.size, h2⟩, h6⟩
theorem heldFO_V {n : Nat} {w : World} {v : Value} {c : Int} (h : Marked n w v) (hl : n ≤ 8001) : Calls Tryd.prog 8 #[.agg #[v, .int .i64 c], .int .i64 1] w fun e w' => e = .returned (.int .i64 ((1 + 2 * n : Nat) : Int)) ∧ Below w.heap.size w w' := by
  rcases h with ⟨rfl, rfl⟩ | ⟨g, cap, rfl, h3, h4⟩
  · exact heldFO_nil none 0 1 c w (by omega)
  · exact heldFO_some g _ cap 1 c w (by omega) (by omega) h4 h3
theorem PairsV.block {w0 w : World} {l : List Pr} {v : Value} (h : PairsV w0 w l v) : ∀ k, v.ownBlock = some k → w0.heap.size ≤ k ∧ k < w.heap.size := fun k hk => by
  rcases h with ⟨_, rfl⟩ | ⟨g, cap, rfl, h2, h3, _⟩
  · cases hk
  · cases hk; exact ⟨h2, h3⟩
/-- An answer that lies below a bound is kept where all below it is. -/
theorem PairsV.below {w0 w w1 : World} {l : List Pr} {v : Value} {K : Nat} (h : PairsV w0 w l v) (hb : Below K w w1) (hK : w.heap.size ≤ K) : PairsV w0 w1 l v := by
  rcases h with h | ⟨g, cap, h1, h2, h3, h4, h5⟩
  · exact .inl h
  · exact .inr ⟨g, cap, h1, h2, Nat.lt_of_lt_of_le h3 hb.size, PairsAt.below h4 hb (by omega), there_below' h5 hb (by omega)⟩
theorem readR_len {s : ByteArray} {c : Int} {l : List Pr} (h : ReadR s c l) : l.length ≤ 8001 := by
  rcases h with ⟨_, _, rfl⟩ | ⟨_, _, _, rfl⟩ | ⟨_, _, _, _, rfl⟩ | ⟨h1, _, _, _, rfl⟩
  · simp
  · simp
  · simp
  · have := readL_len s; omega

theorem Row.grown {w w1 : World} {q : Nat} {E : TypeId} {l : List Value} {r : Option Nat} (h : Row w q E l) (hg : w.grownBy w1 r) (hr : some q ≠ r) : Row w1 q E l := by
  have h1 := hg.block q h.lt hr
  unfold Row at h ⊢
  rw [h1]
  exact h
set_option maxRecDepth 100000 in
set_option maxHeartbeats 2000000 in
theorem lawFormRead (s : ByteArray) (w : World) (hs : s.size ≤ maxLen) (hg : MaxG w) (hG : Glob w) : Calls Tryd.prog 3 #[.string s] w fun e w' => e = .returned (.bool true) ∧ Below w.heap.size w w' := by
  have hs' := hs
  unfold maxLen at hs'
  by_cases hbig : 1048576 < s.size
  · go_enter Tryd.func3, Tryd.ntmps3
    go_wp2_with fail
    go_ret
    exact ⟨rfl, Below.refl _ _⟩
  have HG := Lib.hid hg
  have HGl := Lib.hid hG
  clear hg hG
  go_enter Tryd.func3, Tryd.ntmps3
  go_wp2_with fail
  refine (fr_spec s _ hs).mono ?_
  rintro e w1 ⟨c, l, va, hr, rfl, hva, hb1⟩
  obtain ⟨pa, na, ca, rfl⟩ := hva.slice
  have hb1' := hb1.alloc hb1.size (.cells #[Value.slice pa na ca, Value.int .i64 c] 24)
  have hRa : Row (w1.alloc (.cells #[Value.slice pa na ca, Value.int .i64 c] 24)) w1.heap.size 24 [Value.slice pa na ca, Value.int .i64 c] := heap_alloc_new w1 _
  have hva1 := hva.later ((Below.refl w1.heap.size w1).alloc (Nat.le_refl _) (.cells #[Value.slice pa na ca, Value.int .i64 c] 24))
  have HR := Lib.hid hr
  have hlen := readR_len hr
  obtain ⟨W, hW⟩ : ∃ W, W = w1.alloc (.cells #[Value.slice pa na ca, Value.int .i64 c] 24) := ⟨_, rfl⟩
  have hAW : w1.heap.size < W.heap.size := by rw [hW]; simp
  rw [← hW] at hb1' hRa hva1
  have HW := Lib.hid hW
  have HRa := Lib.hid hRa
  have HVa := Lib.hid hva1
  have HB1 := Lib.hid hb1'
  have hzW := hb1'.size
  have HG1 := Lib.hid (HG.out.later hb1')
  have HGl1 := Lib.hid (HGl.out.grow hb1')
  clear hr hva hva1 hRa hb1 hb1' hW
  go_wp2_with fail
  rw [← HW.out]
  refine (fr_impl s _ hs HG1.out HGl1.out).mono ?_
  rintro e w2 ⟨c', l', vb, hr', rfl, hvb, hb2⟩
  obtain ⟨rfl, rfl⟩ := readR_one HR.out hr'
  obtain ⟨pb, nb, cb, rfl⟩ := hvb.slice
  have hbl := hvb.block
  have hz2 := hb2.size
  have hbB := (Below.refl w2.heap.size w2).alloc (Nat.le_refl _) (.cells #[Value.slice pb nb cb, Value.int .i64 c] 24)
  have hRb : Row (w2.alloc (.cells #[Value.slice pb nb cb, Value.int .i64 c] 24)) w2.heap.size 24 [Value.slice pb nb cb, Value.int .i64 c] := heap_alloc_new w2 _
  obtain ⟨V, hV⟩ : ∃ V, V = w2.alloc (.cells #[Value.slice pb nb cb, Value.int .i64 c] 24) := ⟨_, rfl⟩
  rw [← hV] at hbB hRb
  have hBV : w2.heap.size < V.heap.size := by rw [hV]; simp
  have hK := hb2.trans (hbB.mono hz2)
  have hAV : w1.heap.size < V.heap.size := by omega
  have HV := Lib.hid hV
  have HRb := Lib.hid hRb
  have HRa2 := Lib.hid (HRa.out.below hK hAW)
  have HVa2 := Lib.hid (HVa.out.below hK (Nat.le_refl _))
  have HVb2 := Lib.hid (hvb.later hbB)
  have HBl := Lib.hid hbl
  have HK := Lib.hid hK
  have HGV := Lib.hid (HG1.out.later hK)
  have HGlV := Lib.hid (HGl1.out.grow hK)
  have a0 : (w2.alloc (.cells #[Value.slice pb nb cb, Value.int .i64 c] 24)).cell? ⟨w1.heap.size, 0, none⟩ = some (.slice pa na ca) := by rw [← hV]; exact HRa2.out.cell 0
  have a1 : (w2.alloc (.cells #[Value.slice pb nb cb, Value.int .i64 c] 24)).cell? ⟨w1.heap.size, 1, none⟩ = some (.int .i64 c) := by rw [← hV]; exact HRa2.out.cell 1
  have b0 : (w2.alloc (.cells #[Value.slice pb nb cb, Value.int .i64 c] 24)).cell? ⟨w2.heap.size, 0, none⟩ = some (.slice pb nb cb) := by rw [← hV]; exact hRb.cell 0
  have b1 : (w2.alloc (.cells #[Value.slice pb nb cb, Value.int .i64 c] 24)).cell? ⟨w2.heap.size, 1, none⟩ = some (.int .i64 c) := by rw [← hV]; exact hRb.cell 1
  have hKV := hK.size
  clear hr' hvb hbl hb2 hbB hRb hV hK
  go_wp2_with fail
  rw [← HV.out]
  refine (eqFO HVb2.out HVa2.out (by omega)).mono ?_
  rintro e w3 ⟨rfl, hb3⟩
  have HK3 := Lib.hid (HK.out.trans (hb3.mono hKV))
  have HRa3 := Lib.hid (HRa2.out.below hb3 hAV)
  have HRb3 := Lib.hid (HRb.out.below hb3 hBV)
  have HVa3 := Lib.hid (HVa2.out.later hb3)
  have HVb3 := Lib.hid (HVb2.out.later hb3)
  have b0 : w3.cell? ⟨w2.heap.size, 0, none⟩ = some (.slice pb nb cb) := HRb3.out.cell 0
  have b1 : w3.cell? ⟨w2.heap.size, 1, none⟩ = some (.int .i64 c) := HRb3.out.cell 1
  have hz3 := hb3.size
  clear hb3 a0 a1
  go_wp2_with fail
  refine (markFO_V HVb3.out hlen).mono ?_
  rintro e w4 ⟨rfl, hmk, hgr⟩
  have hnB : some w2.heap.size ≠ (Value.slice pb nb cb).ownBlock := fun e => by have := (HBl.out _ e.symm).2; omega
  have hnA : some w1.heap.size ≠ (Value.slice pb nb cb).ownBlock := fun e => by have := (HBl.out _ e.symm).1; omega
  have HK4 := Lib.hid (HK3.out.grown hgr HK3.out.size (fun k hk => (HBl.out k hk).1))
  have HRa4 := Lib.hid (HRa3.out.grown hgr hnA)
  have HRb4 := Lib.hid (HRb3.out.grown hgr hnB)
  have HVa4 := Lib.hid (HVa.out.below HK4.out (Nat.le_refl _))
  have HM4 := Lib.hid hmk
  have b0 : w4.cell? ⟨w2.heap.size, 0, none⟩ = some (.slice pb nb cb) := HRb4.out.cell 0
  have b1 : w4.cell? ⟨w2.heap.size, 1, none⟩ = some (.int .i64 c) := HRb4.out.cell 1
  have hz4 := hgr.size
  obtain ⟨m, hm⟩ : ∃ m : Nat, m = 1 + 2 * l.length := ⟨_, rfl⟩
  rw [← hm]
  have HMm := Lib.hid hm
  have hmp : ¬ (m : Int) < 0 := by omega
  have hmp2 : ((m : Int) != (m : Int)) = false := by simp
  have hA4 : w1.heap.size < w4.heap.size := by omega
  have hB4 : w2.heap.size < w4.heap.size := by omega
  clear hmk hgr hnA hnB hm
  go_wp2_with fail
  refine (heldFO_V HM4.out hlen).mono ?_
  rw [← HMm.out]
  rintro e w5 ⟨rfl, hb5⟩
  have HK5 := Lib.hid (HK4.out.trans (hb5.mono HK4.out.size))
  have HRa5 := Lib.hid (HRa4.out.below hb5 hA4)
  have HRb5 := Lib.hid (HRb4.out.below hb5 hB4)
  have HM5 := Lib.hid (HM4.out.later hb5)
  have hz5 := hb5.size
  have HG5 := Lib.hid (HG1.out.later HK5.out)
  have HGl5 := Lib.hid (HGl1.out.grow HK5.out)
  have hA5 : w1.heap.size < w5.heap.size := by omega
  have hB5 : w2.heap.size < w5.heap.size := by omega
  clear hb5 b0 b1
  go_wp2_with fail
  refine (fr_impl s _ hs HG5.out HGl5.out).mono ?_
  rintro e w6 ⟨c', l', vh, hr', rfl, hvh, hb6⟩
  obtain ⟨rfl, rfl⟩ := readR_one HR.out hr'
  obtain ⟨ph, nh, ch, rfl⟩ := hvh.slice
  have hbC := (Below.refl w6.heap.size w6).alloc (Nat.le_refl _) (.cells #[Value.slice ph nh ch, Value.int .i64 c] 24)
  have hRc : Row (w6.alloc (.cells #[Value.slice ph nh ch, Value.int .i64 c] 24)) w6.heap.size 24 [Value.slice ph nh ch, Value.int .i64 c] := heap_alloc_new w6 _
  obtain ⟨U, hU⟩ : ∃ U, U = w6.alloc (.cells #[Value.slice ph nh ch, Value.int .i64 c] 24) := ⟨_, rfl⟩
  rw [← hU] at hbC hRc
  have hb56 := hb6.trans (hbC.mono hb6.size)
  have HU := Lib.hid hU
  have HK6 := Lib.hid (HK5.out.trans (hb56.mono HK5.out.size))
  have HRa6 := Lib.hid (HRa5.out.below hb56 hA5)
  have HRb6 := Lib.hid (HRb5.out.below hb56 hB5)
  have HM6 := Lib.hid (HM5.out.later hb56)
  have HVa6 := Lib.hid (HVa.out.below HK6.out (Nat.le_refl _))
  have HVh6 := Lib.hid (hvh.later hbC)
  have hz6 := hb56.size
  have a0 : (w6.alloc (.cells #[Value.slice ph nh ch, Value.int .i64 c] 24)).cell? ⟨w1.heap.size, 0, none⟩ = some (.slice pa na ca) := by rw [← hU]; exact HRa6.out.cell 0
  have a1 : (w6.alloc (.cells #[Value.slice ph nh ch, Value.int .i64 c] 24)).cell? ⟨w1.heap.size, 1, none⟩ = some (.int .i64 c) := by rw [← hU]; exact HRa6.out.cell 1
  have c0 : (w6.alloc (.cells #[Value.slice ph nh ch, Value.int .i64 c] 24)).cell? ⟨w6.heap.size, 0, none⟩ = some (.slice ph nh ch) := by rw [← hU]; exact hRc.cell 0
  have c1 : (w6.alloc (.cells #[Value.slice ph nh ch, Value.int .i64 c] 24)).cell? ⟨w6.heap.size, 1, none⟩ = some (.int .i64 c) := by rw [← hU]; exact hRc.cell 1
  have hB6 : w2.heap.size < U.heap.size := by omega
  clear hr' hvh hb6 hbC hRc hU hb56
  go_wp2_with fail
  rw [← HU.out]
  refine (eqFO HVh6.out HVa6.out (by omega)).mono ?_
  rintro e w7 ⟨rfl, hb7⟩
  have HK7 := Lib.hid (HK6.out.trans (hb7.mono HK6.out.size))
  have HRb7 := Lib.hid (HRb6.out.below hb7 hB6)
  have HM7 := Lib.hid (HM6.out.later hb7)
  have b0 : w7.cell? ⟨w2.heap.size, 0, none⟩ = some (.slice pb nb cb) := HRb7.out.cell 0
  have b1 : w7.cell? ⟨w2.heap.size, 1, none⟩ = some (.int .i64 c) := HRb7.out.cell 1
  clear hb7 a0 a1 c0 c1
  go_wp2_with fail
  refine (heldFO_V HM7.out hlen).mono ?_
  rw [← HMm.out]
  rintro e w8 ⟨rfl, hb8⟩
  have HB8 := Lib.hid (HB1.out.trans ((HK7.out.trans (hb8.mono HK7.out.size)).mono hzW))
  clear hb8 b0 b1
  go_wp2_with fail
  go_ret
  exact ⟨rfl, HB8.out⟩
end Go.Proofs.YtjoobpieomhklaaDoor
