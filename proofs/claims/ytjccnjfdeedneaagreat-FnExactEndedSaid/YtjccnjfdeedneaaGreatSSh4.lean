/- What all share: entries copied; the shared store made of a store. -/
import Derived.Test.YtjccnjfdeedneaaGreatSGdH
import Derived.Test.YtjccnjfdeedneaaGreatSGdG
import Derived.Test.YtjccnjfdeedneaaGreatSSpA0
namespace Go.Proofs.YtjccnjfdeedneaaGreat
open Go Go.RowKit Go.Lib Go.MuLone
set_option linter.unusedVariables false
set_option maxRecDepth 100000

theorem infoEntry4 : (Tryz.prog.info? 50).map (fun i => (i.zero, i.size, i.bytes)) = some (some (.agg #[.int .i64 0, .int .i64 0, .int .i64 0, .int .i64 0]), 4, 32) := by kernel_rfl
theorem oneEn (x : En) : ∀ u ∈ enCf x, u.oneCell' = true := by intro u hu; simp [enCf] at hu; rcases hu with rfl | rfl | rfl | rfl <;> rfl
set_option maxHeartbeats 1000000 in
theorem cloneEn {p : Option Addr} {n c : Nat} {l : List En} {w : World} (hsrc : Src enCf w (.slice p n c) l) (hl : l.length ≤ 1048576) :
  Calls Tryz.prog 112 #[.slice p n c] w fun e w' => ∃ q c', e = .returned (.slice q l.length c') ∧ w'.ownsRow w.heap.size 50 4 (.slice q l.length c') l.length (l.flatMap enCf) ∧ Below w.heap.size w w' := by
 obtain ⟨ii, hi, hz0', hz1, hz2⟩ := info_parts infoEntry4
 have hnil := fun (w : World) (a : Option Addr) (n c n' c' : Nat) => Lib.run_eql_slice_nil (P := Tryz.prog) w 32 50 a n c n' c' Tryz.underlying32
 rcases hsrc with ⟨hv, rfl⟩ | ⟨b, o, c', hv, hat⟩
 ·cases hv
  go_enter Tryz.func112, Tryz.ntmps112
  go_wp2_with fail
  go_ret
  exact ⟨none, 0, rfl, World.ownsRow_nil _ _ _ _, Below.refl _ _⟩
 ·cases hv
  have hsz := Nat.le_refl w.heap.size
  have hm1 := Lib.hid (World.ownsRow_made (base := w.heap.size) (size := 4) (e := 50) w #[] 0 hsz (Nat.zero_le _) rfl)
  have hb1 : Below w.heap.size w (w.alloc (.cells #[] 50)) := (Below.refl _ _).alloc (Nat.le_refl _) _
  have HS := Lib.hid ((Src.later (v := .slice (some ⟨b, o, none⟩) l.length c) (l := l) (.inr ⟨b, o, c, rfl, hat⟩) hb1))
  have HB1 := Lib.hid hb1
  clear hb1
  go_enter Tryz.func112, Tryz.ntmps112
  go_wp2_with (at_builtin; refine wpList_apps (cf := enCf) (l := l) rfl (.tmp 5) (.tmp 6) 32 50 rfl ii _ 4 32 Tryz.underlying32 hi hz0' hz1 hz2 rfl (by decide) (by decide) enCf_len oneEn w.heap.size _ 0 _ rfl hm1.out _ rfl HS.out (by omega) HB1.out.size ?_; intro v3 w4 o3 g3; obtain ⟨dp', dc', rfl⟩ := own_slc o3)
  go_ret
  rw [List.nil_append, Nat.zero_add] at o3
  exact ⟨dp', dc', rfl, o3, below_grown HB1.out HB1.out.size hm1.out g3⟩
theorem over_none (F : Int → Option Value) (i : Int) : over F (fun _ => none) i = F i := by
 unfold over
 cases F i <;> rfl
theorem own_kp {w w' : World} {base E K n : Nat} {v : Value} {xs : List Value} (h : w.ownsRow base E K v n xs) (hb : ∀ k, v.ownBlock = some k → w'.heap[k]? = w.heap[k]?) : w'.ownsRow base E K v n xs := by
 refine ⟨h.1, ?_⟩
 rcases h.2 with hn | ⟨g, cap, cur, rfl, hb1, hgg, rest⟩
 ·exact .inl hn
 ·exact .inr ⟨g, cap, cur, rfl, hb1, (hb g rfl).trans hgg, rest⟩
def mO (n k j : Nat) : Option Nat := if j / 2 < k then some (n + j) else none
/-- The shared store's cells while its maps are made: k stripes have theirs. -/
def mkSh (ver hold : Int) (cs : Value) (n k : Nat) : List Value :=
 [.int .i64 0, .int .i64 ver, .int .i64 hold, .int .i32 0, .int .u32 0, cs, .int .i32 0, .int .u32 0, .map (mO n k 0), .map (mO n k 1), .int .i32 0, .int .u32 0, .map (mO n k 2), .map (mO n k 3),
  .int .i32 0, .int .u32 0, .map (mO n k 4), .map (mO n k 5), .int .i32 0, .int .u32 0, .map (mO n k 6), .map (mO n k 7)]
def MkRel (ver hold : Int) (cs : Value) (sb n : Nat) (W : World) (i : Value) (wr : World) : Prop :=
 ∃ k : Nat, k ≤ 4 ∧ i = .int .i64 k ∧ Row wr sb 123 (mkSh ver hold cs n k) ∧ wr.heap.size = n + 2 * k ∧ (∀ j, j < 2 * k → IMap Tryz.prog 2 wr (n + j) 0 (fun _ => none)) ∧ W.grownBy wr (some sb)
theorem mkSh_w (ver hold : Int) (cs : Value) (n k : Nat) (hk : k < 4) : (mkSh ver hold cs n k)[6 + k * 4 + 2]? = some (.map none) := by
 rcases (show k = 0 ∨ k = 1 ∨ k = 2 ∨ k = 3 by omega) with rfl | rfl | rfl | rfl <;> rfl
theorem mkSh_k (ver hold : Int) (cs : Value) (n k : Nat) (v : Value) (hk : k < 4) : ((mkSh ver hold cs n k).set (6 + k * 4 + 2) v)[6 + k * 4 + 3]? = some (.map none) := by
 rcases (show k = 0 ∨ k = 1 ∨ k = 2 ∨ k = 3 by omega) with rfl | rfl | rfl | rfl <;> rfl
theorem mkSh_set (ver hold : Int) (cs : Value) (n k : Nat) (hk : k < 4) : ((mkSh ver hold cs n k).set (6 + k * 4 + 2) (.map (some (n + 2 * k)))).set (6 + k * 4 + 3) (.map (some (n + 2 * k + 1))) = mkSh ver hold cs n (k + 1) := by
 rcases (show k = 0 ∨ k = 1 ∨ k = 2 ∨ k = 3 by omega) with rfl | rfl | rfl | rfl <;> rfl
theorem mk_cells {ver hold : Int} {cs : Value} {sb n k : Nat} {wr : World} (hk : k < 4) (hr : Row wr sb 123 (mkSh ver hold cs n k)) (v : Value) :
  (wr.alloc (.map #[] 0)).cell? ⟨sb, 6 + k * 4 + 2, none⟩ = some (.map none) ∧ (wr.alloc (.map #[] 0)).frozen? ⟨sb, 6 + k * 4 + 2, none⟩ = false ∧
  (((wr.alloc (.map #[] 0)).setCell ⟨sb, 6 + k * 4 + 2, none⟩ v).alloc (.map #[] 0)).cell? ⟨sb, 6 + k * 4 + 3, none⟩ = some (.map none) ∧ (((wr.alloc (.map #[] 0)).setCell ⟨sb, 6 + k * 4 + 2, none⟩ v).alloc (.map #[] 0)).frozen? ⟨sb, 6 + k * 4 + 3, none⟩ = false := by
 have rA := hr.below ((Below.refl _ _).alloc (Nat.le_refl _) (.map #[] 0)) hr.lt
 have rB := rA.set (6 + k * 4 + 2) v
 have rC := rB.below ((Below.refl _ _).alloc (Nat.le_refl _) (.map #[] 0)) rB.lt
 exact ⟨(rA.cell _).trans (mkSh_w _ _ _ _ _ hk), rA.free _, (rC.cell _).trans (mkSh_k _ _ _ _ _ _ hk), rC.free _⟩
theorem mk_step {ver hold : Int} {cs : Value} {sb n k : Nat} {W wr : World} (hk : k < 4) (hsn : sb < n) (hr : Row wr sb 123 (mkSh ver hold cs n k)) (hz : wr.heap.size = n + 2 * k) (hm : ∀ j, j < 2 * k → IMap Tryz.prog 2 wr (n + j) 0 (fun _ => none)) (hgb : W.grownBy wr (some sb)) :
  MkRel ver hold cs sb n W (.int .i64 ((k + 1 : Nat) : Int)) ((((wr.alloc (.map #[] 0)).setCell ⟨sb, 6 + k * 4 + 2, none⟩ (.map (some (n + 2 * k)))).alloc (.map #[] 0)).setCell ⟨sb, 6 + k * 4 + 3, none⟩ (.map (some (n + 2 * k + 1)))) := by
 have rA := hr.below ((Below.refl _ _).alloc (Nat.le_refl _) (.map #[] 0)) hr.lt
 have rB := rA.set (6 + k * 4 + 2) (.map (some (n + 2 * k)))
 have rC := rB.below ((Below.refl _ _).alloc (Nat.le_refl _) (.map #[] 0)) rB.lt
 have rD := rC.set (6 + k * 4 + 3) (.map (some (n + 2 * k + 1)))
 rw [mkSh_set _ _ _ _ _ hk] at rD
 have hs1 : ((wr.alloc (.map #[] 0)).setCell ⟨sb, 6 + k * 4 + 2, none⟩ (.map (some (n + 2 * k)))).heap.size = n + 2 * k + 1 := by simp [hz]
 have m1 : IMap Tryz.prog 2 (wr.alloc (.map #[] 0)) (n + 2 * k) 0 (fun _ => none) := by have h := IMap.made wr Tryz.prog 2; rw [hz] at h; exact h
 have m2 : IMap Tryz.prog 2 (((wr.alloc (.map #[] 0)).setCell ⟨sb, 6 + k * 4 + 2, none⟩ (.map (some (n + 2 * k)))).alloc (.map #[] 0)) (n + 2 * k + 1) 0 (fun _ => none) := by
  have h := IMap.made ((wr.alloc (.map #[] 0)).setCell ⟨sb, 6 + k * 4 + 2, none⟩ (.map (some (n + 2 * k)))) Tryz.prog 2
  rw [hs1] at h
  exact h
 refine ⟨k + 1, by omega, rfl, rD, by simp [hz]; omega, fun j hj => ?_, ?_⟩
 ·by_cases e1 : j = 2 * k + 1
  ·subst e1
   exact m2.setCell (by show n + (2 * k + 1) ≠ sb; omega) _
  ·by_cases e2 : j = 2 * k
   ·subst e2
    exact ((m1.setCell (by show n + 2 * k ≠ sb; omega) _).alloc _).setCell (by show n + 2 * k ≠ sb; omega) _
   ·exact ((((hm j (by omega)).alloc _).setCell (by show n + j ≠ sb; omega) _).alloc _).setCell (by show n + j ≠ sb; omega) _
 ·refine gb_skip hgb (r := sb) ⟨rfl, rfl, rfl, by simp; omega, fun i hi hne => ?_⟩ (.inr rfl)
  have hne' : i ≠ sb := fun e => hne (by rw [e])
  rw [Below.heap_setCell _ _ _ _ hne', Below.heap_alloc _ _ _ (by rw [hs1]; omega), Below.heap_setCell _ _ _ _ hne', Below.heap_alloc _ _ _ hi]
def ShOut (s : St) (w : World) (e : Ending) (w' : World) : Prop := ∃ (h : ShH) (td : Int → Int) (q : Option Addr) (c' : Nat), e = .returned (.pointer (some ⟨h.sb, 0, none⟩)) ∧ w.heap.size ≤ h.sb ∧ h.Rise ∧
 Row w' h.sb 123 (shL s.gr.now s.ver s.lock (.slice q s.cache.length c') 0 0 h) ∧ ShMaps w' h 60 (wdF s.gr.words s.gr.dead td) (kyF s.gr.keys) ∧ (∀ i, 0 ≤ td i ∧ td i ≤ s.gr.now) ∧
 w'.ownsRow (h.sb + 1) 50 4 (.slice q s.cache.length c') s.cache.length (s.cache.flatMap enCf) ∧ (∀ k, (Value.slice q s.cache.length c').ownBlock = some k → h.sb < k ∧ k < h.w0) ∧ Below w.heap.size w w'
set_option maxHeartbeats 4000000 in
theorem sharedOf_any (s : St) (h : SH) (w : World) (hin : StIn w h s) (hsrc : Src enCf w (.slice h.cp h.cn h.cc) s.cache) (hg : grantB s.gr = true) (hl : s.cache.length ≤ 1048576) : Calls Tryz.prog 50 #[stV s h] w (ShOut s w) := by
 obtain ⟨W, hW⟩ : ∃ W, W = (w.alloc (.cells #[.int .i64 s.gr.now, .slice h.gh.wp h.gh.wn h.gh.wc, .slice h.gh.kp h.gh.kn h.gh.kc, .slice h.gh.dp h.gh.dn h.gh.dc, .int .i64 s.ver, .int .i64 s.lock, .slice h.cp h.cn h.cc] 34)).alloc (.cells #[.int .i64 0, .int .i64 0, .int .i64 0, .int .i32 0, .int .u32 0, .slice none 0 0, .int .i32 0, .int .u32 0, .map none, .map none, .int .i32 0, .int .u32 0, .map none, .map none, .int .i32 0, .int .u32 0, .map none, .map none, .int .i32 0, .int .u32 0, .map none, .map none] 123) := ⟨_, rfl⟩
 have hb0 : Below w.heap.size w W := by rw [hW]; go_grown
 have r0 : Row W w.heap.size 34 (stL s h) := by
  rw [hW]
  exact Row.below (heap_alloc_new w _) ((Below.refl _ _).alloc (Nat.le_refl _) _) (by simp)
 have r1 : Row W (w.heap.size + 1) 123 (mkSh 0 0 (.slice none 0 0) 0 0) := by
  rw [hW]
  have h := heap_alloc_new (w.alloc (.cells #[.int .i64 s.gr.now, .slice h.gh.wp h.gh.wn h.gh.wc, .slice h.gh.kp h.gh.kn h.gh.kc, .slice h.gh.dp h.gh.dn h.gh.dc, .int .i64 s.ver, .int .i64 s.lock, .slice h.cp h.cn h.cc] 34)) (.cells #[.int .i64 0, .int .i64 0, .int .i64 0, .int .i32 0, .int .u32 0, .slice none 0 0, .int .i32 0, .int .u32 0, .map none, .map none, .int .i32 0, .int .u32 0, .map none, .map none, .int .i32 0, .int .u32 0, .map none, .map none, .int .i32 0, .int .u32 0, .map none, .map none] 123)
  rw [World.size_alloc] at h
  exact h
 obtain ⟨sb, hsb⟩ : ∃ sb, sb = w.heap.size + 1 := ⟨_, rfl⟩
 rw [← hsb] at r1
 have hWz : W.heap.size = sb + 1 := by rw [hW, hsb]; simp
 have hlt : w.heap.size < sb := by omega
 have HSB := Lib.hid hsb
 have HW := Lib.hid hW
 have HIN := Lib.hid hin
 have HSR := Lib.hid hsrc
 have HB0 := Lib.hid hb0
 have HR0 := Lib.hid r0
 have HR1 := Lib.hid r1
 have HG := Lib.hid hg
 have g4 : W.cell? ⟨w.heap.size, 4, none⟩ = some (.int .i64 s.ver) := r0.cell 4
 have q1 : W.cell? ⟨sb, 1, none⟩ = some (.int .i64 0) := r1.cell 1
 have f1 : W.frozen? ⟨sb, 1, none⟩ = false := r1.free 1
 clear hin hsrc hg hb0 r0 r1 hsb hW
 unfold stV
 go_enter Tryz.func50, Tryz.ntmps50
 go_wp2_with fail
 rw [← HSB.out, ← HW.out]
 refine region_tail 5 (by kernel_rfl) (by kernel_rfl) ?_
 simp only [List.take_succ_cons, List.take_zero, List.drop_succ_cons, List.drop_zero]
 repeat still_step
 refine wpStill_nil ?_
 go_wp2_with fail
 refine (st64 sb 1 0 s.ver W.drew q1 f1).mono ?_
 rintro e W1 ⟨rfl, hW1⟩
 have hz1' : W1.heap.size = sb + 1 := by rw [hW1]; simpa using hWz
 have hb1 : W.grownBy W1 (some sb) := by rw [hW1]; exact ⟨rfl, rfl, rfl, by simp, fun k hk hne => Below.heap_setCell W ⟨sb, 1, none⟩ _ k (fun e => hne (by rw [e]))⟩
 have r2 : Row W1 sb 123 (mkSh s.ver 0 (.slice none 0 0) 0 0) := by rw [hW1]; exact Row.set HR1.out 1 (.int .i64 s.ver)
 have r2' := HR0.out.grownI hb1 (fun e => by have := Option.some.inj e; omega)
 have g5 : W1.cell? ⟨w.heap.size, 5, none⟩ = some (.int .i64 s.lock) := r2'.cell 5
 have q2 : W1.cell? ⟨sb, 2, none⟩ = some (.int .i64 0) := r2.cell 2
 have f2 : W1.frozen? ⟨sb, 2, none⟩ = false := r2.free 2
 have HR2 := Lib.hid r2
 have HR2' := Lib.hid r2'
 have HG1 := Lib.hid hb1
 clear hW1 r2 r2' hb1 g4 q1 f1
 go_wp2_with fail
 refine region_tail 5 (by kernel_rfl) (by kernel_rfl) ?_
 simp only [List.take_succ_cons, List.take_zero, List.drop_succ_cons, List.drop_zero]
 repeat still_step
 refine wpStill_nil ?_
 go_wp2_with fail
 refine (st64 sb 2 0 s.lock W1.drew q2 f2).mono ?_
 rintro e W2 ⟨rfl, hW2⟩
 have hz2' : W2.heap.size = sb + 1 := by rw [hW2]; simpa using hz1'
 have hb2 : W1.grownBy W2 (some sb) := by rw [hW2]; exact ⟨rfl, rfl, rfl, by simp, fun k hk hne => Below.heap_setCell W1 ⟨sb, 2, none⟩ _ k (fun e => hne (by rw [e]))⟩
 have r3 : Row W2 sb 123 (mkSh s.ver s.lock (.slice none 0 0) 0 0) := by rw [hW2]; exact Row.set HR2.out 2 (.int .i64 s.lock)
 have r3' := HR2'.out.grownI hb2 (fun e => by have := Option.some.inj e; omega)
 have g6 : W2.cell? ⟨w.heap.size, 6, none⟩ = some (.slice h.cp h.cn h.cc) := r3'.cell 6
 have HR3 := Lib.hid r3
 have HR3' := Lib.hid r3'
 have HG2 := Lib.hid (gb_skip HG1.out hb2 (.inr rfl))
 clear hW2 r3 r3' hb2 q2 f2 g5
 go_wp2_with fail
 have hbW2 : Below w.heap.size w W2 := HB0.out.grown HG2.out (by omega) (fun k hk => by have := Option.some.inj hk; omega)
 refine (cloneEn (Src.later HSR.out hbW2) hl).mono ?_
 rintro e W3 ⟨q, c', rfl, o3, hb3⟩
 have r4 := HR3.out.below hb3 (by omega)
 have q5 : W3.cell? ⟨sb, 5, none⟩ = some (.slice none 0 0) := r4.cell 5
 have f5 : W3.frozen? ⟨sb, 5, none⟩ = false := r4.free 5
 obtain ⟨W4, hW4⟩ : ∃ W4, W4 = W3.setCell ⟨sb, 5, none⟩ (.slice q s.cache.length c') := ⟨_, rfl⟩
 obtain ⟨n, hn⟩ : ∃ n, n = W4.heap.size := ⟨_, rfl⟩
 have hnz : W4.heap.size = n := hn.symm
 have hz3 : W3.heap.size = n := by rw [hn, hW4]; simp
 have hsbn : sb < n := by have := hb3.size; omega
 have r5 : Row W4 sb 123 (mkSh s.ver s.lock (.slice q s.cache.length c') n 0) := by rw [hW4]; exact Row.set r4 5 (.slice q s.cache.length c')
 have b4 : W3.grownBy W4 (some sb) := by rw [hW4]; exact ⟨rfl, rfl, rfl, by simp, fun k hk hne => Below.heap_setCell W3 ⟨sb, 5, none⟩ _ k (fun e => hne (by rw [e]))⟩
 have hqb : ∀ k, (Value.slice q s.cache.length c').ownBlock = some k → sb < k ∧ k < n := fun k hk => by have := o3.lt k hk; omega
 have o4 := o3.kept b4 (by
  rcases hob : (Value.slice q s.cache.length c').ownBlock with _ | k
  ·exact .inl rfl
  ·exact .inr (fun e => by have := (hqb k hob).1; have := Option.some.inj e; omega))
 have HO4 := Lib.hid o4
 have HQB := Lib.hid hqb
 have HR4 := Lib.hid r5
 have HB4 := Lib.hid (show Below w.heap.size w W4 from (hbW2.trans (hb3.mono hbW2.size)).grown b4 (by have := hbW2.size; omega) (fun k hk => by have := Option.some.inj hk; omega))
 have hrs : w.heap.size < W4.heap.size := by omega
 have r6 := (HR3'.out.below hb3 (by omega)).grownI b4 (fun e => by have := Option.some.inj e; omega)
 have HR6 := Lib.hid r6
 have HW4 := Lib.hid hW4
 clear hW4 r4 r5 b4 hqb o3 o4 r6 hb3 hn
 go_wp2_with fail
 rw [← HW4.out]
 clear q5 f5 g6 HR3 HR3' HG2 HR2 HR2' HG1
 go_loopw [26] (MkRel s.ver s.lock (.slice q s.cache.length c') sb n W4) (fun i _ => 4 - (RowKit.intOf i).toNat)
 case atStart => exact ⟨0, by omega, rfl, HR4.out, by omega, fun j hj => by omega, ⟨rfl, rfl, rfl, Nat.le_refl _, fun _ _ _ => rfl⟩⟩
 case round =>
  obtain ⟨k, hk, rfl, hr, hz, hm, hgb⟩ := hrel
  have hzr := hr.lt
  by_cases hlt4 : k < 4
  ·obtain ⟨c1, c2, c3, c4⟩ := mk_cells hlt4 hr (.map (some (n + 2 * k)))
   have HSt := Lib.hid (mk_step hlt4 hsbn hr hz hm hgb)
   have hmm := @run_makeMap Tryz.prog
   clear hr hm hgb HR4 HB4 HR6 HO4 HIN HSR HR0 HR1 HB0
   go_wp2_with fail
   go_roundw
   case rel => simpa [hz] using HSt.out
   case measure => simp [RowKit.intOf]; omega
  ·have e : k = 4 := by omega
   subst e
   have hbr : Below w.heap.size w wr := HB4.out.grown hgb (by omega) (fun k hk => by have := Option.some.inj hk; omega)
   have r7 := HR6.out.grownI hgb (fun e => by have := Option.some.inj e; omega)
   have d0 : wr.cell? ⟨w.heap.size, 0, none⟩ = some (.int .i64 s.gr.now) := r7.cell 0
   have d1 : wr.cell? ⟨w.heap.size, 1, none⟩ = some (.slice h.gh.wp h.gh.wn h.gh.wc) := r7.cell 1
   have d2 : wr.cell? ⟨w.heap.size, 2, none⟩ = some (.slice h.gh.kp h.gh.kn h.gh.kc) := r7.cell 2
   have d3 : wr.cell? ⟨w.heap.size, 3, none⟩ = some (.slice h.gh.dp h.gh.dn h.gh.dc) := r7.cell 3
   obtain ⟨H, hH⟩ : ∃ H : ShH, H = ⟨sb, n + 0, n + 1, n + 2, n + 3, n + 4, n + 5, n + 6, n + 7⟩ := ⟨_, rfl⟩
   have hHs : H.sb = sb := by rw [hH]
   have hH0 : H.w0 = n := by rw [hH]; rfl
   have hH3 : H.k3 = n + 7 := by rw [hH]
   have hrise : H.Rise := by rw [hH]; refine ⟨?_, ?_, ?_, ?_, ?_, ?_, ?_, ?_⟩ <;> simp only <;> omega
   have hrow : Row wr H.sb 123 (shL 0 s.ver s.lock (.slice q s.cache.length c') 0 0 H) := by rw [hH]; exact hr
   have hmaps : ShMaps wr H 0 (fun _ => none) (fun _ => none) := by
    refine ⟨fun j hj => ⟨0, Nat.le_refl _, ?_⟩, fun j hj => ⟨0, Nat.le_refl _, ?_⟩⟩
    ·rw [hH]
     rcases (show j = 0 ∨ j = 1 ∨ j = 2 ∨ j = 3 by omega) with rfl | rfl | rfl | rfl
     ·exact (hm 0 (by omega)).same (fun i => by simp [stF])
     ·exact (hm 2 (by omega)).same (fun i => by simp [stF])
     ·exact (hm 4 (by omega)).same (fun i => by simp [stF])
     ·exact (hm 6 (by omega)).same (fun i => by simp [stF])
    ·rw [hH]
     rcases (show j = 0 ∨ j = 1 ∨ j = 2 ∨ j = 3 by omega) with rfl | rfl | rfl | rfl
     ·exact (hm 1 (by omega)).same (fun i => by simp [stF])
     ·exact (hm 3 (by omega)).same (fun i => by simp [stF])
     ·exact (hm 5 (by omega)).same (fun i => by simp [stF])
     ·exact (hm 7 (by omega)).same (fun i => by simp [stF])
   have HRow := Lib.hid hrow
   have HMp := Lib.hid hmaps
   have HRi := Lib.hid hrise
   have HBr := Lib.hid hbr
   have ho5 := HO4.out.kept hgb (by
    rcases hob : (Value.slice q s.cache.length c').ownBlock with _ | k
    ·exact .inl rfl
    ·exact .inr (fun e => by have := (HQB.out k hob).1; have := Option.some.inj e; omega))
   have HO5 := Lib.hid ho5
   have HGB := Lib.hid hgb
   clear hr hm hgb hH hrise hrow hmaps r7 hbr ho5 HO4
   go_wp2_with fail
   refine (ledgerOf_any s.gr h.gh wr (StIn.later HIN.out HBr.out).1 HG.out).mono ?_
   rintro e w5 ⟨B, lb, mw, mk, rfl, hB, hled, hb5⟩
   obtain ⟨td, htd⟩ := hled.sh
   have hRow5 := HRow.out.below hb5 HRow.out.lt
   have hMp5 := HMp.out.later hb5
   have hz5 := hb5.size
   clear d0 d1 d2 d3
   have hk := keep_any hRow5 HRi.out hMp5 htd (by rw [hH3]; omega) HG.out (by omega)
   rw [hHs] at hk
   have HK := Lib.hid hk
   clear hk
   go_wp2_with fail
   refine HK.out.mono ?_
   rintro e w6 ⟨rfl, hr6, hm6, hk6⟩
   go_wp2_with fail
   go_ret
   have ho6 : w6.ownsRow W2.heap.size 50 4 (.slice q s.cache.length c') s.cache.length (s.cache.flatMap enCf) := own_kp (own_kp HO5.out (fun k hk => hb5.block k (by have := HO5.out.lt k hk; omega))) (fun k hk => hk6.block k (by have := HQB.out k hk; omega) (by have := HQB.out k hk; omega) (.inl (by have := HQB.out k hk; omega)))
   refine ⟨H, td, q, c', by rw [hHs]; rfl, by omega, HRi.out, by rw [hHs]; exact hr6, (hm6.sameW (fun i => over_none _ i)).sameK (fun i => over_none _ i), htd.1, ?_, ?_, ?_⟩
   ·rw [hHs, ← hz2']; exact ho6
   ·rw [hHs, hH0]; exact HQB.out
   ·exact (HBr.out.trans (hb5.mono (by omega))).trans (hk6.below (by omega) (by omega) (by omega))
end Go.Proofs.YtjccnjfdeedneaaGreat
