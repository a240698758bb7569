/- StoreNew: the contracts of both sides. -/
import Derived.Test.YtjccnjfdeedneaaGreatSSh10
import Derived.Test.YtjccnjfdeedneaaGreatSSpCp
import Derived.Test.YtjccnjfdeedneaaGreatSGrSpec2
import Derived.Test.YtjccnjfdeedneaaGreatSGdN
namespace Go.Proofs.YtjccnjfdeedneaaGreat
open Go Go.RowKit Go.Lib Go.MuLone
set_option linter.unusedVariables false
set_option linter.unusedSimpArgs false
set_option maxRecDepth 100000

def zGr : Gr := ⟨0, [], [], []⟩
def zSH : SH := ⟨⟨none, 0, 0, none, 0, 0, none, 0, 0⟩, none, 0, 0⟩
def snS (g : Gr) : St := if grantB g then ⟨g, 0, 0, []⟩ else ⟨zGr, 0, 0, []⟩
def SnOut (g : Gr) (w : World) (e : Ending) (w' : World) : Prop := ∃ k : SH, e = .returned (stV (snS g) k) ∧ StOwn w.heap.size (snS g) k w' ∧ Below w.heap.size w w'
theorem zOwn (N : Nat) (w : World) : StOwn N ⟨zGr, 0, 0, []⟩ zSH w := ⟨⟨World.ownsRow_nil _ _ _ _, World.ownsRow_nil _ _ _ _, World.ownsRow_nil _ _ _ _⟩, rfl, World.ownsRow_nil _ _ _ _⟩
set_option maxHeartbeats 4000000 in
theorem sn_impl (g : Gr) (h : GH) (w : World) (hin : GrIn w h g) (hs : GrSmall g) (hf : GrWf g) : Calls Tryz.prog 12 #[grV g.now h] w (SnOut g w) := by
 obtain ⟨W, hW⟩ : ∃ W, W = (w.alloc (.cells #[.int .i64 g.now, .slice h.wp h.wn h.wc, .slice h.kp h.kn h.kc, .slice h.dp h.dn h.dc] 31)).alloc (.cells #[.int .i64 0, .slice none 0 0, .slice none 0 0, .slice none 0 0, .int .i64 0, .int .i64 0, .slice none 0 0] 34) := ⟨_, rfl⟩
 have hb0 : Below w.heap.size w W := by rw [hW]; go_grown
 have r0 : Row W w.heap.size 31 [.int .i64 g.now, .slice h.wp h.wn h.wc, .slice h.kp h.kn h.kc, .slice h.dp h.dn h.dc] := by
  rw [hW]
  exact Row.below (heap_alloc_new w _) ((Below.refl _ _).alloc (Nat.le_refl _) _) (by simp)
 have r1 : Row W (w.heap.size + 1) 34 (stL ⟨zGr, 0, 0, []⟩ zSH) := by
  rw [hW]
  have h := heap_alloc_new (w.alloc (.cells #[.int .i64 g.now, .slice h.wp h.wn h.wc, .slice h.kp h.kn h.kc, .slice h.dp h.dn h.dc] 31)) (.cells #[.int .i64 0, .slice none 0 0, .slice none 0 0, .slice none 0 0, .int .i64 0, .int .i64 0, .slice none 0 0] 34)
  rw [World.size_alloc] at h
  exact h
 obtain ⟨p, hp⟩ : ∃ p, p = w.heap.size + 1 := ⟨_, rfl⟩
 rw [← hp] at r1
 have hwp : w.heap.size < p := by omega
 have hz := r1.lt
 have HW := Lib.hid hW
 have HP := Lib.hid hp
 have HIN := Lib.hid (GrIn.later hin hb0)
 have HB := Lib.hid hb0
 have HR0 := Lib.hid r0
 have HR1 := Lib.hid r1
 have HE := Lib.hid (show grV g.now h = .agg #[.int .i64 g.now, .slice h.wp h.wn h.wc, .slice h.kp h.kn h.kc, .slice h.dp h.dn h.dc] from rfl)
 have HC := Lib.hid (grant_imp g h W HIN.out hs hf)
 clear hin hb0 r0 r1 hW hp
 rw [HE.out]
 go_enter Tryz.func12, Tryz.ntmps12
 go_wp2_with fail
 rw [← HP.out, ← HW.out, ← HE.out]
 refine HC.out.mono ?_
 rintro e W2 ⟨rfl, hb2⟩
 have HB2 := Lib.hid (HB.out.trans (hb2.mono (by omega)))
 have HR2 := Lib.hid (HR1.out.below hb2 hz)
 have HG2 := Lib.hid (HR0.out.below hb2 (by omega))
 have HIN2 := Lib.hid (GrIn.later HIN.out hb2)
 have hz2 := HR2.out.lt
 clear hb2
 cases hgb : grantB g with
 | false =>
  have hr : snS g = ⟨zGr, 0, 0, []⟩ := by simp [snS, hgb]
  go_wp2_with (refine Stop.out (p := wpList _ _ _ [{ dst := none, op := .store 34 (.tmp 2) (.tmp 6), type := _, pos := _, after := _, guard := _ }] _ _) ?_)
  constructor
  refine wpList_store_to rfl 34 (.tmp 2) (.tmp 6) rfl p 0 (stL (⟨zGr, 0, 0, []⟩ : St) zSH).toArray rfl rfl (HR2.out.there 0 7 (by simp [stL])) sizeStore7 (oneStore7 (⟨zGr, 0, 0, []⟩ : St) zSH) ?_
  intro Y hY
  have rz : Row Y p 34 (stL (⟨zGr, 0, 0, []⟩ : St) zSH) := by rw [hY]; exact HR2.out.setCells _ 0
  have kz : Kept W2.heap.size p p p W2 Y := by rw [hY]; exact Kept.setCells (.inl rfl) _ 0 (Kept.refl _ _ _ _ _)
  have RZ := Lib.hid rz
  have KZ := Lib.hid kz
  have BZ := Lib.hid (show Below w.heap.size w Y by rw [hY]; exact below_setCells (by omega) _ _ HB2.out)
  clear hY rz kz
  go_wp2_with fail
  refine bodyPost_ret (ret_store7 (s := (⟨zGr, 0, 0, []⟩ : St)) (k := zSH) rfl rfl RZ.out) rfl ?_
  exact ⟨zSH, by rw [hr], by rw [hr]; exact zOwn _ _, BZ.out⟩
 | true =>
  have hr : snS g = ⟨g, 0, 0, []⟩ := by simp [snS, hgb]
  have a0 : W2.cell? ⟨w.heap.size, 0, none⟩ = some (.int .i64 g.now) := HG2.out.cell 0
  have a1 : W2.cell? ⟨w.heap.size, 1, none⟩ = some (.slice h.wp h.wn h.wc) := HG2.out.cell 1
  have a2 : W2.cell? ⟨w.heap.size, 2, none⟩ = some (.slice h.kp h.kn h.kc) := HG2.out.cell 2
  have a3 : W2.cell? ⟨w.heap.size, 3, none⟩ = some (.slice h.dp h.dn h.dc) := HG2.out.cell 3
  go_wp2_with fail
  refine (sharedOf_any ⟨g, 0, 0, []⟩ ⟨h, none, 0, 0⟩ W2 ⟨HIN2.out, rfl, .inl rfl⟩ (.inl ⟨rfl, rfl⟩) hgb (by simp)).mono ?_
  rintro e W3 ⟨H, td, q, c', rfl, hsb, hrise, hrow, hmaps, htd, ho, hqb, hb3⟩
  have HB3 := Lib.hid (HB2.out.trans (hb3.mono (by omega)))
  have HR3 := Lib.hid (HR2.out.below hb3 hz2)
  have hz3 := HR3.out.lt
  have hps : p < H.sb := by omega
  have hsb3 := hrow.lt
  have HF := Lib.hid (store_any hrow hrise hmaps htd hgb (by omega) ho (fun k hk => by have := hqb k hk; omega) (by simp))
  clear hb3 hrise hrow hmaps htd ho hqb a0 a1 a2 a3
  go_wp2_with fail
  refine HF.out.mono ?_
  rintro e W4 ⟨k, rfl, hgo, hcn, hco, hg4⟩
  have HB4 := Lib.hid (HB3.out.grown hg4 (by omega) (fun j hj => by have := Option.some.inj hj; omega))
  have HR4 := Lib.hid (HR3.out.grownI hg4 (fun e => by have := Option.some.inj e; omega))
  have HGo := Lib.hid hgo
  have HCo := Lib.hid hco
  have HCn := Lib.hid hcn
  clear hg4 hgo hco hcn
  unfold stV
  go_wp2_with (refine Stop.out (p := wpList _ _ _ [{ dst := none, op := .store 34 (.tmp 2) (.tmp 10), type := _, pos := _, after := _, guard := _ }] _ _) ?_)
  constructor
  refine wpList_store_to rfl 34 (.tmp 2) (.tmp 10) rfl p 0 (stL (⟨g, 0, 0, []⟩ : St) k).toArray rfl rfl (HR4.out.there 0 7 (by simp [stL])) sizeStore7 (oneStore7 (⟨g, 0, 0, []⟩ : St) k) ?_
  intro Y hY
  have rz : Row Y p 34 (stL (⟨g, 0, 0, []⟩ : St) k) := by rw [hY]; exact HR4.out.setCells _ 0
  have kz : Kept W4.heap.size p p p W4 Y := by rw [hY]; exact Kept.setCells (.inl rfl) _ 0 (Kept.refl _ _ _ _ _)
  have RZ := Lib.hid rz
  have KZ := Lib.hid kz
  have BZ := Lib.hid (show Below w.heap.size w Y by rw [hY]; exact below_setCells (by omega) _ _ HB4.out)
  clear hY rz kz
  go_wp2_with fail
  refine bodyPost_ret (ret_store7 (s := (⟨g, 0, 0, []⟩ : St)) (k := k) rfl rfl RZ.out) rfl ?_
  have fin : ∀ {E K n : Nat} {v : Value} {xs : List Value}, W4.ownsRow W3.heap.size E K v n xs → Y.ownsRow w.heap.size E K v n xs := fun h0 => own_down (own_kp h0 (fun j hj => KZ.out.block j (h0.lt j hj).2 (by have := h0.lt j hj; omega) (by have := h0.lt j hj; omega) (by have := h0.lt j hj; omega))) (by omega)
  exact ⟨k, by rw [hr], by rw [hr]; exact ⟨⟨fin HGo.out.1, fin HGo.out.2.1, fin HGo.out.2.2⟩, HCn.out, fin HCo.out⟩, BZ.out⟩
set_option maxHeartbeats 4000000 in
theorem sn_spec (g : Gr) (h : GH) (w : World) (hin : GrIn w h g) (hs : GrSmall g) (hsrc : SrcG w h g) : Calls Tryz.prog 10 #[grV g.now h] w (SnOut g w) := by
 obtain ⟨W, hW⟩ : ∃ W, W = (w.alloc (.cells #[.int .i64 g.now, .slice h.wp h.wn h.wc, .slice h.kp h.kn h.kc, .slice h.dp h.dn h.dc] 31)).alloc (.cells #[.int .i64 0, .slice none 0 0, .slice none 0 0, .slice none 0 0, .int .i64 0, .int .i64 0, .slice none 0 0] 34) := ⟨_, rfl⟩
 have hb0 : Below w.heap.size w W := by rw [hW]; go_grown
 have r0 : Row W w.heap.size 31 [.int .i64 g.now, .slice h.wp h.wn h.wc, .slice h.kp h.kn h.kc, .slice h.dp h.dn h.dc] := by
  rw [hW]
  exact Row.below (heap_alloc_new w _) ((Below.refl _ _).alloc (Nat.le_refl _) _) (by simp)
 have r1 : Row W (w.heap.size + 1) 34 (stL ⟨zGr, 0, 0, []⟩ zSH) := by
  rw [hW]
  have h := heap_alloc_new (w.alloc (.cells #[.int .i64 g.now, .slice h.wp h.wn h.wc, .slice h.kp h.kn h.kc, .slice h.dp h.dn h.dc] 31)) (.cells #[.int .i64 0, .slice none 0 0, .slice none 0 0, .slice none 0 0, .int .i64 0, .int .i64 0, .slice none 0 0] 34)
  rw [World.size_alloc] at h
  exact h
 obtain ⟨p, hp⟩ : ∃ p, p = w.heap.size + 1 := ⟨_, rfl⟩
 rw [← hp] at r1
 have hwp : w.heap.size < p := by omega
 have hz := r1.lt
 have HW := Lib.hid hW
 have HP := Lib.hid hp
 have HIN := Lib.hid (GrIn.later hin hb0)
 have HB := Lib.hid hb0
 have HR0 := Lib.hid r0
 have HR1 := Lib.hid r1
 have HE := Lib.hid (show grV g.now h = .agg #[.int .i64 g.now, .slice h.wp h.wn h.wc, .slice h.kp h.kn h.kc, .slice h.dp h.dn h.dc] from rfl)
 have HSr := Lib.hid (SrcG.later hsrc hb0)
 have HC := Lib.hid (grant_spec g h W HIN.out hs)
 clear hin hb0 r0 r1 hW hp hsrc
 rw [HE.out]
 go_enter Tryz.func10, Tryz.ntmps10
 go_wp2_with fail
 rw [← HP.out, ← HW.out, ← HE.out]
 refine HC.out.mono ?_
 rintro e W2 ⟨rfl, hb2⟩
 have HB2 := Lib.hid (HB.out.trans (hb2.mono (by omega)))
 have HR2 := Lib.hid (HR1.out.below hb2 hz)
 have HG2 := Lib.hid (HR0.out.below hb2 (by omega))
 have HIN2 := Lib.hid (GrIn.later HIN.out hb2)
 have HSr2 := Lib.hid (SrcG.later HSr.out hb2)
 have hz2 := HR2.out.lt
 clear hb2
 cases hgb : grantB g with
 | false =>
  have hr : snS g = ⟨zGr, 0, 0, []⟩ := by simp [snS, hgb]
  go_wp2_with (refine Stop.out (p := wpList _ _ _ [{ dst := none, op := .store 34 (.tmp 2) (.tmp 6), type := _, pos := _, after := _, guard := _ }] _ _) ?_)
  constructor
  refine wpList_store_to rfl 34 (.tmp 2) (.tmp 6) rfl p 0 (stL (⟨zGr, 0, 0, []⟩ : St) zSH).toArray rfl rfl (HR2.out.there 0 7 (by simp [stL])) sizeStore7 (oneStore7 (⟨zGr, 0, 0, []⟩ : St) zSH) ?_
  intro Y hY
  have rz : Row Y p 34 (stL (⟨zGr, 0, 0, []⟩ : St) zSH) := by rw [hY]; exact HR2.out.setCells _ 0
  have kz : Kept W2.heap.size p p p W2 Y := by rw [hY]; exact Kept.setCells (.inl rfl) _ 0 (Kept.refl _ _ _ _ _)
  have RZ := Lib.hid rz
  have KZ := Lib.hid kz
  have BZ := Lib.hid (show Below w.heap.size w Y by rw [hY]; exact below_setCells (by omega) _ _ HB2.out)
  clear hY rz kz
  go_wp2_with fail
  refine bodyPost_ret (ret_store7 (s := (⟨zGr, 0, 0, []⟩ : St)) (k := zSH) rfl rfl RZ.out) rfl ?_
  exact ⟨zSH, by rw [hr], by rw [hr]; exact zOwn _ _, BZ.out⟩
 | true =>
  have hr : snS g = ⟨g, 0, 0, []⟩ := by simp [snS, hgb]
  have a0 : W2.cell? ⟨w.heap.size, 0, none⟩ = some (.int .i64 g.now) := HG2.out.cell 0
  have a1 : W2.cell? ⟨w.heap.size, 1, none⟩ = some (.slice h.wp h.wn h.wc) := HG2.out.cell 1
  have a2 : W2.cell? ⟨w.heap.size, 2, none⟩ = some (.slice h.kp h.kn h.kc) := HG2.out.cell 2
  have a3 : W2.cell? ⟨w.heap.size, 3, none⟩ = some (.slice h.dp h.dn h.dc) := HG2.out.cell 3
  go_wp2_with fail
  rw [← HE.out]
  refine (copy_spec g h W2 HSr2.out ⟨by have := hs.1; omega, by have := hs.2.1; omega, by have := hs.2.2.1; omega⟩).mono ?_
  rintro e W4 ⟨k, rfl, hgo, hb3⟩
  have HB4 := Lib.hid (HB2.out.trans (hb3.mono (by omega)))
  have HR4 := Lib.hid (HR2.out.below hb3 hz2)
  have hz4 := HR4.out.lt
  have HGo := Lib.hid hgo
  clear hgo hb3 a0 a1 a2 a3
  unfold grV
  go_wp2_with (refine Stop.out (p := wpList _ _ _ [{ dst := none, op := .store 34 (.tmp 2) (.tmp 9), type := _, pos := _, after := _, guard := _ }] _ _) ?_)
  constructor
  refine wpList_store_to rfl 34 (.tmp 2) (.tmp 9) rfl p 0 (stL (⟨g, 0, 0, []⟩ : St) (⟨k, none, 0, 0⟩ : SH)).toArray rfl rfl (HR4.out.there 0 7 (by simp [stL])) sizeStore7 (oneStore7 (⟨g, 0, 0, []⟩ : St) (⟨k, none, 0, 0⟩ : SH)) ?_
  intro Y hY
  have rz : Row Y p 34 (stL (⟨g, 0, 0, []⟩ : St) (⟨k, none, 0, 0⟩ : SH)) := by rw [hY]; exact HR4.out.setCells _ 0
  have kz : Kept W4.heap.size p p p W4 Y := by rw [hY]; exact Kept.setCells (.inl rfl) _ 0 (Kept.refl _ _ _ _ _)
  have RZ := Lib.hid rz
  have KZ := Lib.hid kz
  have BZ := Lib.hid (show Below w.heap.size w Y by rw [hY]; exact below_setCells (by omega) _ _ HB4.out)
  clear hY rz kz
  go_wp2_with fail
  refine bodyPost_ret (ret_store7 (s := (⟨g, 0, 0, []⟩ : St)) (k := (⟨k, none, 0, 0⟩ : SH)) rfl rfl RZ.out) rfl ?_
  have fin : ∀ {E K n : Nat} {v : Value} {xs : List Value}, W4.ownsRow W2.heap.size E K v n xs → Y.ownsRow w.heap.size E K v n xs := fun h0 => own_down (own_kp h0 (fun j hj => KZ.out.block j (h0.lt j hj).2 (by have := h0.lt j hj; omega) (by have := h0.lt j hj; omega) (by have := h0.lt j hj; omega))) (by omega)
  exact ⟨⟨k, none, 0, 0⟩, by rw [hr], by rw [hr]; exact ⟨⟨fin HGo.out.1, fin HGo.out.2.1, fin HGo.out.2.2⟩, rfl, World.ownsRow_nil _ _ _ _⟩, BZ.out⟩
end Go.Proofs.YtjccnjfdeedneaaGreat
