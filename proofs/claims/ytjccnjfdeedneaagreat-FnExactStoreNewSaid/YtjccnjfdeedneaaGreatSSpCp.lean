/- The model's copy of a grant. -/
import Derived.Test.YtjccnjfdeedneaaGreatSSpB
import Derived.Test.YtjccnjfdeedneaaGreatSGrant2
namespace Go.Proofs.YtjccnjfdeedneaaGreat
open Go Go.RowKit Go.Lib
set_option linter.unusedVariables false
set_option maxRecDepth 100000

section
variable {P : Program} {ops : Array Oper} {Q : Exit → Act → World → Prop} {o : Oper} {a : Act}
/-- A list appended to a slice of the call's own, as one step of a region that draws its order. -/
theorem step_apps {w : World} {KK : Act → World → Prop} {F : Prop} {α : Type} {cf : α → List Value} {l : List α} (hgd : o.guard = none) (s x : Operand) (t E : TypeId) (ho : o.op = .call { callee := .builtin .append, args := #[s, x], argTypes := #[t, t] })
  (i : TypeInfo) (z : Value) (K by_ : Nat) (ht : P.underlying t = some (.slice E)) (hi : P.info? E = some i) (hz : i.zero = some z) (hsize : i.size = K) (hby : i.bytes = by_) (hzs : z.cells.size = K) (hK : 0 < K) (hb32 : by_ ≤ 64)
  (hcf : ∀ x, (cf x).length = K) (h1 : ∀ x : α, ∀ u ∈ cf x, u.oneCell' = true)
  (base : Nat) (v : Value) (n : Nat) (xs : List Value) (hs : a.eval s = v) (hown : w.ownsRow base E K v n xs) (xv : Value) (hx : a.eval x = xv) (hsrc : Src cf w xv l) (hlen : n + l.length ≤ 1048576) (hbase : base ≤ w.heap.size)
  (h : ∀ v' w', w'.ownsRow base E K v' (n + l.length) (xs ++ l.flatMap cf) → w.grownBy w' v.ownBlock → KK (a.put o.dst v') w') : if Region.wanted o (yielded ops a.tmps) = true then Oper.wp P o a w KK Q else F := by
 have hw : Region.wanted o (yielded ops a.tmps) = true := by simp [Region.wanted, hgd]
 rw [if_pos hw]
 rcases hsrc with ⟨rfl, rfl⟩ | ⟨b, q, c, rfl, hat⟩
 ·have hrun := run_append_owned_none (P := P) (w := w) base t o.type E i K ht hi v n xs hown
  have hh := h v w (by simpa using hown) ⟨rfl, rfl, rfl, Nat.le_refl _, fun _ _ _ => rfl⟩
  unfold Oper.wp
  simp [execOp, ho, resolve, invoke, builtin, hs, hx, hrun, Result.andThen]
  exact hh
 ·have hm : (n + l.length) * by_ ≤ 140737488355328 := by
   have := Nat.mul_le_mul_left (n + l.length) hb32
   omega
  exact wp_append_own w s x t ho base E i z K by_ ht hi hz hsize hby hzs hK v n xs hs hown ⟨b, q, none⟩ l.length c (l.flatMap cf) hx (flat_len hcf l)
   (fun j u hj => by rw [Addr.add_mid]; exact hat j u hj) (fun u hu => by obtain ⟨y, _, hy⟩ := List.mem_flatMap.1 hu; exact h1 y u hy) (by unfold maxLen; omega) hm hbase fun v' w' h2 h3 h4 => h v' w' h2 h3
/-- A store of a struct as one step of a region that draws its order. -/
theorem step_stG {w : World} {KK : Act → World → Prop} {F : Prop} (hgd : o.guard = none) (ty : TypeId) (x y : Operand) (ho : o.op = .store ty x y) (b i : Nat) (cells : Array Value) (hx : a.eval x = .pointer (some ⟨b, i, none⟩)) (hy : a.eval y = .agg cells)
  (ht : w.there b i cells.size) (hi : (P.info? ty).map (·.size) = some cells.size) (h1 : cells.all (·.oneCell') = true) (h : KK (a.put o.dst undef) (w.setCells b i cells.toList)) : if Region.wanted o (yielded ops a.tmps) = true then Oper.wp P o a w KK Q else F := by
 have hw : Region.wanted o (yielded ops a.tmps) = true := by simp [Region.wanted, hgd]
 rw [if_pos hw]
 exact wp_store_mid ty x y ho b i cells hx hy ht hi h1 h
end
def SrcG (w : World) (h : GH) (g : Gr) : Prop := Src wdCf w (.slice h.wp h.wn h.wc) g.words ∧ Src kyCf w (.slice h.kp h.kn h.kc) g.keys ∧ Src inCf w (.slice h.dp h.dn h.dc) g.dead
theorem SrcG.later {w w1 : World} {h : GH} {g : Gr} (hs : SrcG w h g) (hb : Below w.heap.size w w1) : SrcG w1 h g := ⟨hs.1.later hb, hs.2.1.later hb, hs.2.2.later hb⟩
set_option maxHeartbeats 8000000 in
theorem copy_spec (g : Gr) (h : GH) (w : World) (hin : SrcG w h g) (hln : 0 + g.words.length ≤ 1048576 ∧ 0 + g.keys.length ≤ 1048576 ∧ 0 + g.dead.length ≤ 1048576) : Calls Tryz.prog 45 #[grV g.now h] w (GrMade g w) := by
 obtain ⟨W, hW⟩ : ∃ W, W = (w.alloc (.cells #[.int .i64 g.now, .slice h.wp h.wn h.wc, .slice h.kp h.kn h.kc, .slice h.dp h.dn h.dc] 31)).alloc (.cells #[.int .i64 0, .slice none 0 0, .slice none 0 0, .slice none 0 0] 31) := ⟨_, rfl⟩
 have hb0 : Below w.heap.size w W := by rw [hW]; go_grown
 have r0 : Row W w.heap.size 31 [.int .i64 g.now, .slice h.wp h.wn h.wc, .slice h.kp h.kn h.kc, .slice h.dp h.dn h.dc] := by
  rw [hW]
  exact Row.below (heap_alloc_new w _) ((Below.refl _ _).alloc (Nat.le_refl _) _) (by simp)
 have r1 : Row W (w.heap.size + 1) 31 [.int .i64 0, .slice none 0 0, .slice none 0 0, .slice none 0 0] := by
  rw [hW]
  have h := heap_alloc_new (w.alloc (.cells #[.int .i64 g.now, .slice h.wp h.wn h.wc, .slice h.kp h.kn h.kc, .slice h.dp h.dn h.dc] 31)) (.cells #[.int .i64 0, .slice none 0 0, .slice none 0 0, .slice none 0 0] 31)
  rw [World.size_alloc] at h
  exact h
 have hz := hb0.size
 have HW := Lib.hid hW
 have HR := Lib.hid r1
 have HB := Lib.hid hb0
 have HR0 := Lib.hid r0
 have HLn := Lib.hid hln
 have hpl : w.heap.size + 1 < W.heap.size := r1.lt
 have HSr : Hid (∀ w', Below W.heap.size W w' → SrcG w' h g) := Lib.hid (fun w' hb => (hin.later hb0).later hb)
 have HK9 : Hid (∀ w', Below W.heap.size W w' → w'.cell? ⟨w.heap.size, 0, none⟩ = some (.int .i64 g.now) ∧ w'.cell? ⟨w.heap.size, 1, none⟩ = some (.slice h.wp h.wn h.wc) ∧ w'.cell? ⟨w.heap.size, 2, none⟩ = some (.slice h.kp h.kn h.kc) ∧ w'.cell? ⟨w.heap.size, 3, none⟩ = some (.slice h.dp h.dn h.dc)) := Lib.hid (fun w' hb => by
  have h := r0.below hb r0.lt
  exact ⟨h.cell 0, h.cell 1, h.cell 2, h.cell 3⟩)
 have HKS : Hid (∀ (l : List Value) w', Below W.heap.size W w' → (fun w' => w'.cell? ⟨w.heap.size, 0, none⟩ = some (.int .i64 g.now) ∧ w'.cell? ⟨w.heap.size, 1, none⟩ = some (.slice h.wp h.wn h.wc) ∧ w'.cell? ⟨w.heap.size, 2, none⟩ = some (.slice h.kp h.kn h.kc) ∧ w'.cell? ⟨w.heap.size, 3, none⟩ = some (.slice h.dp h.dn h.dc)) (w'.setCells (w.heap.size + 1) 0 l)) := Lib.hid (fun l w' hb => by
  have hk8 : Kept w'.heap.size (w.heap.size + 1) (w.heap.size + 1) (w.heap.size + 1) w' (w'.setCells (w.heap.size + 1) 0 l) := Kept.setCells (.inl rfl) _ 0 (Kept.refl _ _ _ _ _)
  have h8 := r0.below hb r0.lt
  have h := h8.kept hk8 h8.lt (by omega) (by omega) (by omega)
  exact ⟨h.cell 0, h.cell 1, h.cell 2, h.cell 3⟩)
 obtain ⟨i0, hi0, hz0_0, hz0_1, hz0_2⟩ := info_parts infoWord
 obtain ⟨i1, hi1, hz1_0, hz1_1, hz1_2⟩ := info_parts infoKey
 obtain ⟨i2, hi2, hz2_0, hz2_1, hz2_2⟩ := info_parts infoInt64
 have HE := Lib.hid (show grV g.now h = .agg #[.int .i64 g.now, .slice h.wp h.wn h.wc, .slice h.kp h.kn h.kc, .slice h.dp h.dn h.dc] from rfl)
 clear hW hb0 r0 r1 hin hln
 rw [HE.out]
 go_enter Tryz.func45, Tryz.ntmps45
 go_wp2_with fail
 rw [← HW.out]
 have HB0 := Lib.hid ((Below.refl W.heap.size W).drew)
 have HF : Hid (∀ (k : GH) (w' : World), Below W.heap.size W w' → GrOwn W.heap.size g k w' → Row (w'.setCells (w.heap.size + 1) 0 #[.int .i64 g.now, .slice k.wp k.wn k.wc, .slice k.kp k.kn k.kc, .slice k.dp k.dn k.dc].toList) (w.heap.size + 1) 31 (grL g.now k) ∧ GrOwn w.heap.size g k (w'.setCells (w.heap.size + 1) 0 #[.int .i64 g.now, .slice k.wp k.wn k.wc, .slice k.kp k.kn k.kc, .slice k.dp k.dn k.dc].toList) ∧ Below w.heap.size w (w'.setCells (w.heap.size + 1) 0 #[.int .i64 g.now, .slice k.wp k.wn k.wc, .slice k.kp k.kn k.kc, .slice k.dp k.dn k.dc].toList)) := Lib.hid (by
  intro k w' hb ho
  have hk8 : Kept w'.heap.size (w.heap.size + 1) (w.heap.size + 1) (w.heap.size + 1) w' (w'.setCells (w.heap.size + 1) 0 #[.int .i64 g.now, .slice k.wp k.wn k.wc, .slice k.kp k.kn k.kc, .slice k.dp k.dn k.dc].toList) := Kept.setCells (.inl rfl) _ 0 (Kept.refl _ _ _ _ _)
  have hne : ∀ {E K n : Nat} {v : Value} {x : List Value}, w'.ownsRow W.heap.size E K v n x → (∀ j, v.ownBlock = some j → j < w'.heap.size) ∧ some (w.heap.size + 1) ≠ v.ownBlock := fun h => ⟨fun j hj => (h.lt j hj).2, fun e => by have := (h.lt _ e.symm).1; omega⟩
  refine ⟨(HR.out.below hb HR.out.lt).setCells _ 0, ⟨own_down (own_kept ho.1 hk8 (hne ho.1)) hz, own_down (own_kept ho.2.1 hk8 (hne ho.2.1)) hz, own_down (own_kept ho.2.2 hk8 (hne ho.2.2)) hz⟩, ?_⟩
  have hsz := hb.size
  exact (HB.out.trans (hb.mono hz)).trans (hk8.below (B := w.heap.size) (by omega) (by omega) (by omega) (by omega)))
 refine region_L 15 (fun _ => True) (fun w' => w'.cell? ⟨w.heap.size, 0, none⟩ = some (.int .i64 g.now) ∧ w'.cell? ⟨w.heap.size, 1, none⟩ = some (.slice h.wp h.wn h.wc) ∧ w'.cell? ⟨w.heap.size, 2, none⟩ = some (.slice h.kp h.kn h.kc) ∧ w'.cell? ⟨w.heap.size, 3, none⟩ = some (.slice h.dp h.dn h.dc)) (by kernel_rfl) ⟨fun _ => trivial, HK9.out _ HB0.out⟩ (fun hHL => ?_)
 refine wpAnyL_take (i := 0) (v := ?_) (by rfl) rfl (by kernel_rfl) (by kernel_rfl) (by kernel_rfl) (fun _ _ _ h => h) (Or.inl ⟨by rfl, ?_⟩) hHL ?_
 rotate_left
 ·intro w hSw; (try dsimp only at hSw); (first | (go_simp; done) | (go_simp; with_reducible rfl))
 clear hHL
 intro hHL
 (try simp only [Act.put, List.setIfInBounds_toArray, List.set_cons_zero, List.set_cons_succ])
 refine wpAnyL_take (i := 1) (v := ?_) (by rfl) rfl (by kernel_rfl) (by kernel_rfl) (by kernel_rfl) (fun _ _ _ h => h) (Or.inl ⟨by rfl, ?_⟩) hHL ?_
 rotate_left
 ·intro w hSw; (try dsimp only at hSw); (first | (go_simp; done) | (go_simp; with_reducible rfl))
 clear hHL
 intro hHL
 (try simp only [Act.put, List.setIfInBounds_toArray, List.set_cons_zero, List.set_cons_succ])
 refine wpAnyL_take (i := 3) (v := ?_) (by rfl) rfl (by kernel_rfl) (by kernel_rfl) (by kernel_rfl) (fun _ _ _ h => h) (Or.inl ⟨by rfl, ?_⟩) hHL ?_
 rotate_left
 ·intro w hSw; (try dsimp only at hSw); (first | (go_simp; done) | (go_simp; with_reducible rfl))
 clear hHL
 intro hHL
 (try simp only [Act.put, List.setIfInBounds_toArray, List.set_cons_zero, List.set_cons_succ])
 refine wpAnyL_take (i := 4) (v := ?_) (by rfl) rfl (by kernel_rfl) (by kernel_rfl) (by kernel_rfl) (fun _ _ _ h => h) (Or.inl ⟨by rfl, ?_⟩) hHL ?_
 rotate_left
 ·intro w hSw; (try dsimp only at hSw); (first | (go_simp; done) | (go_simp; with_reducible rfl))
 clear hHL
 intro hHL
 (try simp only [Act.put, List.setIfInBounds_toArray, List.set_cons_zero, List.set_cons_succ])
 refine wpAnyL_take (i := 7) (v := ?_) (by rfl) rfl (by kernel_rfl) (by kernel_rfl) (by kernel_rfl) (fun _ _ _ h => h) (Or.inl ⟨by rfl, ?_⟩) hHL ?_
 rotate_left
 ·intro w hSw; (try dsimp only at hSw); (first | (go_simp; done) | (go_simp; with_reducible rfl))
 clear hHL
 intro hHL
 (try simp only [Act.put, List.setIfInBounds_toArray, List.set_cons_zero, List.set_cons_succ])
 refine wpAnyL_take (i := 8) (v := ?_) (by rfl) rfl (by kernel_rfl) (by kernel_rfl) (by kernel_rfl) (fun _ _ _ h => h) (Or.inl ⟨by rfl, ?_⟩) hHL ?_
 rotate_left
 ·intro w hSw; (try dsimp only at hSw); (first | (go_simp; done) | (go_simp; with_reducible rfl))
 clear hHL
 intro hHL
 (try simp only [Act.put, List.setIfInBounds_toArray, List.set_cons_zero, List.set_cons_succ])
 refine wpAnyL_take (i := 11) (v := ?_) (by rfl) rfl (by kernel_rfl) (by kernel_rfl) (by kernel_rfl) (fun _ _ _ h => h) (Or.inl ⟨by rfl, ?_⟩) hHL ?_
 rotate_left
 ·intro w hSw; (try dsimp only at hSw); (first | (go_simp; done) | (go_simp; with_reducible rfl))
 clear hHL
 intro hHL
 (try simp only [Act.put, List.setIfInBounds_toArray, List.set_cons_zero, List.set_cons_succ])
 refine wpAnyL_take (i := 12) (v := ?_) (by rfl) rfl (by kernel_rfl) (by kernel_rfl) (by kernel_rfl) (fun _ _ _ h => h) (Or.inl ⟨by rfl, ?_⟩) hHL ?_
 rotate_left
 ·intro w hSw; (try dsimp only at hSw); (first | (go_simp; done) | (go_simp; with_reducible rfl))
 clear hHL
 intro hHL
 (try simp only [Act.put, List.setIfInBounds_toArray, List.set_cons_zero, List.set_cons_succ])
 refine wpAnyL_ready (rs := [2, 6, 10]) (by kernel_rfl) (by simp) ?_
 refine AllReadyL.cons rfl (fun K hK => ?_) (AllReadyL.cons rfl (fun K hK => ?_) (AllReadyL.cons rfl (fun K hK => ?_) AllReadyL.nil))
 ·go_simp
  have hb1 := HB0.out.alloc HB0.out.size (.cells #[] 163)
  have hm1 := (World.ownsRow_made (base := W.heap.size) (size := 5) (e := 163) W.drew #[] 0 HB0.out.size (Nat.zero_le _) rfl)
  have HO0_1 := Lib.hid hm1
  have HB1 := Lib.hid hb1
  refine hK.out _ _ ⟨fun _ => trivial, HK9.out _ HB1.out⟩ (fun hHL => ?_)
  clear hK K hb1 hm1
  (try simp only [Act.put, List.setIfInBounds_toArray, List.set_cons_zero, List.set_cons_succ])
  refine wpAnyL_ready (rs := [5, 6, 10]) (by kernel_rfl) (by simp) ?_
  refine AllReadyL.cons rfl (fun K hK => ?_) (AllReadyL.cons rfl (fun K hK => ?_) (AllReadyL.cons rfl (fun K hK => ?_) AllReadyL.nil))
  ·refine step_apps (cf := wdCf) (l := g.words) rfl (.tmp 5) (.tmp 7) 28 163 rfl i0 _ 5 48 Tryz.underlying28 hi0 hz0_0 hz0_1 hz0_2 rfl (by decide) (by decide) wdCf_len oneWd W.heap.size _ 0 [] rfl HO0_1.out _ rfl (HSr.out _ HB1.out).1 HLn.out.1 HB1.out.size ?_
   intro v0 x2 o2 g2
   have HB2 := Lib.hid (below_grown HB1.out HB1.out.size HO0_1.out g2)
   have HO0_2 := Lib.hid (own_cast o2 (by rw [Nat.zero_add]) rfl)
   refine hK.out _ _ ⟨fun _ => trivial, HK9.out _ HB2.out⟩ (fun hHL => ?_)
   clear hK K o2 g2
   (try simp only [Act.put, List.setIfInBounds_toArray, List.set_cons_zero, List.set_cons_succ])
   refine wpAnyL_ready (rs := [6, 10]) (by kernel_rfl) (by simp) ?_
   refine AllReadyL.cons rfl (fun K hK => ?_) (AllReadyL.cons rfl (fun K hK => ?_) AllReadyL.nil)
   ·go_simp
    have hb3 := HB2.out.alloc HB2.out.size (.cells #[] 127)
    have hm3 := (World.ownsRow_made (base := W.heap.size) (size := 6) (e := 127) x2 #[] 0 HB2.out.size (Nat.zero_le _) rfl)
    have HO1_3 := Lib.hid hm3
    have HO0_3 := Lib.hid (HO0_2.out.alloc (.cells #[] 127))
    have HB3 := Lib.hid hb3
    refine hK.out _ _ ⟨fun _ => trivial, HK9.out _ HB3.out⟩ (fun hHL => ?_)
    clear hK K hb3 hm3
    (try simp only [Act.put, List.setIfInBounds_toArray, List.set_cons_zero, List.set_cons_succ])
    refine wpAnyL_ready (rs := [9, 10]) (by kernel_rfl) (by simp) ?_
    refine AllReadyL.cons rfl (fun K hK => ?_) (AllReadyL.cons rfl (fun K hK => ?_) AllReadyL.nil)
    ·refine step_apps (cf := kyCf) (l := g.keys) rfl (.tmp 9) (.tmp 11) 29 127 rfl i1 _ 6 48 Tryz.underlying29 hi1 hz1_0 hz1_1 hz1_2 rfl (by decide) (by decide) kyCf_len oneKy W.heap.size _ 0 [] rfl HO1_3.out _ rfl (HSr.out _ HB3.out).2.1 HLn.out.2.1 HB3.out.size ?_
     intro v1 x4 o4 g4
     have HB4 := Lib.hid (below_grown HB3.out HB3.out.size HO1_3.out g4)
     have HO1_4 := Lib.hid (own_cast o4 (by rw [Nat.zero_add]) rfl)
     have HO0_4 := Lib.hid (HO0_3.out.kept g4 (own_apart HO0_3.out HO1_3.out (by decide)))
     refine hK.out _ _ ⟨fun _ => trivial, HK9.out _ HB4.out⟩ (fun hHL => ?_)
     clear hK K o4 g4
     (try simp only [Act.put, List.setIfInBounds_toArray, List.set_cons_zero, List.set_cons_succ])
     refine wpAnyL_ready (rs := [10]) (by kernel_rfl) (by simp) ?_
     refine AllReadyL.cons rfl (fun K hK => ?_) AllReadyL.nil
     ·go_simp
      have hb5 := HB4.out.alloc HB4.out.size (.cells #[] 2)
      have hm5 := (World.ownsRow_made (base := W.heap.size) (size := 1) (e := 2) x4 #[] 0 HB4.out.size (Nat.zero_le _) rfl)
      have HO2_5 := Lib.hid hm5
      have HO0_5 := Lib.hid (HO0_4.out.alloc (.cells #[] 2))
      have HO1_5 := Lib.hid (HO1_4.out.alloc (.cells #[] 2))
      have HB5 := Lib.hid hb5
      refine hK.out _ _ ⟨fun _ => trivial, HK9.out _ HB5.out⟩ (fun hHL => ?_)
      clear hK K hb5 hm5
      (try simp only [Act.put, List.setIfInBounds_toArray, List.set_cons_zero, List.set_cons_succ])
      refine wpAnyL_ready (rs := [13]) (by kernel_rfl) (by simp) ?_
      refine AllReadyL.cons rfl (fun K hK => ?_) AllReadyL.nil
      ·refine step_apps (cf := inCf) (l := g.dead) rfl (.tmp 13) (.tmp 15) 24 2 rfl i2 _ 1 8 Tryz.underlying24 hi2 hz2_0 hz2_1 hz2_2 rfl (by decide) (by decide) inCf_len oneIn W.heap.size _ 0 [] rfl HO2_5.out _ rfl (HSr.out _ HB5.out).2.2 HLn.out.2.2 HB5.out.size ?_
       intro v2 x6 o6 g6
       have HB6 := Lib.hid (below_grown HB5.out HB5.out.size HO2_5.out g6)
       have HO2_6 := Lib.hid (own_cast o6 (by rw [Nat.zero_add]) rfl)
       have HO0_6 := Lib.hid (HO0_5.out.kept g6 (own_apart HO0_5.out HO2_5.out (by decide)))
       have HO1_6 := Lib.hid (HO1_5.out.kept g6 (own_apart HO1_5.out HO2_5.out (by decide)))
       refine hK.out _ _ ⟨fun _ => trivial, HK9.out _ HB6.out⟩ (fun hHL => ?_)
       clear hK K o6 g6
       (try simp only [Act.put, List.setIfInBounds_toArray, List.set_cons_zero, List.set_cons_succ])
       obtain ⟨p0, c0, rfl⟩ := own_slc HO0_6.out
       obtain ⟨p1, c1, rfl⟩ := own_slc HO1_6.out
       obtain ⟨p2, c2, rfl⟩ := own_slc HO2_6.out
       refine wpAnyL_take (i := 14) (v := ?_) (by rfl) rfl (by kernel_rfl) (by kernel_rfl) (by kernel_rfl) (fun _ _ _ h => h) (Or.inl ⟨by rfl, ?_⟩) hHL ?_
       rotate_left
       ·intro w hSw; (try dsimp only at hSw); (first | (go_simp; done) | (go_simp; with_reducible rfl))
       clear hHL
       intro hHL
       (try simp only [Act.put, List.setIfInBounds_toArray, List.set_cons_zero, List.set_cons_succ])
       refine wpAnyL_ready (rs := [15]) (by kernel_rfl) (by simp) ?_
       refine AllReadyL.cons rfl (fun K hK => ?_) AllReadyL.nil
       have h7 := HR.out.below HB6.out HR.out.lt
       refine step_stG rfl 31 (.tmp 2) (.tmp 17) rfl (w.heap.size + 1) 0 #[.int .i64 g.now, .slice p0 g.words.length c0, .slice p1 g.keys.length c1, .slice p2 g.dead.length c2] rfl rfl (h7.there 0 4 (by simp)) sizeGrantZ (oneGrantZ g.now ⟨p0, g.words.length, c0, p1, g.keys.length, c1, p2, g.dead.length, c2⟩) ?_
       refine hK.out _ _ ⟨fun _ => trivial, HKS.out _ _ HB6.out⟩ (fun hHL => ?_)
       clear hK K hHL
       refine wpAnyL_done (by kernel_rfl) ?_ _
       obtain ⟨hZ, hO, hBz⟩ := HF.out ⟨p0, g.words.length, c0, p1, g.keys.length, c1, p2, g.dead.length, c2⟩ _ HB6.out ⟨HO0_6.out, HO1_6.out, HO2_6.out⟩
       have HZ := Lib.hid hZ
       have HOz := Lib.hid hO
       have HBz := Lib.hid hBz
       clear hZ hO hBz h7
       generalize (x6.setCells (w.heap.size + 1) 0 _) = Z at HZ HOz HBz ⊢
       go_wp2_with fail
       refine bodyPost_ret (ret_grant rfl rfl HZ.out) rfl ?_
       exact ⟨_, rfl, HOz.out, HBz.out⟩
    ·go_simp
     have hb4 := HB3.out.alloc HB3.out.size (.cells #[] 2)
     have hm4 := (World.ownsRow_made (base := W.heap.size) (size := 1) (e := 2) (x2.alloc (.cells #[] 127)) #[] 0 HB3.out.size (Nat.zero_le _) rfl)
     simp only [World.size_alloc] at hm4
     have HO2_4 := Lib.hid hm4
     have HO0_4 := Lib.hid (HO0_3.out.alloc (.cells #[] 2))
     have HO1_4 := Lib.hid (HO1_3.out.alloc (.cells #[] 2))
     have HB4 := Lib.hid hb4
     refine hK.out _ _ ⟨fun _ => trivial, HK9.out _ HB4.out⟩ (fun hHL => ?_)
     clear hK K hb4 hm4
     (try simp only [Act.put, List.setIfInBounds_toArray, List.set_cons_zero, List.set_cons_succ])
     refine wpAnyL_ready (rs := [9]) (by kernel_rfl) (by simp) ?_
     refine AllReadyL.cons rfl (fun K hK => ?_) AllReadyL.nil
     ·refine step_apps (cf := kyCf) (l := g.keys) rfl (.tmp 9) (.tmp 11) 29 127 rfl i1 _ 6 48 Tryz.underlying29 hi1 hz1_0 hz1_1 hz1_2 rfl (by decide) (by decide) kyCf_len oneKy W.heap.size _ 0 [] rfl HO1_4.out _ rfl (HSr.out _ HB4.out).2.1 HLn.out.2.1 HB4.out.size ?_
      intro v1 x5 o5 g5
      have HB5 := Lib.hid (below_grown HB4.out HB4.out.size HO1_4.out g5)
      have HO1_5 := Lib.hid (own_cast o5 (by rw [Nat.zero_add]) rfl)
      have HO0_5 := Lib.hid (HO0_4.out.kept g5 (own_apart HO0_4.out HO1_4.out (by decide)))
      have HO2_5 := Lib.hid (HO2_4.out.kept g5 (own_apart HO2_4.out HO1_4.out (by decide)))
      refine hK.out _ _ ⟨fun _ => trivial, HK9.out _ HB5.out⟩ (fun hHL => ?_)
      clear hK K o5 g5
      (try simp only [Act.put, List.setIfInBounds_toArray, List.set_cons_zero, List.set_cons_succ])
      refine wpAnyL_ready (rs := [13]) (by kernel_rfl) (by simp) ?_
      refine AllReadyL.cons rfl (fun K hK => ?_) AllReadyL.nil
      ·refine step_apps (cf := inCf) (l := g.dead) rfl (.tmp 13) (.tmp 15) 24 2 rfl i2 _ 1 8 Tryz.underlying24 hi2 hz2_0 hz2_1 hz2_2 rfl (by decide) (by decide) inCf_len oneIn W.heap.size _ 0 [] rfl HO2_5.out _ rfl (HSr.out _ HB5.out).2.2 HLn.out.2.2 HB5.out.size ?_
       intro v2 x6 o6 g6
       have HB6 := Lib.hid (below_grown HB5.out HB5.out.size HO2_5.out g6)
       have HO2_6 := Lib.hid (own_cast o6 (by rw [Nat.zero_add]) rfl)
       have HO0_6 := Lib.hid (HO0_5.out.kept g6 (own_apart HO0_5.out HO2_5.out (by decide)))
       have HO1_6 := Lib.hid (HO1_5.out.kept g6 (own_apart HO1_5.out HO2_5.out (by decide)))
       refine hK.out _ _ ⟨fun _ => trivial, HK9.out _ HB6.out⟩ (fun hHL => ?_)
       clear hK K o6 g6
       (try simp only [Act.put, List.setIfInBounds_toArray, List.set_cons_zero, List.set_cons_succ])
       obtain ⟨p0, c0, rfl⟩ := own_slc HO0_6.out
       obtain ⟨p1, c1, rfl⟩ := own_slc HO1_6.out
       obtain ⟨p2, c2, rfl⟩ := own_slc HO2_6.out
       refine wpAnyL_take (i := 14) (v := ?_) (by rfl) rfl (by kernel_rfl) (by kernel_rfl) (by kernel_rfl) (fun _ _ _ h => h) (Or.inl ⟨by rfl, ?_⟩) hHL ?_
       rotate_left
       ·intro w hSw; (try dsimp only at hSw); (first | (go_simp; done) | (go_simp; with_reducible rfl))
       clear hHL
       intro hHL
       (try simp only [Act.put, List.setIfInBounds_toArray, List.set_cons_zero, List.set_cons_succ])
       refine wpAnyL_ready (rs := [15]) (by kernel_rfl) (by simp) ?_
       refine AllReadyL.cons rfl (fun K hK => ?_) AllReadyL.nil
       have h7 := HR.out.below HB6.out HR.out.lt
       refine step_stG rfl 31 (.tmp 2) (.tmp 17) rfl (w.heap.size + 1) 0 #[.int .i64 g.now, .slice p0 g.words.length c0, .slice p1 g.keys.length c1, .slice p2 g.dead.length c2] rfl rfl (h7.there 0 4 (by simp)) sizeGrantZ (oneGrantZ g.now ⟨p0, g.words.length, c0, p1, g.keys.length, c1, p2, g.dead.length, c2⟩) ?_
       refine hK.out _ _ ⟨fun _ => trivial, HKS.out _ _ HB6.out⟩ (fun hHL => ?_)
       clear hK K hHL
       refine wpAnyL_done (by kernel_rfl) ?_ _
       obtain ⟨hZ, hO, hBz⟩ := HF.out ⟨p0, g.words.length, c0, p1, g.keys.length, c1, p2, g.dead.length, c2⟩ _ HB6.out ⟨HO0_6.out, HO1_6.out, HO2_6.out⟩
       have HZ := Lib.hid hZ
       have HOz := Lib.hid hO
       have HBz := Lib.hid hBz
       clear hZ hO hBz h7
       generalize (x6.setCells (w.heap.size + 1) 0 _) = Z at HZ HOz HBz ⊢
       go_wp2_with fail
       refine bodyPost_ret (ret_grant rfl rfl HZ.out) rfl ?_
       exact ⟨_, rfl, HOz.out, HBz.out⟩
   ·go_simp
    have hb3 := HB2.out.alloc HB2.out.size (.cells #[] 2)
    have hm3 := (World.ownsRow_made (base := W.heap.size) (size := 1) (e := 2) x2 #[] 0 HB2.out.size (Nat.zero_le _) rfl)
    have HO2_3 := Lib.hid hm3
    have HO0_3 := Lib.hid (HO0_2.out.alloc (.cells #[] 2))
    have HB3 := Lib.hid hb3
    refine hK.out _ _ ⟨fun _ => trivial, HK9.out _ HB3.out⟩ (fun hHL => ?_)
    clear hK K hb3 hm3
    (try simp only [Act.put, List.setIfInBounds_toArray, List.set_cons_zero, List.set_cons_succ])
    refine wpAnyL_ready (rs := [6]) (by kernel_rfl) (by simp) ?_
    refine AllReadyL.cons rfl (fun K hK => ?_) AllReadyL.nil
    ·go_simp
     have hb4 := HB3.out.alloc HB3.out.size (.cells #[] 127)
     have hm4 := (World.ownsRow_made (base := W.heap.size) (size := 6) (e := 127) (x2.alloc (.cells #[] 2)) #[] 0 HB3.out.size (Nat.zero_le _) rfl)
     simp only [World.size_alloc] at hm4
     have HO1_4 := Lib.hid hm4
     have HO0_4 := Lib.hid (HO0_3.out.alloc (.cells #[] 127))
     have HO2_4 := Lib.hid (HO2_3.out.alloc (.cells #[] 127))
     have HB4 := Lib.hid hb4
     refine hK.out _ _ ⟨fun _ => trivial, HK9.out _ HB4.out⟩ (fun hHL => ?_)
     clear hK K hb4 hm4
     (try simp only [Act.put, List.setIfInBounds_toArray, List.set_cons_zero, List.set_cons_succ])
     refine wpAnyL_ready (rs := [9]) (by kernel_rfl) (by simp) ?_
     refine AllReadyL.cons rfl (fun K hK => ?_) AllReadyL.nil
     ·refine step_apps (cf := kyCf) (l := g.keys) rfl (.tmp 9) (.tmp 11) 29 127 rfl i1 _ 6 48 Tryz.underlying29 hi1 hz1_0 hz1_1 hz1_2 rfl (by decide) (by decide) kyCf_len oneKy W.heap.size _ 0 [] rfl HO1_4.out _ rfl (HSr.out _ HB4.out).2.1 HLn.out.2.1 HB4.out.size ?_
      intro v1 x5 o5 g5
      have HB5 := Lib.hid (below_grown HB4.out HB4.out.size HO1_4.out g5)
      have HO1_5 := Lib.hid (own_cast o5 (by rw [Nat.zero_add]) rfl)
      have HO0_5 := Lib.hid (HO0_4.out.kept g5 (own_apart HO0_4.out HO1_4.out (by decide)))
      have HO2_5 := Lib.hid (HO2_4.out.kept g5 (own_apart HO2_4.out HO1_4.out (by decide)))
      refine hK.out _ _ ⟨fun _ => trivial, HK9.out _ HB5.out⟩ (fun hHL => ?_)
      clear hK K o5 g5
      (try simp only [Act.put, List.setIfInBounds_toArray, List.set_cons_zero, List.set_cons_succ])
      refine wpAnyL_ready (rs := [13]) (by kernel_rfl) (by simp) ?_
      refine AllReadyL.cons rfl (fun K hK => ?_) AllReadyL.nil
      ·refine step_apps (cf := inCf) (l := g.dead) rfl (.tmp 13) (.tmp 15) 24 2 rfl i2 _ 1 8 Tryz.underlying24 hi2 hz2_0 hz2_1 hz2_2 rfl (by decide) (by decide) inCf_len oneIn W.heap.size _ 0 [] rfl HO2_5.out _ rfl (HSr.out _ HB5.out).2.2 HLn.out.2.2 HB5.out.size ?_
       intro v2 x6 o6 g6
       have HB6 := Lib.hid (below_grown HB5.out HB5.out.size HO2_5.out g6)
       have HO2_6 := Lib.hid (own_cast o6 (by rw [Nat.zero_add]) rfl)
       have HO0_6 := Lib.hid (HO0_5.out.kept g6 (own_apart HO0_5.out HO2_5.out (by decide)))
       have HO1_6 := Lib.hid (HO1_5.out.kept g6 (own_apart HO1_5.out HO2_5.out (by decide)))
       refine hK.out _ _ ⟨fun _ => trivial, HK9.out _ HB6.out⟩ (fun hHL => ?_)
       clear hK K o6 g6
       (try simp only [Act.put, List.setIfInBounds_toArray, List.set_cons_zero, List.set_cons_succ])
       obtain ⟨p0, c0, rfl⟩ := own_slc HO0_6.out
       obtain ⟨p1, c1, rfl⟩ := own_slc HO1_6.out
       obtain ⟨p2, c2, rfl⟩ := own_slc HO2_6.out
       refine wpAnyL_take (i := 14) (v := ?_) (by rfl) rfl (by kernel_rfl) (by kernel_rfl) (by kernel_rfl) (fun _ _ _ h => h) (Or.inl ⟨by rfl, ?_⟩) hHL ?_
       rotate_left
       ·intro w hSw; (try dsimp only at hSw); (first | (go_simp; done) | (go_simp; with_reducible rfl))
       clear hHL
       intro hHL
       (try simp only [Act.put, List.setIfInBounds_toArray, List.set_cons_zero, List.set_cons_succ])
       refine wpAnyL_ready (rs := [15]) (by kernel_rfl) (by simp) ?_
       refine AllReadyL.cons rfl (fun K hK => ?_) AllReadyL.nil
       have h7 := HR.out.below HB6.out HR.out.lt
       refine step_stG rfl 31 (.tmp 2) (.tmp 17) rfl (w.heap.size + 1) 0 #[.int .i64 g.now, .slice p0 g.words.length c0, .slice p1 g.keys.length c1, .slice p2 g.dead.length c2] rfl rfl (h7.there 0 4 (by simp)) sizeGrantZ (oneGrantZ g.now ⟨p0, g.words.length, c0, p1, g.keys.length, c1, p2, g.dead.length, c2⟩) ?_
       refine hK.out _ _ ⟨fun _ => trivial, HKS.out _ _ HB6.out⟩ (fun hHL => ?_)
       clear hK K hHL
       refine wpAnyL_done (by kernel_rfl) ?_ _
       obtain ⟨hZ, hO, hBz⟩ := HF.out ⟨p0, g.words.length, c0, p1, g.keys.length, c1, p2, g.dead.length, c2⟩ _ HB6.out ⟨HO0_6.out, HO1_6.out, HO2_6.out⟩
       have HZ := Lib.hid hZ
       have HOz := Lib.hid hO
       have HBz := Lib.hid hBz
       clear hZ hO hBz h7
       generalize (x6.setCells (w.heap.size + 1) 0 _) = Z at HZ HOz HBz ⊢
       go_wp2_with fail
       refine bodyPost_ret (ret_grant rfl rfl HZ.out) rfl ?_
       exact ⟨_, rfl, HOz.out, HBz.out⟩
  ·go_simp
   have hb2 := HB1.out.alloc HB1.out.size (.cells #[] 127)
   have hm2 := (World.ownsRow_made (base := W.heap.size) (size := 6) (e := 127) (W.drew.alloc (.cells #[] 163)) #[] 0 HB1.out.size (Nat.zero_le _) rfl)
   simp only [World.size_alloc] at hm2
   have HO1_2 := Lib.hid hm2
   have HO0_2 := Lib.hid (HO0_1.out.alloc (.cells #[] 127))
   have HB2 := Lib.hid hb2
   refine hK.out _ _ ⟨fun _ => trivial, HK9.out _ HB2.out⟩ (fun hHL => ?_)
   clear hK K hb2 hm2
   (try simp only [Act.put, List.setIfInBounds_toArray, List.set_cons_zero, List.set_cons_succ])
   refine wpAnyL_ready (rs := [5, 10]) (by kernel_rfl) (by simp) ?_
   refine AllReadyL.cons rfl (fun K hK => ?_) (AllReadyL.cons rfl (fun K hK => ?_) AllReadyL.nil)
   ·refine step_apps (cf := wdCf) (l := g.words) rfl (.tmp 5) (.tmp 7) 28 163 rfl i0 _ 5 48 Tryz.underlying28 hi0 hz0_0 hz0_1 hz0_2 rfl (by decide) (by decide) wdCf_len oneWd W.heap.size _ 0 [] rfl HO0_2.out _ rfl (HSr.out _ HB2.out).1 HLn.out.1 HB2.out.size ?_
    intro v0 x3 o3 g3
    have HB3 := Lib.hid (below_grown HB2.out HB2.out.size HO0_2.out g3)
    have HO0_3 := Lib.hid (own_cast o3 (by rw [Nat.zero_add]) rfl)
    have HO1_3 := Lib.hid (HO1_2.out.kept g3 (own_apart HO1_2.out HO0_2.out (by decide)))
    refine hK.out _ _ ⟨fun _ => trivial, HK9.out _ HB3.out⟩ (fun hHL => ?_)
    clear hK K o3 g3
    (try simp only [Act.put, List.setIfInBounds_toArray, List.set_cons_zero, List.set_cons_succ])
    refine wpAnyL_ready (rs := [9, 10]) (by kernel_rfl) (by simp) ?_
    refine AllReadyL.cons rfl (fun K hK => ?_) (AllReadyL.cons rfl (fun K hK => ?_) AllReadyL.nil)
    ·refine step_apps (cf := kyCf) (l := g.keys) rfl (.tmp 9) (.tmp 11) 29 127 rfl i1 _ 6 48 Tryz.underlying29 hi1 hz1_0 hz1_1 hz1_2 rfl (by decide) (by decide) kyCf_len oneKy W.heap.size _ 0 [] rfl HO1_3.out _ rfl (HSr.out _ HB3.out).2.1 HLn.out.2.1 HB3.out.size ?_
     intro v1 x4 o4 g4
     have HB4 := Lib.hid (below_grown HB3.out HB3.out.size HO1_3.out g4)
     have HO1_4 := Lib.hid (own_cast o4 (by rw [Nat.zero_add]) rfl)
     have HO0_4 := Lib.hid (HO0_3.out.kept g4 (own_apart HO0_3.out HO1_3.out (by decide)))
     refine hK.out _ _ ⟨fun _ => trivial, HK9.out _ HB4.out⟩ (fun hHL => ?_)
     clear hK K o4 g4
     (try simp only [Act.put, List.setIfInBounds_toArray, List.set_cons_zero, List.set_cons_succ])
     refine wpAnyL_ready (rs := [10]) (by kernel_rfl) (by simp) ?_
     refine AllReadyL.cons rfl (fun K hK => ?_) AllReadyL.nil
     ·go_simp
      have hb5 := HB4.out.alloc HB4.out.size (.cells #[] 2)
      have hm5 := (World.ownsRow_made (base := W.heap.size) (size := 1) (e := 2) x4 #[] 0 HB4.out.size (Nat.zero_le _) rfl)
      have HO2_5 := Lib.hid hm5
      have HO0_5 := Lib.hid (HO0_4.out.alloc (.cells #[] 2))
      have HO1_5 := Lib.hid (HO1_4.out.alloc (.cells #[] 2))
      have HB5 := Lib.hid hb5
      refine hK.out _ _ ⟨fun _ => trivial, HK9.out _ HB5.out⟩ (fun hHL => ?_)
      clear hK K hb5 hm5
      (try simp only [Act.put, List.setIfInBounds_toArray, List.set_cons_zero, List.set_cons_succ])
      refine wpAnyL_ready (rs := [13]) (by kernel_rfl) (by simp) ?_
      refine AllReadyL.cons rfl (fun K hK => ?_) AllReadyL.nil
      ·refine step_apps (cf := inCf) (l := g.dead) rfl (.tmp 13) (.tmp 15) 24 2 rfl i2 _ 1 8 Tryz.underlying24 hi2 hz2_0 hz2_1 hz2_2 rfl (by decide) (by decide) inCf_len oneIn W.heap.size _ 0 [] rfl HO2_5.out _ rfl (HSr.out _ HB5.out).2.2 HLn.out.2.2 HB5.out.size ?_
       intro v2 x6 o6 g6
       have HB6 := Lib.hid (below_grown HB5.out HB5.out.size HO2_5.out g6)
       have HO2_6 := Lib.hid (own_cast o6 (by rw [Nat.zero_add]) rfl)
       have HO0_6 := Lib.hid (HO0_5.out.kept g6 (own_apart HO0_5.out HO2_5.out (by decide)))
       have HO1_6 := Lib.hid (HO1_5.out.kept g6 (own_apart HO1_5.out HO2_5.out (by decide)))
       refine hK.out _ _ ⟨fun _ => trivial, HK9.out _ HB6.out⟩ (fun hHL => ?_)
       clear hK K o6 g6
       (try simp only [Act.put, List.setIfInBounds_toArray, List.set_cons_zero, List.set_cons_succ])
       obtain ⟨p0, c0, rfl⟩ := own_slc HO0_6.out
       obtain ⟨p1, c1, rfl⟩ := own_slc HO1_6.out
       obtain ⟨p2, c2, rfl⟩ := own_slc HO2_6.out
       refine wpAnyL_take (i := 14) (v := ?_) (by rfl) rfl (by kernel_rfl) (by kernel_rfl) (by kernel_rfl) (fun _ _ _ h => h) (Or.inl ⟨by rfl, ?_⟩) hHL ?_
       rotate_left
       ·intro w hSw; (try dsimp only at hSw); (first | (go_simp; done) | (go_simp; with_reducible rfl))
       clear hHL
       intro hHL
       (try simp only [Act.put, List.setIfInBounds_toArray, List.set_cons_zero, List.set_cons_succ])
       refine wpAnyL_ready (rs := [15]) (by kernel_rfl) (by simp) ?_
       refine AllReadyL.cons rfl (fun K hK => ?_) AllReadyL.nil
       have h7 := HR.out.below HB6.out HR.out.lt
       refine step_stG rfl 31 (.tmp 2) (.tmp 17) rfl (w.heap.size + 1) 0 #[.int .i64 g.now, .slice p0 g.words.length c0, .slice p1 g.keys.length c1, .slice p2 g.dead.length c2] rfl rfl (h7.there 0 4 (by simp)) sizeGrantZ (oneGrantZ g.now ⟨p0, g.words.length, c0, p1, g.keys.length, c1, p2, g.dead.length, c2⟩) ?_
       refine hK.out _ _ ⟨fun _ => trivial, HKS.out _ _ HB6.out⟩ (fun hHL => ?_)
       clear hK K hHL
       refine wpAnyL_done (by kernel_rfl) ?_ _
       obtain ⟨hZ, hO, hBz⟩ := HF.out ⟨p0, g.words.length, c0, p1, g.keys.length, c1, p2, g.dead.length, c2⟩ _ HB6.out ⟨HO0_6.out, HO1_6.out, HO2_6.out⟩
       have HZ := Lib.hid hZ
       have HOz := Lib.hid hO
       have HBz := Lib.hid hBz
       clear hZ hO hBz h7
       generalize (x6.setCells (w.heap.size + 1) 0 _) = Z at HZ HOz HBz ⊢
       go_wp2_with fail
       refine bodyPost_ret (ret_grant rfl rfl HZ.out) rfl ?_
       exact ⟨_, rfl, HOz.out, HBz.out⟩
    ·go_simp
     have hb4 := HB3.out.alloc HB3.out.size (.cells #[] 2)
     have hm4 := (World.ownsRow_made (base := W.heap.size) (size := 1) (e := 2) x3 #[] 0 HB3.out.size (Nat.zero_le _) rfl)
     have HO2_4 := Lib.hid hm4
     have HO0_4 := Lib.hid (HO0_3.out.alloc (.cells #[] 2))
     have HO1_4 := Lib.hid (HO1_3.out.alloc (.cells #[] 2))
     have HB4 := Lib.hid hb4
     refine hK.out _ _ ⟨fun _ => trivial, HK9.out _ HB4.out⟩ (fun hHL => ?_)
     clear hK K hb4 hm4
     (try simp only [Act.put, List.setIfInBounds_toArray, List.set_cons_zero, List.set_cons_succ])
     refine wpAnyL_ready (rs := [9]) (by kernel_rfl) (by simp) ?_
     refine AllReadyL.cons rfl (fun K hK => ?_) AllReadyL.nil
     ·refine step_apps (cf := kyCf) (l := g.keys) rfl (.tmp 9) (.tmp 11) 29 127 rfl i1 _ 6 48 Tryz.underlying29 hi1 hz1_0 hz1_1 hz1_2 rfl (by decide) (by decide) kyCf_len oneKy W.heap.size _ 0 [] rfl HO1_4.out _ rfl (HSr.out _ HB4.out).2.1 HLn.out.2.1 HB4.out.size ?_
      intro v1 x5 o5 g5
      have HB5 := Lib.hid (below_grown HB4.out HB4.out.size HO1_4.out g5)
      have HO1_5 := Lib.hid (own_cast o5 (by rw [Nat.zero_add]) rfl)
      have HO0_5 := Lib.hid (HO0_4.out.kept g5 (own_apart HO0_4.out HO1_4.out (by decide)))
      have HO2_5 := Lib.hid (HO2_4.out.kept g5 (own_apart HO2_4.out HO1_4.out (by decide)))
      refine hK.out _ _ ⟨fun _ => trivial, HK9.out _ HB5.out⟩ (fun hHL => ?_)
      clear hK K o5 g5
      (try simp only [Act.put, List.setIfInBounds_toArray, List.set_cons_zero, List.set_cons_succ])
      refine wpAnyL_ready (rs := [13]) (by kernel_rfl) (by simp) ?_
      refine AllReadyL.cons rfl (fun K hK => ?_) AllReadyL.nil
      ·refine step_apps (cf := inCf) (l := g.dead) rfl (.tmp 13) (.tmp 15) 24 2 rfl i2 _ 1 8 Tryz.underlying24 hi2 hz2_0 hz2_1 hz2_2 rfl (by decide) (by decide) inCf_len oneIn W.heap.size _ 0 [] rfl HO2_5.out _ rfl (HSr.out _ HB5.out).2.2 HLn.out.2.2 HB5.out.size ?_
       intro v2 x6 o6 g6
       have HB6 := Lib.hid (below_grown HB5.out HB5.out.size HO2_5.out g6)
       have HO2_6 := Lib.hid (own_cast o6 (by rw [Nat.zero_add]) rfl)
       have HO0_6 := Lib.hid (HO0_5.out.kept g6 (own_apart HO0_5.out HO2_5.out (by decide)))
       have HO1_6 := Lib.hid (HO1_5.out.kept g6 (own_apart HO1_5.out HO2_5.out (by decide)))
       refine hK.out _ _ ⟨fun _ => trivial, HK9.out _ HB6.out⟩ (fun hHL => ?_)
       clear hK K o6 g6
       (try simp only [Act.put, List.setIfInBounds_toArray, List.set_cons_zero, List.set_cons_succ])
       obtain ⟨p0, c0, rfl⟩ := own_slc HO0_6.out
       obtain ⟨p1, c1, rfl⟩ := own_slc HO1_6.out
       obtain ⟨p2, c2, rfl⟩ := own_slc HO2_6.out
       refine wpAnyL_take (i := 14) (v := ?_) (by rfl) rfl (by kernel_rfl) (by kernel_rfl) (by kernel_rfl) (fun _ _ _ h => h) (Or.inl ⟨by rfl, ?_⟩) hHL ?_
       rotate_left
       ·intro w hSw; (try dsimp only at hSw); (first | (go_simp; done) | (go_simp; with_reducible rfl))
       clear hHL
       intro hHL
       (try simp only [Act.put, List.setIfInBounds_toArray, List.set_cons_zero, List.set_cons_succ])
       refine wpAnyL_ready (rs := [15]) (by kernel_rfl) (by simp) ?_
       refine AllReadyL.cons rfl (fun K hK => ?_) AllReadyL.nil
       have h7 := HR.out.below HB6.out HR.out.lt
       refine step_stG rfl 31 (.tmp 2) (.tmp 17) rfl (w.heap.size + 1) 0 #[.int .i64 g.now, .slice p0 g.words.length c0, .slice p1 g.keys.length c1, .slice p2 g.dead.length c2] rfl rfl (h7.there 0 4 (by simp)) sizeGrantZ (oneGrantZ g.now ⟨p0, g.words.length, c0, p1, g.keys.length, c1, p2, g.dead.length, c2⟩) ?_
       refine hK.out _ _ ⟨fun _ => trivial, HKS.out _ _ HB6.out⟩ (fun hHL => ?_)
       clear hK K hHL
       refine wpAnyL_done (by kernel_rfl) ?_ _
       obtain ⟨hZ, hO, hBz⟩ := HF.out ⟨p0, g.words.length, c0, p1, g.keys.length, c1, p2, g.dead.length, c2⟩ _ HB6.out ⟨HO0_6.out, HO1_6.out, HO2_6.out⟩
       have HZ := Lib.hid hZ
       have HOz := Lib.hid hO
       have HBz := Lib.hid hBz
       clear hZ hO hBz h7
       generalize (x6.setCells (w.heap.size + 1) 0 _) = Z at HZ HOz HBz ⊢
       go_wp2_with fail
       refine bodyPost_ret (ret_grant rfl rfl HZ.out) rfl ?_
       exact ⟨_, rfl, HOz.out, HBz.out⟩
   ·go_simp
    have hb3 := HB2.out.alloc HB2.out.size (.cells #[] 2)
    have hm3 := (World.ownsRow_made (base := W.heap.size) (size := 1) (e := 2) ((W.drew.alloc (.cells #[] 163)).alloc (.cells #[] 127)) #[] 0 HB2.out.size (Nat.zero_le _) rfl)
    simp only [World.size_alloc] at hm3
    have HO2_3 := Lib.hid hm3
    have HO0_3 := Lib.hid (HO0_2.out.alloc (.cells #[] 2))
    have HO1_3 := Lib.hid (HO1_2.out.alloc (.cells #[] 2))
    have HB3 := Lib.hid hb3
    refine hK.out _ _ ⟨fun _ => trivial, HK9.out _ HB3.out⟩ (fun hHL => ?_)
    clear hK K hb3 hm3
    (try simp only [Act.put, List.setIfInBounds_toArray, List.set_cons_zero, List.set_cons_succ])
    refine wpAnyL_ready (rs := [5]) (by kernel_rfl) (by simp) ?_
    refine AllReadyL.cons rfl (fun K hK => ?_) AllReadyL.nil
    ·refine step_apps (cf := wdCf) (l := g.words) rfl (.tmp 5) (.tmp 7) 28 163 rfl i0 _ 5 48 Tryz.underlying28 hi0 hz0_0 hz0_1 hz0_2 rfl (by decide) (by decide) wdCf_len oneWd W.heap.size _ 0 [] rfl HO0_3.out _ rfl (HSr.out _ HB3.out).1 HLn.out.1 HB3.out.size ?_
     intro v0 x4 o4 g4
     have HB4 := Lib.hid (below_grown HB3.out HB3.out.size HO0_3.out g4)
     have HO0_4 := Lib.hid (own_cast o4 (by rw [Nat.zero_add]) rfl)
     have HO1_4 := Lib.hid (HO1_3.out.kept g4 (own_apart HO1_3.out HO0_3.out (by decide)))
     have HO2_4 := Lib.hid (HO2_3.out.kept g4 (own_apart HO2_3.out HO0_3.out (by decide)))
     refine hK.out _ _ ⟨fun _ => trivial, HK9.out _ HB4.out⟩ (fun hHL => ?_)
     clear hK K o4 g4
     (try simp only [Act.put, List.setIfInBounds_toArray, List.set_cons_zero, List.set_cons_succ])
     refine wpAnyL_ready (rs := [9]) (by kernel_rfl) (by simp) ?_
     refine AllReadyL.cons rfl (fun K hK => ?_) AllReadyL.nil
     ·refine step_apps (cf := kyCf) (l := g.keys) rfl (.tmp 9) (.tmp 11) 29 127 rfl i1 _ 6 48 Tryz.underlying29 hi1 hz1_0 hz1_1 hz1_2 rfl (by decide) (by decide) kyCf_len oneKy W.heap.size _ 0 [] rfl HO1_4.out _ rfl (HSr.out _ HB4.out).2.1 HLn.out.2.1 HB4.out.size ?_
      intro v1 x5 o5 g5
      have HB5 := Lib.hid (below_grown HB4.out HB4.out.size HO1_4.out g5)
      have HO1_5 := Lib.hid (own_cast o5 (by rw [Nat.zero_add]) rfl)
      have HO0_5 := Lib.hid (HO0_4.out.kept g5 (own_apart HO0_4.out HO1_4.out (by decide)))
      have HO2_5 := Lib.hid (HO2_4.out.kept g5 (own_apart HO2_4.out HO1_4.out (by decide)))
      refine hK.out _ _ ⟨fun _ => trivial, HK9.out _ HB5.out⟩ (fun hHL => ?_)
      clear hK K o5 g5
      (try simp only [Act.put, List.setIfInBounds_toArray, List.set_cons_zero, List.set_cons_succ])
      refine wpAnyL_ready (rs := [13]) (by kernel_rfl) (by simp) ?_
      refine AllReadyL.cons rfl (fun K hK => ?_) AllReadyL.nil
      ·refine step_apps (cf := inCf) (l := g.dead) rfl (.tmp 13) (.tmp 15) 24 2 rfl i2 _ 1 8 Tryz.underlying24 hi2 hz2_0 hz2_1 hz2_2 rfl (by decide) (by decide) inCf_len oneIn W.heap.size _ 0 [] rfl HO2_5.out _ rfl (HSr.out _ HB5.out).2.2 HLn.out.2.2 HB5.out.size ?_
       intro v2 x6 o6 g6
       have HB6 := Lib.hid (below_grown HB5.out HB5.out.size HO2_5.out g6)
       have HO2_6 := Lib.hid (own_cast o6 (by rw [Nat.zero_add]) rfl)
       have HO0_6 := Lib.hid (HO0_5.out.kept g6 (own_apart HO0_5.out HO2_5.out (by decide)))
       have HO1_6 := Lib.hid (HO1_5.out.kept g6 (own_apart HO1_5.out HO2_5.out (by decide)))
       refine hK.out _ _ ⟨fun _ => trivial, HK9.out _ HB6.out⟩ (fun hHL => ?_)
       clear hK K o6 g6
       (try simp only [Act.put, List.setIfInBounds_toArray, List.set_cons_zero, List.set_cons_succ])
       obtain ⟨p0, c0, rfl⟩ := own_slc HO0_6.out
       obtain ⟨p1, c1, rfl⟩ := own_slc HO1_6.out
       obtain ⟨p2, c2, rfl⟩ := own_slc HO2_6.out
       refine wpAnyL_take (i := 14) (v := ?_) (by rfl) rfl (by kernel_rfl) (by kernel_rfl) (by kernel_rfl) (fun _ _ _ h => h) (Or.inl ⟨by rfl, ?_⟩) hHL ?_
       rotate_left
       ·intro w hSw; (try dsimp only at hSw); (first | (go_simp; done) | (go_simp; with_reducible rfl))
       clear hHL
       intro hHL
       (try simp only [Act.put, List.setIfInBounds_toArray, List.set_cons_zero, List.set_cons_succ])
       refine wpAnyL_ready (rs := [15]) (by kernel_rfl) (by simp) ?_
       refine AllReadyL.cons rfl (fun K hK => ?_) AllReadyL.nil
       have h7 := HR.out.below HB6.out HR.out.lt
       refine step_stG rfl 31 (.tmp 2) (.tmp 17) rfl (w.heap.size + 1) 0 #[.int .i64 g.now, .slice p0 g.words.length c0, .slice p1 g.keys.length c1, .slice p2 g.dead.length c2] rfl rfl (h7.there 0 4 (by simp)) sizeGrantZ (oneGrantZ g.now ⟨p0, g.words.length, c0, p1, g.keys.length, c1, p2, g.dead.length, c2⟩) ?_
       refine hK.out _ _ ⟨fun _ => trivial, HKS.out _ _ HB6.out⟩ (fun hHL => ?_)
       clear hK K hHL
       refine wpAnyL_done (by kernel_rfl) ?_ _
       obtain ⟨hZ, hO, hBz⟩ := HF.out ⟨p0, g.words.length, c0, p1, g.keys.length, c1, p2, g.dead.length, c2⟩ _ HB6.out ⟨HO0_6.out, HO1_6.out, HO2_6.out⟩
       have HZ := Lib.hid hZ
       have HOz := Lib.hid hO
       have HBz := Lib.hid hBz
       clear hZ hO hBz h7
       generalize (x6.setCells (w.heap.size + 1) 0 _) = Z at HZ HOz HBz ⊢
       go_wp2_with fail
       refine bodyPost_ret (ret_grant rfl rfl HZ.out) rfl ?_
       exact ⟨_, rfl, HOz.out, HBz.out⟩
  ·go_simp
   have hb2 := HB1.out.alloc HB1.out.size (.cells #[] 2)
   have hm2 := (World.ownsRow_made (base := W.heap.size) (size := 1) (e := 2) (W.drew.alloc (.cells #[] 163)) #[] 0 HB1.out.size (Nat.zero_le _) rfl)
   simp only [World.size_alloc] at hm2
   have HO2_2 := Lib.hid hm2
   have HO0_2 := Lib.hid (HO0_1.out.alloc (.cells #[] 2))
   have HB2 := Lib.hid hb2
   refine hK.out _ _ ⟨fun _ => trivial, HK9.out _ HB2.out⟩ (fun hHL => ?_)
   clear hK K hb2 hm2
   (try simp only [Act.put, List.setIfInBounds_toArray, List.set_cons_zero, List.set_cons_succ])
   refine wpAnyL_ready (rs := [5, 6]) (by kernel_rfl) (by simp) ?_
   refine AllReadyL.cons rfl (fun K hK => ?_) (AllReadyL.cons rfl (fun K hK => ?_) AllReadyL.nil)
   ·refine step_apps (cf := wdCf) (l := g.words) rfl (.tmp 5) (.tmp 7) 28 163 rfl i0 _ 5 48 Tryz.underlying28 hi0 hz0_0 hz0_1 hz0_2 rfl (by decide) (by decide) wdCf_len oneWd W.heap.size _ 0 [] rfl HO0_2.out _ rfl (HSr.out _ HB2.out).1 HLn.out.1 HB2.out.size ?_
    intro v0 x3 o3 g3
    have HB3 := Lib.hid (below_grown HB2.out HB2.out.size HO0_2.out g3)
    have HO0_3 := Lib.hid (own_cast o3 (by rw [Nat.zero_add]) rfl)
    have HO2_3 := Lib.hid (HO2_2.out.kept g3 (own_apart HO2_2.out HO0_2.out (by decide)))
    refine hK.out _ _ ⟨fun _ => trivial, HK9.out _ HB3.out⟩ (fun hHL => ?_)
    clear hK K o3 g3
    (try simp only [Act.put, List.setIfInBounds_toArray, List.set_cons_zero, List.set_cons_succ])
    refine wpAnyL_ready (rs := [6]) (by kernel_rfl) (by simp) ?_
    refine AllReadyL.cons rfl (fun K hK => ?_) AllReadyL.nil
    ·go_simp
     have hb4 := HB3.out.alloc HB3.out.size (.cells #[] 127)
     have hm4 := (World.ownsRow_made (base := W.heap.size) (size := 6) (e := 127) x3 #[] 0 HB3.out.size (Nat.zero_le _) rfl)
     have HO1_4 := Lib.hid hm4
     have HO0_4 := Lib.hid (HO0_3.out.alloc (.cells #[] 127))
     have HO2_4 := Lib.hid (HO2_3.out.alloc (.cells #[] 127))
     have HB4 := Lib.hid hb4
     refine hK.out _ _ ⟨fun _ => trivial, HK9.out _ HB4.out⟩ (fun hHL => ?_)
     clear hK K hb4 hm4
     (try simp only [Act.put, List.setIfInBounds_toArray, List.set_cons_zero, List.set_cons_succ])
     refine wpAnyL_ready (rs := [9]) (by kernel_rfl) (by simp) ?_
     refine AllReadyL.cons rfl (fun K hK => ?_) AllReadyL.nil
     ·refine step_apps (cf := kyCf) (l := g.keys) rfl (.tmp 9) (.tmp 11) 29 127 rfl i1 _ 6 48 Tryz.underlying29 hi1 hz1_0 hz1_1 hz1_2 rfl (by decide) (by decide) kyCf_len oneKy W.heap.size _ 0 [] rfl HO1_4.out _ rfl (HSr.out _ HB4.out).2.1 HLn.out.2.1 HB4.out.size ?_
      intro v1 x5 o5 g5
      have HB5 := Lib.hid (below_grown HB4.out HB4.out.size HO1_4.out g5)
      have HO1_5 := Lib.hid (own_cast o5 (by rw [Nat.zero_add]) rfl)
      have HO0_5 := Lib.hid (HO0_4.out.kept g5 (own_apart HO0_4.out HO1_4.out (by decide)))
      have HO2_5 := Lib.hid (HO2_4.out.kept g5 (own_apart HO2_4.out HO1_4.out (by decide)))
      refine hK.out _ _ ⟨fun _ => trivial, HK9.out _ HB5.out⟩ (fun hHL => ?_)
      clear hK K o5 g5
      (try simp only [Act.put, List.setIfInBounds_toArray, List.set_cons_zero, List.set_cons_succ])
      refine wpAnyL_ready (rs := [13]) (by kernel_rfl) (by simp) ?_
      refine AllReadyL.cons rfl (fun K hK => ?_) AllReadyL.nil
      ·refine step_apps (cf := inCf) (l := g.dead) rfl (.tmp 13) (.tmp 15) 24 2 rfl i2 _ 1 8 Tryz.underlying24 hi2 hz2_0 hz2_1 hz2_2 rfl (by decide) (by decide) inCf_len oneIn W.heap.size _ 0 [] rfl HO2_5.out _ rfl (HSr.out _ HB5.out).2.2 HLn.out.2.2 HB5.out.size ?_
       intro v2 x6 o6 g6
       have HB6 := Lib.hid (below_grown HB5.out HB5.out.size HO2_5.out g6)
       have HO2_6 := Lib.hid (own_cast o6 (by rw [Nat.zero_add]) rfl)
       have HO0_6 := Lib.hid (HO0_5.out.kept g6 (own_apart HO0_5.out HO2_5.out (by decide)))
       have HO1_6 := Lib.hid (HO1_5.out.kept g6 (own_apart HO1_5.out HO2_5.out (by decide)))
       refine hK.out _ _ ⟨fun _ => trivial, HK9.out _ HB6.out⟩ (fun hHL => ?_)
       clear hK K o6 g6
       (try simp only [Act.put, List.setIfInBounds_toArray, List.set_cons_zero, List.set_cons_succ])
       obtain ⟨p0, c0, rfl⟩ := own_slc HO0_6.out
       obtain ⟨p1, c1, rfl⟩ := own_slc HO1_6.out
       obtain ⟨p2, c2, rfl⟩ := own_slc HO2_6.out
       refine wpAnyL_take (i := 14) (v := ?_) (by rfl) rfl (by kernel_rfl) (by kernel_rfl) (by kernel_rfl) (fun _ _ _ h => h) (Or.inl ⟨by rfl, ?_⟩) hHL ?_
       rotate_left
       ·intro w hSw; (try dsimp only at hSw); (first | (go_simp; done) | (go_simp; with_reducible rfl))
       clear hHL
       intro hHL
       (try simp only [Act.put, List.setIfInBounds_toArray, List.set_cons_zero, List.set_cons_succ])
       refine wpAnyL_ready (rs := [15]) (by kernel_rfl) (by simp) ?_
       refine AllReadyL.cons rfl (fun K hK => ?_) AllReadyL.nil
       have h7 := HR.out.below HB6.out HR.out.lt
       refine step_stG rfl 31 (.tmp 2) (.tmp 17) rfl (w.heap.size + 1) 0 #[.int .i64 g.now, .slice p0 g.words.length c0, .slice p1 g.keys.length c1, .slice p2 g.dead.length c2] rfl rfl (h7.there 0 4 (by simp)) sizeGrantZ (oneGrantZ g.now ⟨p0, g.words.length, c0, p1, g.keys.length, c1, p2, g.dead.length, c2⟩) ?_
       refine hK.out _ _ ⟨fun _ => trivial, HKS.out _ _ HB6.out⟩ (fun hHL => ?_)
       clear hK K hHL
       refine wpAnyL_done (by kernel_rfl) ?_ _
       obtain ⟨hZ, hO, hBz⟩ := HF.out ⟨p0, g.words.length, c0, p1, g.keys.length, c1, p2, g.dead.length, c2⟩ _ HB6.out ⟨HO0_6.out, HO1_6.out, HO2_6.out⟩
       have HZ := Lib.hid hZ
       have HOz := Lib.hid hO
       have HBz := Lib.hid hBz
       clear hZ hO hBz h7
       generalize (x6.setCells (w.heap.size + 1) 0 _) = Z at HZ HOz HBz ⊢
       go_wp2_with fail
       refine bodyPost_ret (ret_grant rfl rfl HZ.out) rfl ?_
       exact ⟨_, rfl, HOz.out, HBz.out⟩
   ·go_simp
    have hb3 := HB2.out.alloc HB2.out.size (.cells #[] 127)
    have hm3 := (World.ownsRow_made (base := W.heap.size) (size := 6) (e := 127) ((W.drew.alloc (.cells #[] 163)).alloc (.cells #[] 2)) #[] 0 HB2.out.size (Nat.zero_le _) rfl)
    simp only [World.size_alloc] at hm3
    have HO1_3 := Lib.hid hm3
    have HO0_3 := Lib.hid (HO0_2.out.alloc (.cells #[] 127))
    have HO2_3 := Lib.hid (HO2_2.out.alloc (.cells #[] 127))
    have HB3 := Lib.hid hb3
    refine hK.out _ _ ⟨fun _ => trivial, HK9.out _ HB3.out⟩ (fun hHL => ?_)
    clear hK K hb3 hm3
    (try simp only [Act.put, List.setIfInBounds_toArray, List.set_cons_zero, List.set_cons_succ])
    refine wpAnyL_ready (rs := [5]) (by kernel_rfl) (by simp) ?_
    refine AllReadyL.cons rfl (fun K hK => ?_) AllReadyL.nil
    ·refine step_apps (cf := wdCf) (l := g.words) rfl (.tmp 5) (.tmp 7) 28 163 rfl i0 _ 5 48 Tryz.underlying28 hi0 hz0_0 hz0_1 hz0_2 rfl (by decide) (by decide) wdCf_len oneWd W.heap.size _ 0 [] rfl HO0_3.out _ rfl (HSr.out _ HB3.out).1 HLn.out.1 HB3.out.size ?_
     intro v0 x4 o4 g4
     have HB4 := Lib.hid (below_grown HB3.out HB3.out.size HO0_3.out g4)
     have HO0_4 := Lib.hid (own_cast o4 (by rw [Nat.zero_add]) rfl)
     have HO1_4 := Lib.hid (HO1_3.out.kept g4 (own_apart HO1_3.out HO0_3.out (by decide)))
     have HO2_4 := Lib.hid (HO2_3.out.kept g4 (own_apart HO2_3.out HO0_3.out (by decide)))
     refine hK.out _ _ ⟨fun _ => trivial, HK9.out _ HB4.out⟩ (fun hHL => ?_)
     clear hK K o4 g4
     (try simp only [Act.put, List.setIfInBounds_toArray, List.set_cons_zero, List.set_cons_succ])
     refine wpAnyL_ready (rs := [9]) (by kernel_rfl) (by simp) ?_
     refine AllReadyL.cons rfl (fun K hK => ?_) AllReadyL.nil
     ·refine step_apps (cf := kyCf) (l := g.keys) rfl (.tmp 9) (.tmp 11) 29 127 rfl i1 _ 6 48 Tryz.underlying29 hi1 hz1_0 hz1_1 hz1_2 rfl (by decide) (by decide) kyCf_len oneKy W.heap.size _ 0 [] rfl HO1_4.out _ rfl (HSr.out _ HB4.out).2.1 HLn.out.2.1 HB4.out.size ?_
      intro v1 x5 o5 g5
      have HB5 := Lib.hid (below_grown HB4.out HB4.out.size HO1_4.out g5)
      have HO1_5 := Lib.hid (own_cast o5 (by rw [Nat.zero_add]) rfl)
      have HO0_5 := Lib.hid (HO0_4.out.kept g5 (own_apart HO0_4.out HO1_4.out (by decide)))
      have HO2_5 := Lib.hid (HO2_4.out.kept g5 (own_apart HO2_4.out HO1_4.out (by decide)))
      refine hK.out _ _ ⟨fun _ => trivial, HK9.out _ HB5.out⟩ (fun hHL => ?_)
      clear hK K o5 g5
      (try simp only [Act.put, List.setIfInBounds_toArray, List.set_cons_zero, List.set_cons_succ])
      refine wpAnyL_ready (rs := [13]) (by kernel_rfl) (by simp) ?_
      refine AllReadyL.cons rfl (fun K hK => ?_) AllReadyL.nil
      ·refine step_apps (cf := inCf) (l := g.dead) rfl (.tmp 13) (.tmp 15) 24 2 rfl i2 _ 1 8 Tryz.underlying24 hi2 hz2_0 hz2_1 hz2_2 rfl (by decide) (by decide) inCf_len oneIn W.heap.size _ 0 [] rfl HO2_5.out _ rfl (HSr.out _ HB5.out).2.2 HLn.out.2.2 HB5.out.size ?_
       intro v2 x6 o6 g6
       have HB6 := Lib.hid (below_grown HB5.out HB5.out.size HO2_5.out g6)
       have HO2_6 := Lib.hid (own_cast o6 (by rw [Nat.zero_add]) rfl)
       have HO0_6 := Lib.hid (HO0_5.out.kept g6 (own_apart HO0_5.out HO2_5.out (by decide)))
       have HO1_6 := Lib.hid (HO1_5.out.kept g6 (own_apart HO1_5.out HO2_5.out (by decide)))
       refine hK.out _ _ ⟨fun _ => trivial, HK9.out _ HB6.out⟩ (fun hHL => ?_)
       clear hK K o6 g6
       (try simp only [Act.put, List.setIfInBounds_toArray, List.set_cons_zero, List.set_cons_succ])
       obtain ⟨p0, c0, rfl⟩ := own_slc HO0_6.out
       obtain ⟨p1, c1, rfl⟩ := own_slc HO1_6.out
       obtain ⟨p2, c2, rfl⟩ := own_slc HO2_6.out
       refine wpAnyL_take (i := 14) (v := ?_) (by rfl) rfl (by kernel_rfl) (by kernel_rfl) (by kernel_rfl) (fun _ _ _ h => h) (Or.inl ⟨by rfl, ?_⟩) hHL ?_
       rotate_left
       ·intro w hSw; (try dsimp only at hSw); (first | (go_simp; done) | (go_simp; with_reducible rfl))
       clear hHL
       intro hHL
       (try simp only [Act.put, List.setIfInBounds_toArray, List.set_cons_zero, List.set_cons_succ])
       refine wpAnyL_ready (rs := [15]) (by kernel_rfl) (by simp) ?_
       refine AllReadyL.cons rfl (fun K hK => ?_) AllReadyL.nil
       have h7 := HR.out.below HB6.out HR.out.lt
       refine step_stG rfl 31 (.tmp 2) (.tmp 17) rfl (w.heap.size + 1) 0 #[.int .i64 g.now, .slice p0 g.words.length c0, .slice p1 g.keys.length c1, .slice p2 g.dead.length c2] rfl rfl (h7.there 0 4 (by simp)) sizeGrantZ (oneGrantZ g.now ⟨p0, g.words.length, c0, p1, g.keys.length, c1, p2, g.dead.length, c2⟩) ?_
       refine hK.out _ _ ⟨fun _ => trivial, HKS.out _ _ HB6.out⟩ (fun hHL => ?_)
       clear hK K hHL
       refine wpAnyL_done (by kernel_rfl) ?_ _
       obtain ⟨hZ, hO, hBz⟩ := HF.out ⟨p0, g.words.length, c0, p1, g.keys.length, c1, p2, g.dead.length, c2⟩ _ HB6.out ⟨HO0_6.out, HO1_6.out, HO2_6.out⟩
       have HZ := Lib.hid hZ
       have HOz := Lib.hid hO
       have HBz := Lib.hid hBz
       clear hZ hO hBz h7
       generalize (x6.setCells (w.heap.size + 1) 0 _) = Z at HZ HOz HBz ⊢
       go_wp2_with fail
       refine bodyPost_ret (ret_grant rfl rfl HZ.out) rfl ?_
       exact ⟨_, rfl, HOz.out, HBz.out⟩
 ·go_simp
  have hb1 := HB0.out.alloc HB0.out.size (.cells #[] 127)
  have hm1 := (World.ownsRow_made (base := W.heap.size) (size := 6) (e := 127) W.drew #[] 0 HB0.out.size (Nat.zero_le _) rfl)
  have HO1_1 := Lib.hid hm1
  have HB1 := Lib.hid hb1
  refine hK.out _ _ ⟨fun _ => trivial, HK9.out _ HB1.out⟩ (fun hHL => ?_)
  clear hK K hb1 hm1
  (try simp only [Act.put, List.setIfInBounds_toArray, List.set_cons_zero, List.set_cons_succ])
  refine wpAnyL_ready (rs := [2, 10]) (by kernel_rfl) (by simp) ?_
  refine AllReadyL.cons rfl (fun K hK => ?_) (AllReadyL.cons rfl (fun K hK => ?_) AllReadyL.nil)
  ·go_simp
   have hb2 := HB1.out.alloc HB1.out.size (.cells #[] 163)
   have hm2 := (World.ownsRow_made (base := W.heap.size) (size := 5) (e := 163) (W.drew.alloc (.cells #[] 127)) #[] 0 HB1.out.size (Nat.zero_le _) rfl)
   simp only [World.size_alloc] at hm2
   have HO0_2 := Lib.hid hm2
   have HO1_2 := Lib.hid (HO1_1.out.alloc (.cells #[] 163))
   have HB2 := Lib.hid hb2
   refine hK.out _ _ ⟨fun _ => trivial, HK9.out _ HB2.out⟩ (fun hHL => ?_)
   clear hK K hb2 hm2
   (try simp only [Act.put, List.setIfInBounds_toArray, List.set_cons_zero, List.set_cons_succ])
   refine wpAnyL_ready (rs := [5, 10]) (by kernel_rfl) (by simp) ?_
   refine AllReadyL.cons rfl (fun K hK => ?_) (AllReadyL.cons rfl (fun K hK => ?_) AllReadyL.nil)
   ·refine step_apps (cf := wdCf) (l := g.words) rfl (.tmp 5) (.tmp 7) 28 163 rfl i0 _ 5 48 Tryz.underlying28 hi0 hz0_0 hz0_1 hz0_2 rfl (by decide) (by decide) wdCf_len oneWd W.heap.size _ 0 [] rfl HO0_2.out _ rfl (HSr.out _ HB2.out).1 HLn.out.1 HB2.out.size ?_
    intro v0 x3 o3 g3
    have HB3 := Lib.hid (below_grown HB2.out HB2.out.size HO0_2.out g3)
    have HO0_3 := Lib.hid (own_cast o3 (by rw [Nat.zero_add]) rfl)
    have HO1_3 := Lib.hid (HO1_2.out.kept g3 (own_apart HO1_2.out HO0_2.out (by decide)))
    refine hK.out _ _ ⟨fun _ => trivial, HK9.out _ HB3.out⟩ (fun hHL => ?_)
    clear hK K o3 g3
    (try simp only [Act.put, List.setIfInBounds_toArray, List.set_cons_zero, List.set_cons_succ])
    refine wpAnyL_ready (rs := [9, 10]) (by kernel_rfl) (by simp) ?_
    refine AllReadyL.cons rfl (fun K hK => ?_) (AllReadyL.cons rfl (fun K hK => ?_) AllReadyL.nil)
    ·refine step_apps (cf := kyCf) (l := g.keys) rfl (.tmp 9) (.tmp 11) 29 127 rfl i1 _ 6 48 Tryz.underlying29 hi1 hz1_0 hz1_1 hz1_2 rfl (by decide) (by decide) kyCf_len oneKy W.heap.size _ 0 [] rfl HO1_3.out _ rfl (HSr.out _ HB3.out).2.1 HLn.out.2.1 HB3.out.size ?_
     intro v1 x4 o4 g4
     have HB4 := Lib.hid (below_grown HB3.out HB3.out.size HO1_3.out g4)
     have HO1_4 := Lib.hid (own_cast o4 (by rw [Nat.zero_add]) rfl)
     have HO0_4 := Lib.hid (HO0_3.out.kept g4 (own_apart HO0_3.out HO1_3.out (by decide)))
     refine hK.out _ _ ⟨fun _ => trivial, HK9.out _ HB4.out⟩ (fun hHL => ?_)
     clear hK K o4 g4
     (try simp only [Act.put, List.setIfInBounds_toArray, List.set_cons_zero, List.set_cons_succ])
     refine wpAnyL_ready (rs := [10]) (by kernel_rfl) (by simp) ?_
     refine AllReadyL.cons rfl (fun K hK => ?_) AllReadyL.nil
     ·go_simp
      have hb5 := HB4.out.alloc HB4.out.size (.cells #[] 2)
      have hm5 := (World.ownsRow_made (base := W.heap.size) (size := 1) (e := 2) x4 #[] 0 HB4.out.size (Nat.zero_le _) rfl)
      have HO2_5 := Lib.hid hm5
      have HO0_5 := Lib.hid (HO0_4.out.alloc (.cells #[] 2))
      have HO1_5 := Lib.hid (HO1_4.out.alloc (.cells #[] 2))
      have HB5 := Lib.hid hb5
      refine hK.out _ _ ⟨fun _ => trivial, HK9.out _ HB5.out⟩ (fun hHL => ?_)
      clear hK K hb5 hm5
      (try simp only [Act.put, List.setIfInBounds_toArray, List.set_cons_zero, List.set_cons_succ])
      refine wpAnyL_ready (rs := [13]) (by kernel_rfl) (by simp) ?_
      refine AllReadyL.cons rfl (fun K hK => ?_) AllReadyL.nil
      ·refine step_apps (cf := inCf) (l := g.dead) rfl (.tmp 13) (.tmp 15) 24 2 rfl i2 _ 1 8 Tryz.underlying24 hi2 hz2_0 hz2_1 hz2_2 rfl (by decide) (by decide) inCf_len oneIn W.heap.size _ 0 [] rfl HO2_5.out _ rfl (HSr.out _ HB5.out).2.2 HLn.out.2.2 HB5.out.size ?_
       intro v2 x6 o6 g6
       have HB6 := Lib.hid (below_grown HB5.out HB5.out.size HO2_5.out g6)
       have HO2_6 := Lib.hid (own_cast o6 (by rw [Nat.zero_add]) rfl)
       have HO0_6 := Lib.hid (HO0_5.out.kept g6 (own_apart HO0_5.out HO2_5.out (by decide)))
       have HO1_6 := Lib.hid (HO1_5.out.kept g6 (own_apart HO1_5.out HO2_5.out (by decide)))
       refine hK.out _ _ ⟨fun _ => trivial, HK9.out _ HB6.out⟩ (fun hHL => ?_)
       clear hK K o6 g6
       (try simp only [Act.put, List.setIfInBounds_toArray, List.set_cons_zero, List.set_cons_succ])
       obtain ⟨p0, c0, rfl⟩ := own_slc HO0_6.out
       obtain ⟨p1, c1, rfl⟩ := own_slc HO1_6.out
       obtain ⟨p2, c2, rfl⟩ := own_slc HO2_6.out
       refine wpAnyL_take (i := 14) (v := ?_) (by rfl) rfl (by kernel_rfl) (by kernel_rfl) (by kernel_rfl) (fun _ _ _ h => h) (Or.inl ⟨by rfl, ?_⟩) hHL ?_
       rotate_left
       ·intro w hSw; (try dsimp only at hSw); (first | (go_simp; done) | (go_simp; with_reducible rfl))
       clear hHL
       intro hHL
       (try simp only [Act.put, List.setIfInBounds_toArray, List.set_cons_zero, List.set_cons_succ])
       refine wpAnyL_ready (rs := [15]) (by kernel_rfl) (by simp) ?_
       refine AllReadyL.cons rfl (fun K hK => ?_) AllReadyL.nil
       have h7 := HR.out.below HB6.out HR.out.lt
       refine step_stG rfl 31 (.tmp 2) (.tmp 17) rfl (w.heap.size + 1) 0 #[.int .i64 g.now, .slice p0 g.words.length c0, .slice p1 g.keys.length c1, .slice p2 g.dead.length c2] rfl rfl (h7.there 0 4 (by simp)) sizeGrantZ (oneGrantZ g.now ⟨p0, g.words.length, c0, p1, g.keys.length, c1, p2, g.dead.length, c2⟩) ?_
       refine hK.out _ _ ⟨fun _ => trivial, HKS.out _ _ HB6.out⟩ (fun hHL => ?_)
       clear hK K hHL
       refine wpAnyL_done (by kernel_rfl) ?_ _
       obtain ⟨hZ, hO, hBz⟩ := HF.out ⟨p0, g.words.length, c0, p1, g.keys.length, c1, p2, g.dead.length, c2⟩ _ HB6.out ⟨HO0_6.out, HO1_6.out, HO2_6.out⟩
       have HZ := Lib.hid hZ
       have HOz := Lib.hid hO
       have HBz := Lib.hid hBz
       clear hZ hO hBz h7
       generalize (x6.setCells (w.heap.size + 1) 0 _) = Z at HZ HOz HBz ⊢
       go_wp2_with fail
       refine bodyPost_ret (ret_grant rfl rfl HZ.out) rfl ?_
       exact ⟨_, rfl, HOz.out, HBz.out⟩
    ·go_simp
     have hb4 := HB3.out.alloc HB3.out.size (.cells #[] 2)
     have hm4 := (World.ownsRow_made (base := W.heap.size) (size := 1) (e := 2) x3 #[] 0 HB3.out.size (Nat.zero_le _) rfl)
     have HO2_4 := Lib.hid hm4
     have HO0_4 := Lib.hid (HO0_3.out.alloc (.cells #[] 2))
     have HO1_4 := Lib.hid (HO1_3.out.alloc (.cells #[] 2))
     have HB4 := Lib.hid hb4
     refine hK.out _ _ ⟨fun _ => trivial, HK9.out _ HB4.out⟩ (fun hHL => ?_)
     clear hK K hb4 hm4
     (try simp only [Act.put, List.setIfInBounds_toArray, List.set_cons_zero, List.set_cons_succ])
     refine wpAnyL_ready (rs := [9]) (by kernel_rfl) (by simp) ?_
     refine AllReadyL.cons rfl (fun K hK => ?_) AllReadyL.nil
     ·refine step_apps (cf := kyCf) (l := g.keys) rfl (.tmp 9) (.tmp 11) 29 127 rfl i1 _ 6 48 Tryz.underlying29 hi1 hz1_0 hz1_1 hz1_2 rfl (by decide) (by decide) kyCf_len oneKy W.heap.size _ 0 [] rfl HO1_4.out _ rfl (HSr.out _ HB4.out).2.1 HLn.out.2.1 HB4.out.size ?_
      intro v1 x5 o5 g5
      have HB5 := Lib.hid (below_grown HB4.out HB4.out.size HO1_4.out g5)
      have HO1_5 := Lib.hid (own_cast o5 (by rw [Nat.zero_add]) rfl)
      have HO0_5 := Lib.hid (HO0_4.out.kept g5 (own_apart HO0_4.out HO1_4.out (by decide)))
      have HO2_5 := Lib.hid (HO2_4.out.kept g5 (own_apart HO2_4.out HO1_4.out (by decide)))
      refine hK.out _ _ ⟨fun _ => trivial, HK9.out _ HB5.out⟩ (fun hHL => ?_)
      clear hK K o5 g5
      (try simp only [Act.put, List.setIfInBounds_toArray, List.set_cons_zero, List.set_cons_succ])
      refine wpAnyL_ready (rs := [13]) (by kernel_rfl) (by simp) ?_
      refine AllReadyL.cons rfl (fun K hK => ?_) AllReadyL.nil
      ·refine step_apps (cf := inCf) (l := g.dead) rfl (.tmp 13) (.tmp 15) 24 2 rfl i2 _ 1 8 Tryz.underlying24 hi2 hz2_0 hz2_1 hz2_2 rfl (by decide) (by decide) inCf_len oneIn W.heap.size _ 0 [] rfl HO2_5.out _ rfl (HSr.out _ HB5.out).2.2 HLn.out.2.2 HB5.out.size ?_
       intro v2 x6 o6 g6
       have HB6 := Lib.hid (below_grown HB5.out HB5.out.size HO2_5.out g6)
       have HO2_6 := Lib.hid (own_cast o6 (by rw [Nat.zero_add]) rfl)
       have HO0_6 := Lib.hid (HO0_5.out.kept g6 (own_apart HO0_5.out HO2_5.out (by decide)))
       have HO1_6 := Lib.hid (HO1_5.out.kept g6 (own_apart HO1_5.out HO2_5.out (by decide)))
       refine hK.out _ _ ⟨fun _ => trivial, HK9.out _ HB6.out⟩ (fun hHL => ?_)
       clear hK K o6 g6
       (try simp only [Act.put, List.setIfInBounds_toArray, List.set_cons_zero, List.set_cons_succ])
       obtain ⟨p0, c0, rfl⟩ := own_slc HO0_6.out
       obtain ⟨p1, c1, rfl⟩ := own_slc HO1_6.out
       obtain ⟨p2, c2, rfl⟩ := own_slc HO2_6.out
       refine wpAnyL_take (i := 14) (v := ?_) (by rfl) rfl (by kernel_rfl) (by kernel_rfl) (by kernel_rfl) (fun _ _ _ h => h) (Or.inl ⟨by rfl, ?_⟩) hHL ?_
       rotate_left
       ·intro w hSw; (try dsimp only at hSw); (first | (go_simp; done) | (go_simp; with_reducible rfl))
       clear hHL
       intro hHL
       (try simp only [Act.put, List.setIfInBounds_toArray, List.set_cons_zero, List.set_cons_succ])
       refine wpAnyL_ready (rs := [15]) (by kernel_rfl) (by simp) ?_
       refine AllReadyL.cons rfl (fun K hK => ?_) AllReadyL.nil
       have h7 := HR.out.below HB6.out HR.out.lt
       refine step_stG rfl 31 (.tmp 2) (.tmp 17) rfl (w.heap.size + 1) 0 #[.int .i64 g.now, .slice p0 g.words.length c0, .slice p1 g.keys.length c1, .slice p2 g.dead.length c2] rfl rfl (h7.there 0 4 (by simp)) sizeGrantZ (oneGrantZ g.now ⟨p0, g.words.length, c0, p1, g.keys.length, c1, p2, g.dead.length, c2⟩) ?_
       refine hK.out _ _ ⟨fun _ => trivial, HKS.out _ _ HB6.out⟩ (fun hHL => ?_)
       clear hK K hHL
       refine wpAnyL_done (by kernel_rfl) ?_ _
       obtain ⟨hZ, hO, hBz⟩ := HF.out ⟨p0, g.words.length, c0, p1, g.keys.length, c1, p2, g.dead.length, c2⟩ _ HB6.out ⟨HO0_6.out, HO1_6.out, HO2_6.out⟩
       have HZ := Lib.hid hZ
       have HOz := Lib.hid hO
       have HBz := Lib.hid hBz
       clear hZ hO hBz h7
       generalize (x6.setCells (w.heap.size + 1) 0 _) = Z at HZ HOz HBz ⊢
       go_wp2_with fail
       refine bodyPost_ret (ret_grant rfl rfl HZ.out) rfl ?_
       exact ⟨_, rfl, HOz.out, HBz.out⟩
   ·go_simp
    have hb3 := HB2.out.alloc HB2.out.size (.cells #[] 2)
    have hm3 := (World.ownsRow_made (base := W.heap.size) (size := 1) (e := 2) ((W.drew.alloc (.cells #[] 127)).alloc (.cells #[] 163)) #[] 0 HB2.out.size (Nat.zero_le _) rfl)
    simp only [World.size_alloc] at hm3
    have HO2_3 := Lib.hid hm3
    have HO0_3 := Lib.hid (HO0_2.out.alloc (.cells #[] 2))
    have HO1_3 := Lib.hid (HO1_2.out.alloc (.cells #[] 2))
    have HB3 := Lib.hid hb3
    refine hK.out _ _ ⟨fun _ => trivial, HK9.out _ HB3.out⟩ (fun hHL => ?_)
    clear hK K hb3 hm3
    (try simp only [Act.put, List.setIfInBounds_toArray, List.set_cons_zero, List.set_cons_succ])
    refine wpAnyL_ready (rs := [5]) (by kernel_rfl) (by simp) ?_
    refine AllReadyL.cons rfl (fun K hK => ?_) AllReadyL.nil
    ·refine step_apps (cf := wdCf) (l := g.words) rfl (.tmp 5) (.tmp 7) 28 163 rfl i0 _ 5 48 Tryz.underlying28 hi0 hz0_0 hz0_1 hz0_2 rfl (by decide) (by decide) wdCf_len oneWd W.heap.size _ 0 [] rfl HO0_3.out _ rfl (HSr.out _ HB3.out).1 HLn.out.1 HB3.out.size ?_
     intro v0 x4 o4 g4
     have HB4 := Lib.hid (below_grown HB3.out HB3.out.size HO0_3.out g4)
     have HO0_4 := Lib.hid (own_cast o4 (by rw [Nat.zero_add]) rfl)
     have HO1_4 := Lib.hid (HO1_3.out.kept g4 (own_apart HO1_3.out HO0_3.out (by decide)))
     have HO2_4 := Lib.hid (HO2_3.out.kept g4 (own_apart HO2_3.out HO0_3.out (by decide)))
     refine hK.out _ _ ⟨fun _ => trivial, HK9.out _ HB4.out⟩ (fun hHL => ?_)
     clear hK K o4 g4
     (try simp only [Act.put, List.setIfInBounds_toArray, List.set_cons_zero, List.set_cons_succ])
     refine wpAnyL_ready (rs := [9]) (by kernel_rfl) (by simp) ?_
     refine AllReadyL.cons rfl (fun K hK => ?_) AllReadyL.nil
     ·refine step_apps (cf := kyCf) (l := g.keys) rfl (.tmp 9) (.tmp 11) 29 127 rfl i1 _ 6 48 Tryz.underlying29 hi1 hz1_0 hz1_1 hz1_2 rfl (by decide) (by decide) kyCf_len oneKy W.heap.size _ 0 [] rfl HO1_4.out _ rfl (HSr.out _ HB4.out).2.1 HLn.out.2.1 HB4.out.size ?_
      intro v1 x5 o5 g5
      have HB5 := Lib.hid (below_grown HB4.out HB4.out.size HO1_4.out g5)
      have HO1_5 := Lib.hid (own_cast o5 (by rw [Nat.zero_add]) rfl)
      have HO0_5 := Lib.hid (HO0_4.out.kept g5 (own_apart HO0_4.out HO1_4.out (by decide)))
      have HO2_5 := Lib.hid (HO2_4.out.kept g5 (own_apart HO2_4.out HO1_4.out (by decide)))
      refine hK.out _ _ ⟨fun _ => trivial, HK9.out _ HB5.out⟩ (fun hHL => ?_)
      clear hK K o5 g5
      (try simp only [Act.put, List.setIfInBounds_toArray, List.set_cons_zero, List.set_cons_succ])
      refine wpAnyL_ready (rs := [13]) (by kernel_rfl) (by simp) ?_
      refine AllReadyL.cons rfl (fun K hK => ?_) AllReadyL.nil
      ·refine step_apps (cf := inCf) (l := g.dead) rfl (.tmp 13) (.tmp 15) 24 2 rfl i2 _ 1 8 Tryz.underlying24 hi2 hz2_0 hz2_1 hz2_2 rfl (by decide) (by decide) inCf_len oneIn W.heap.size _ 0 [] rfl HO2_5.out _ rfl (HSr.out _ HB5.out).2.2 HLn.out.2.2 HB5.out.size ?_
       intro v2 x6 o6 g6
       have HB6 := Lib.hid (below_grown HB5.out HB5.out.size HO2_5.out g6)
       have HO2_6 := Lib.hid (own_cast o6 (by rw [Nat.zero_add]) rfl)
       have HO0_6 := Lib.hid (HO0_5.out.kept g6 (own_apart HO0_5.out HO2_5.out (by decide)))
       have HO1_6 := Lib.hid (HO1_5.out.kept g6 (own_apart HO1_5.out HO2_5.out (by decide)))
       refine hK.out _ _ ⟨fun _ => trivial, HK9.out _ HB6.out⟩ (fun hHL => ?_)
       clear hK K o6 g6
       (try simp only [Act.put, List.setIfInBounds_toArray, List.set_cons_zero, List.set_cons_succ])
       obtain ⟨p0, c0, rfl⟩ := own_slc HO0_6.out
       obtain ⟨p1, c1, rfl⟩ := own_slc HO1_6.out
       obtain ⟨p2, c2, rfl⟩ := own_slc HO2_6.out
       refine wpAnyL_take (i := 14) (v := ?_) (by rfl) rfl (by kernel_rfl) (by kernel_rfl) (by kernel_rfl) (fun _ _ _ h => h) (Or.inl ⟨by rfl, ?_⟩) hHL ?_
       rotate_left
       ·intro w hSw; (try dsimp only at hSw); (first | (go_simp; done) | (go_simp; with_reducible rfl))
       clear hHL
       intro hHL
       (try simp only [Act.put, List.setIfInBounds_toArray, List.set_cons_zero, List.set_cons_succ])
       refine wpAnyL_ready (rs := [15]) (by kernel_rfl) (by simp) ?_
       refine AllReadyL.cons rfl (fun K hK => ?_) AllReadyL.nil
       have h7 := HR.out.below HB6.out HR.out.lt
       refine step_stG rfl 31 (.tmp 2) (.tmp 17) rfl (w.heap.size + 1) 0 #[.int .i64 g.now, .slice p0 g.words.length c0, .slice p1 g.keys.length c1, .slice p2 g.dead.length c2] rfl rfl (h7.there 0 4 (by simp)) sizeGrantZ (oneGrantZ g.now ⟨p0, g.words.length, c0, p1, g.keys.length, c1, p2, g.dead.length, c2⟩) ?_
       refine hK.out _ _ ⟨fun _ => trivial, HKS.out _ _ HB6.out⟩ (fun hHL => ?_)
       clear hK K hHL
       refine wpAnyL_done (by kernel_rfl) ?_ _
       obtain ⟨hZ, hO, hBz⟩ := HF.out ⟨p0, g.words.length, c0, p1, g.keys.length, c1, p2, g.dead.length, c2⟩ _ HB6.out ⟨HO0_6.out, HO1_6.out, HO2_6.out⟩
       have HZ := Lib.hid hZ
       have HOz := Lib.hid hO
       have HBz := Lib.hid hBz
       clear hZ hO hBz h7
       generalize (x6.setCells (w.heap.size + 1) 0 _) = Z at HZ HOz HBz ⊢
       go_wp2_with fail
       refine bodyPost_ret (ret_grant rfl rfl HZ.out) rfl ?_
       exact ⟨_, rfl, HOz.out, HBz.out⟩
  ·go_simp
   have hb2 := HB1.out.alloc HB1.out.size (.cells #[] 2)
   have hm2 := (World.ownsRow_made (base := W.heap.size) (size := 1) (e := 2) (W.drew.alloc (.cells #[] 127)) #[] 0 HB1.out.size (Nat.zero_le _) rfl)
   simp only [World.size_alloc] at hm2
   have HO2_2 := Lib.hid hm2
   have HO1_2 := Lib.hid (HO1_1.out.alloc (.cells #[] 2))
   have HB2 := Lib.hid hb2
   refine hK.out _ _ ⟨fun _ => trivial, HK9.out _ HB2.out⟩ (fun hHL => ?_)
   clear hK K hb2 hm2
   (try simp only [Act.put, List.setIfInBounds_toArray, List.set_cons_zero, List.set_cons_succ])
   refine wpAnyL_ready (rs := [2]) (by kernel_rfl) (by simp) ?_
   refine AllReadyL.cons rfl (fun K hK => ?_) AllReadyL.nil
   ·go_simp
    have hb3 := HB2.out.alloc HB2.out.size (.cells #[] 163)
    have hm3 := (World.ownsRow_made (base := W.heap.size) (size := 5) (e := 163) ((W.drew.alloc (.cells #[] 127)).alloc (.cells #[] 2)) #[] 0 HB2.out.size (Nat.zero_le _) rfl)
    simp only [World.size_alloc] at hm3
    have HO0_3 := Lib.hid hm3
    have HO1_3 := Lib.hid (HO1_2.out.alloc (.cells #[] 163))
    have HO2_3 := Lib.hid (HO2_2.out.alloc (.cells #[] 163))
    have HB3 := Lib.hid hb3
    refine hK.out _ _ ⟨fun _ => trivial, HK9.out _ HB3.out⟩ (fun hHL => ?_)
    clear hK K hb3 hm3
    (try simp only [Act.put, List.setIfInBounds_toArray, List.set_cons_zero, List.set_cons_succ])
    refine wpAnyL_ready (rs := [5]) (by kernel_rfl) (by simp) ?_
    refine AllReadyL.cons rfl (fun K hK => ?_) AllReadyL.nil
    ·refine step_apps (cf := wdCf) (l := g.words) rfl (.tmp 5) (.tmp 7) 28 163 rfl i0 _ 5 48 Tryz.underlying28 hi0 hz0_0 hz0_1 hz0_2 rfl (by decide) (by decide) wdCf_len oneWd W.heap.size _ 0 [] rfl HO0_3.out _ rfl (HSr.out _ HB3.out).1 HLn.out.1 HB3.out.size ?_
     intro v0 x4 o4 g4
     have HB4 := Lib.hid (below_grown HB3.out HB3.out.size HO0_3.out g4)
     have HO0_4 := Lib.hid (own_cast o4 (by rw [Nat.zero_add]) rfl)
     have HO1_4 := Lib.hid (HO1_3.out.kept g4 (own_apart HO1_3.out HO0_3.out (by decide)))
     have HO2_4 := Lib.hid (HO2_3.out.kept g4 (own_apart HO2_3.out HO0_3.out (by decide)))
     refine hK.out _ _ ⟨fun _ => trivial, HK9.out _ HB4.out⟩ (fun hHL => ?_)
     clear hK K o4 g4
     (try simp only [Act.put, List.setIfInBounds_toArray, List.set_cons_zero, List.set_cons_succ])
     refine wpAnyL_ready (rs := [9]) (by kernel_rfl) (by simp) ?_
     refine AllReadyL.cons rfl (fun K hK => ?_) AllReadyL.nil
     ·refine step_apps (cf := kyCf) (l := g.keys) rfl (.tmp 9) (.tmp 11) 29 127 rfl i1 _ 6 48 Tryz.underlying29 hi1 hz1_0 hz1_1 hz1_2 rfl (by decide) (by decide) kyCf_len oneKy W.heap.size _ 0 [] rfl HO1_4.out _ rfl (HSr.out _ HB4.out).2.1 HLn.out.2.1 HB4.out.size ?_
      intro v1 x5 o5 g5
      have HB5 := Lib.hid (below_grown HB4.out HB4.out.size HO1_4.out g5)
      have HO1_5 := Lib.hid (own_cast o5 (by rw [Nat.zero_add]) rfl)
      have HO0_5 := Lib.hid (HO0_4.out.kept g5 (own_apart HO0_4.out HO1_4.out (by decide)))
      have HO2_5 := Lib.hid (HO2_4.out.kept g5 (own_apart HO2_4.out HO1_4.out (by decide)))
      refine hK.out _ _ ⟨fun _ => trivial, HK9.out _ HB5.out⟩ (fun hHL => ?_)
      clear hK K o5 g5
      (try simp only [Act.put, List.setIfInBounds_toArray, List.set_cons_zero, List.set_cons_succ])
      refine wpAnyL_ready (rs := [13]) (by kernel_rfl) (by simp) ?_
      refine AllReadyL.cons rfl (fun K hK => ?_) AllReadyL.nil
      ·refine step_apps (cf := inCf) (l := g.dead) rfl (.tmp 13) (.tmp 15) 24 2 rfl i2 _ 1 8 Tryz.underlying24 hi2 hz2_0 hz2_1 hz2_2 rfl (by decide) (by decide) inCf_len oneIn W.heap.size _ 0 [] rfl HO2_5.out _ rfl (HSr.out _ HB5.out).2.2 HLn.out.2.2 HB5.out.size ?_
       intro v2 x6 o6 g6
       have HB6 := Lib.hid (below_grown HB5.out HB5.out.size HO2_5.out g6)
       have HO2_6 := Lib.hid (own_cast o6 (by rw [Nat.zero_add]) rfl)
       have HO0_6 := Lib.hid (HO0_5.out.kept g6 (own_apart HO0_5.out HO2_5.out (by decide)))
       have HO1_6 := Lib.hid (HO1_5.out.kept g6 (own_apart HO1_5.out HO2_5.out (by decide)))
       refine hK.out _ _ ⟨fun _ => trivial, HK9.out _ HB6.out⟩ (fun hHL => ?_)
       clear hK K o6 g6
       (try simp only [Act.put, List.setIfInBounds_toArray, List.set_cons_zero, List.set_cons_succ])
       obtain ⟨p0, c0, rfl⟩ := own_slc HO0_6.out
       obtain ⟨p1, c1, rfl⟩ := own_slc HO1_6.out
       obtain ⟨p2, c2, rfl⟩ := own_slc HO2_6.out
       refine wpAnyL_take (i := 14) (v := ?_) (by rfl) rfl (by kernel_rfl) (by kernel_rfl) (by kernel_rfl) (fun _ _ _ h => h) (Or.inl ⟨by rfl, ?_⟩) hHL ?_
       rotate_left
       ·intro w hSw; (try dsimp only at hSw); (first | (go_simp; done) | (go_simp; with_reducible rfl))
       clear hHL
       intro hHL
       (try simp only [Act.put, List.setIfInBounds_toArray, List.set_cons_zero, List.set_cons_succ])
       refine wpAnyL_ready (rs := [15]) (by kernel_rfl) (by simp) ?_
       refine AllReadyL.cons rfl (fun K hK => ?_) AllReadyL.nil
       have h7 := HR.out.below HB6.out HR.out.lt
       refine step_stG rfl 31 (.tmp 2) (.tmp 17) rfl (w.heap.size + 1) 0 #[.int .i64 g.now, .slice p0 g.words.length c0, .slice p1 g.keys.length c1, .slice p2 g.dead.length c2] rfl rfl (h7.there 0 4 (by simp)) sizeGrantZ (oneGrantZ g.now ⟨p0, g.words.length, c0, p1, g.keys.length, c1, p2, g.dead.length, c2⟩) ?_
       refine hK.out _ _ ⟨fun _ => trivial, HKS.out _ _ HB6.out⟩ (fun hHL => ?_)
       clear hK K hHL
       refine wpAnyL_done (by kernel_rfl) ?_ _
       obtain ⟨hZ, hO, hBz⟩ := HF.out ⟨p0, g.words.length, c0, p1, g.keys.length, c1, p2, g.dead.length, c2⟩ _ HB6.out ⟨HO0_6.out, HO1_6.out, HO2_6.out⟩
       have HZ := Lib.hid hZ
       have HOz := Lib.hid hO
       have HBz := Lib.hid hBz
       clear hZ hO hBz h7
       generalize (x6.setCells (w.heap.size + 1) 0 _) = Z at HZ HOz HBz ⊢
       go_wp2_with fail
       refine bodyPost_ret (ret_grant rfl rfl HZ.out) rfl ?_
       exact ⟨_, rfl, HOz.out, HBz.out⟩
 ·go_simp
  have hb1 := HB0.out.alloc HB0.out.size (.cells #[] 2)
  have hm1 := (World.ownsRow_made (base := W.heap.size) (size := 1) (e := 2) W.drew #[] 0 HB0.out.size (Nat.zero_le _) rfl)
  have HO2_1 := Lib.hid hm1
  have HB1 := Lib.hid hb1
  refine hK.out _ _ ⟨fun _ => trivial, HK9.out _ HB1.out⟩ (fun hHL => ?_)
  clear hK K hb1 hm1
  (try simp only [Act.put, List.setIfInBounds_toArray, List.set_cons_zero, List.set_cons_succ])
  refine wpAnyL_ready (rs := [2, 6]) (by kernel_rfl) (by simp) ?_
  refine AllReadyL.cons rfl (fun K hK => ?_) (AllReadyL.cons rfl (fun K hK => ?_) AllReadyL.nil)
  ·go_simp
   have hb2 := HB1.out.alloc HB1.out.size (.cells #[] 163)
   have hm2 := (World.ownsRow_made (base := W.heap.size) (size := 5) (e := 163) (W.drew.alloc (.cells #[] 2)) #[] 0 HB1.out.size (Nat.zero_le _) rfl)
   simp only [World.size_alloc] at hm2
   have HO0_2 := Lib.hid hm2
   have HO2_2 := Lib.hid (HO2_1.out.alloc (.cells #[] 163))
   have HB2 := Lib.hid hb2
   refine hK.out _ _ ⟨fun _ => trivial, HK9.out _ HB2.out⟩ (fun hHL => ?_)
   clear hK K hb2 hm2
   (try simp only [Act.put, List.setIfInBounds_toArray, List.set_cons_zero, List.set_cons_succ])
   refine wpAnyL_ready (rs := [5, 6]) (by kernel_rfl) (by simp) ?_
   refine AllReadyL.cons rfl (fun K hK => ?_) (AllReadyL.cons rfl (fun K hK => ?_) AllReadyL.nil)
   ·refine step_apps (cf := wdCf) (l := g.words) rfl (.tmp 5) (.tmp 7) 28 163 rfl i0 _ 5 48 Tryz.underlying28 hi0 hz0_0 hz0_1 hz0_2 rfl (by decide) (by decide) wdCf_len oneWd W.heap.size _ 0 [] rfl HO0_2.out _ rfl (HSr.out _ HB2.out).1 HLn.out.1 HB2.out.size ?_
    intro v0 x3 o3 g3
    have HB3 := Lib.hid (below_grown HB2.out HB2.out.size HO0_2.out g3)
    have HO0_3 := Lib.hid (own_cast o3 (by rw [Nat.zero_add]) rfl)
    have HO2_3 := Lib.hid (HO2_2.out.kept g3 (own_apart HO2_2.out HO0_2.out (by decide)))
    refine hK.out _ _ ⟨fun _ => trivial, HK9.out _ HB3.out⟩ (fun hHL => ?_)
    clear hK K o3 g3
    (try simp only [Act.put, List.setIfInBounds_toArray, List.set_cons_zero, List.set_cons_succ])
    refine wpAnyL_ready (rs := [6]) (by kernel_rfl) (by simp) ?_
    refine AllReadyL.cons rfl (fun K hK => ?_) AllReadyL.nil
    ·go_simp
     have hb4 := HB3.out.alloc HB3.out.size (.cells #[] 127)
     have hm4 := (World.ownsRow_made (base := W.heap.size) (size := 6) (e := 127) x3 #[] 0 HB3.out.size (Nat.zero_le _) rfl)
     have HO1_4 := Lib.hid hm4
     have HO0_4 := Lib.hid (HO0_3.out.alloc (.cells #[] 127))
     have HO2_4 := Lib.hid (HO2_3.out.alloc (.cells #[] 127))
     have HB4 := Lib.hid hb4
     refine hK.out _ _ ⟨fun _ => trivial, HK9.out _ HB4.out⟩ (fun hHL => ?_)
     clear hK K hb4 hm4
     (try simp only [Act.put, List.setIfInBounds_toArray, List.set_cons_zero, List.set_cons_succ])
     refine wpAnyL_ready (rs := [9]) (by kernel_rfl) (by simp) ?_
     refine AllReadyL.cons rfl (fun K hK => ?_) AllReadyL.nil
     ·refine step_apps (cf := kyCf) (l := g.keys) rfl (.tmp 9) (.tmp 11) 29 127 rfl i1 _ 6 48 Tryz.underlying29 hi1 hz1_0 hz1_1 hz1_2 rfl (by decide) (by decide) kyCf_len oneKy W.heap.size _ 0 [] rfl HO1_4.out _ rfl (HSr.out _ HB4.out).2.1 HLn.out.2.1 HB4.out.size ?_
      intro v1 x5 o5 g5
      have HB5 := Lib.hid (below_grown HB4.out HB4.out.size HO1_4.out g5)
      have HO1_5 := Lib.hid (own_cast o5 (by rw [Nat.zero_add]) rfl)
      have HO0_5 := Lib.hid (HO0_4.out.kept g5 (own_apart HO0_4.out HO1_4.out (by decide)))
      have HO2_5 := Lib.hid (HO2_4.out.kept g5 (own_apart HO2_4.out HO1_4.out (by decide)))
      refine hK.out _ _ ⟨fun _ => trivial, HK9.out _ HB5.out⟩ (fun hHL => ?_)
      clear hK K o5 g5
      (try simp only [Act.put, List.setIfInBounds_toArray, List.set_cons_zero, List.set_cons_succ])
      refine wpAnyL_ready (rs := [13]) (by kernel_rfl) (by simp) ?_
      refine AllReadyL.cons rfl (fun K hK => ?_) AllReadyL.nil
      ·refine step_apps (cf := inCf) (l := g.dead) rfl (.tmp 13) (.tmp 15) 24 2 rfl i2 _ 1 8 Tryz.underlying24 hi2 hz2_0 hz2_1 hz2_2 rfl (by decide) (by decide) inCf_len oneIn W.heap.size _ 0 [] rfl HO2_5.out _ rfl (HSr.out _ HB5.out).2.2 HLn.out.2.2 HB5.out.size ?_
       intro v2 x6 o6 g6
       have HB6 := Lib.hid (below_grown HB5.out HB5.out.size HO2_5.out g6)
       have HO2_6 := Lib.hid (own_cast o6 (by rw [Nat.zero_add]) rfl)
       have HO0_6 := Lib.hid (HO0_5.out.kept g6 (own_apart HO0_5.out HO2_5.out (by decide)))
       have HO1_6 := Lib.hid (HO1_5.out.kept g6 (own_apart HO1_5.out HO2_5.out (by decide)))
       refine hK.out _ _ ⟨fun _ => trivial, HK9.out _ HB6.out⟩ (fun hHL => ?_)
       clear hK K o6 g6
       (try simp only [Act.put, List.setIfInBounds_toArray, List.set_cons_zero, List.set_cons_succ])
       obtain ⟨p0, c0, rfl⟩ := own_slc HO0_6.out
       obtain ⟨p1, c1, rfl⟩ := own_slc HO1_6.out
       obtain ⟨p2, c2, rfl⟩ := own_slc HO2_6.out
       refine wpAnyL_take (i := 14) (v := ?_) (by rfl) rfl (by kernel_rfl) (by kernel_rfl) (by kernel_rfl) (fun _ _ _ h => h) (Or.inl ⟨by rfl, ?_⟩) hHL ?_
       rotate_left
       ·intro w hSw; (try dsimp only at hSw); (first | (go_simp; done) | (go_simp; with_reducible rfl))
       clear hHL
       intro hHL
       (try simp only [Act.put, List.setIfInBounds_toArray, List.set_cons_zero, List.set_cons_succ])
       refine wpAnyL_ready (rs := [15]) (by kernel_rfl) (by simp) ?_
       refine AllReadyL.cons rfl (fun K hK => ?_) AllReadyL.nil
       have h7 := HR.out.below HB6.out HR.out.lt
       refine step_stG rfl 31 (.tmp 2) (.tmp 17) rfl (w.heap.size + 1) 0 #[.int .i64 g.now, .slice p0 g.words.length c0, .slice p1 g.keys.length c1, .slice p2 g.dead.length c2] rfl rfl (h7.there 0 4 (by simp)) sizeGrantZ (oneGrantZ g.now ⟨p0, g.words.length, c0, p1, g.keys.length, c1, p2, g.dead.length, c2⟩) ?_
       refine hK.out _ _ ⟨fun _ => trivial, HKS.out _ _ HB6.out⟩ (fun hHL => ?_)
       clear hK K hHL
       refine wpAnyL_done (by kernel_rfl) ?_ _
       obtain ⟨hZ, hO, hBz⟩ := HF.out ⟨p0, g.words.length, c0, p1, g.keys.length, c1, p2, g.dead.length, c2⟩ _ HB6.out ⟨HO0_6.out, HO1_6.out, HO2_6.out⟩
       have HZ := Lib.hid hZ
       have HOz := Lib.hid hO
       have HBz := Lib.hid hBz
       clear hZ hO hBz h7
       generalize (x6.setCells (w.heap.size + 1) 0 _) = Z at HZ HOz HBz ⊢
       go_wp2_with fail
       refine bodyPost_ret (ret_grant rfl rfl HZ.out) rfl ?_
       exact ⟨_, rfl, HOz.out, HBz.out⟩
   ·go_simp
    have hb3 := HB2.out.alloc HB2.out.size (.cells #[] 127)
    have hm3 := (World.ownsRow_made (base := W.heap.size) (size := 6) (e := 127) ((W.drew.alloc (.cells #[] 2)).alloc (.cells #[] 163)) #[] 0 HB2.out.size (Nat.zero_le _) rfl)
    simp only [World.size_alloc] at hm3
    have HO1_3 := Lib.hid hm3
    have HO0_3 := Lib.hid (HO0_2.out.alloc (.cells #[] 127))
    have HO2_3 := Lib.hid (HO2_2.out.alloc (.cells #[] 127))
    have HB3 := Lib.hid hb3
    refine hK.out _ _ ⟨fun _ => trivial, HK9.out _ HB3.out⟩ (fun hHL => ?_)
    clear hK K hb3 hm3
    (try simp only [Act.put, List.setIfInBounds_toArray, List.set_cons_zero, List.set_cons_succ])
    refine wpAnyL_ready (rs := [5]) (by kernel_rfl) (by simp) ?_
    refine AllReadyL.cons rfl (fun K hK => ?_) AllReadyL.nil
    ·refine step_apps (cf := wdCf) (l := g.words) rfl (.tmp 5) (.tmp 7) 28 163 rfl i0 _ 5 48 Tryz.underlying28 hi0 hz0_0 hz0_1 hz0_2 rfl (by decide) (by decide) wdCf_len oneWd W.heap.size _ 0 [] rfl HO0_3.out _ rfl (HSr.out _ HB3.out).1 HLn.out.1 HB3.out.size ?_
     intro v0 x4 o4 g4
     have HB4 := Lib.hid (below_grown HB3.out HB3.out.size HO0_3.out g4)
     have HO0_4 := Lib.hid (own_cast o4 (by rw [Nat.zero_add]) rfl)
     have HO1_4 := Lib.hid (HO1_3.out.kept g4 (own_apart HO1_3.out HO0_3.out (by decide)))
     have HO2_4 := Lib.hid (HO2_3.out.kept g4 (own_apart HO2_3.out HO0_3.out (by decide)))
     refine hK.out _ _ ⟨fun _ => trivial, HK9.out _ HB4.out⟩ (fun hHL => ?_)
     clear hK K o4 g4
     (try simp only [Act.put, List.setIfInBounds_toArray, List.set_cons_zero, List.set_cons_succ])
     refine wpAnyL_ready (rs := [9]) (by kernel_rfl) (by simp) ?_
     refine AllReadyL.cons rfl (fun K hK => ?_) AllReadyL.nil
     ·refine step_apps (cf := kyCf) (l := g.keys) rfl (.tmp 9) (.tmp 11) 29 127 rfl i1 _ 6 48 Tryz.underlying29 hi1 hz1_0 hz1_1 hz1_2 rfl (by decide) (by decide) kyCf_len oneKy W.heap.size _ 0 [] rfl HO1_4.out _ rfl (HSr.out _ HB4.out).2.1 HLn.out.2.1 HB4.out.size ?_
      intro v1 x5 o5 g5
      have HB5 := Lib.hid (below_grown HB4.out HB4.out.size HO1_4.out g5)
      have HO1_5 := Lib.hid (own_cast o5 (by rw [Nat.zero_add]) rfl)
      have HO0_5 := Lib.hid (HO0_4.out.kept g5 (own_apart HO0_4.out HO1_4.out (by decide)))
      have HO2_5 := Lib.hid (HO2_4.out.kept g5 (own_apart HO2_4.out HO1_4.out (by decide)))
      refine hK.out _ _ ⟨fun _ => trivial, HK9.out _ HB5.out⟩ (fun hHL => ?_)
      clear hK K o5 g5
      (try simp only [Act.put, List.setIfInBounds_toArray, List.set_cons_zero, List.set_cons_succ])
      refine wpAnyL_ready (rs := [13]) (by kernel_rfl) (by simp) ?_
      refine AllReadyL.cons rfl (fun K hK => ?_) AllReadyL.nil
      ·refine step_apps (cf := inCf) (l := g.dead) rfl (.tmp 13) (.tmp 15) 24 2 rfl i2 _ 1 8 Tryz.underlying24 hi2 hz2_0 hz2_1 hz2_2 rfl (by decide) (by decide) inCf_len oneIn W.heap.size _ 0 [] rfl HO2_5.out _ rfl (HSr.out _ HB5.out).2.2 HLn.out.2.2 HB5.out.size ?_
       intro v2 x6 o6 g6
       have HB6 := Lib.hid (below_grown HB5.out HB5.out.size HO2_5.out g6)
       have HO2_6 := Lib.hid (own_cast o6 (by rw [Nat.zero_add]) rfl)
       have HO0_6 := Lib.hid (HO0_5.out.kept g6 (own_apart HO0_5.out HO2_5.out (by decide)))
       have HO1_6 := Lib.hid (HO1_5.out.kept g6 (own_apart HO1_5.out HO2_5.out (by decide)))
       refine hK.out _ _ ⟨fun _ => trivial, HK9.out _ HB6.out⟩ (fun hHL => ?_)
       clear hK K o6 g6
       (try simp only [Act.put, List.setIfInBounds_toArray, List.set_cons_zero, List.set_cons_succ])
       obtain ⟨p0, c0, rfl⟩ := own_slc HO0_6.out
       obtain ⟨p1, c1, rfl⟩ := own_slc HO1_6.out
       obtain ⟨p2, c2, rfl⟩ := own_slc HO2_6.out
       refine wpAnyL_take (i := 14) (v := ?_) (by rfl) rfl (by kernel_rfl) (by kernel_rfl) (by kernel_rfl) (fun _ _ _ h => h) (Or.inl ⟨by rfl, ?_⟩) hHL ?_
       rotate_left
       ·intro w hSw; (try dsimp only at hSw); (first | (go_simp; done) | (go_simp; with_reducible rfl))
       clear hHL
       intro hHL
       (try simp only [Act.put, List.setIfInBounds_toArray, List.set_cons_zero, List.set_cons_succ])
       refine wpAnyL_ready (rs := [15]) (by kernel_rfl) (by simp) ?_
       refine AllReadyL.cons rfl (fun K hK => ?_) AllReadyL.nil
       have h7 := HR.out.below HB6.out HR.out.lt
       refine step_stG rfl 31 (.tmp 2) (.tmp 17) rfl (w.heap.size + 1) 0 #[.int .i64 g.now, .slice p0 g.words.length c0, .slice p1 g.keys.length c1, .slice p2 g.dead.length c2] rfl rfl (h7.there 0 4 (by simp)) sizeGrantZ (oneGrantZ g.now ⟨p0, g.words.length, c0, p1, g.keys.length, c1, p2, g.dead.length, c2⟩) ?_
       refine hK.out _ _ ⟨fun _ => trivial, HKS.out _ _ HB6.out⟩ (fun hHL => ?_)
       clear hK K hHL
       refine wpAnyL_done (by kernel_rfl) ?_ _
       obtain ⟨hZ, hO, hBz⟩ := HF.out ⟨p0, g.words.length, c0, p1, g.keys.length, c1, p2, g.dead.length, c2⟩ _ HB6.out ⟨HO0_6.out, HO1_6.out, HO2_6.out⟩
       have HZ := Lib.hid hZ
       have HOz := Lib.hid hO
       have HBz := Lib.hid hBz
       clear hZ hO hBz h7
       generalize (x6.setCells (w.heap.size + 1) 0 _) = Z at HZ HOz HBz ⊢
       go_wp2_with fail
       refine bodyPost_ret (ret_grant rfl rfl HZ.out) rfl ?_
       exact ⟨_, rfl, HOz.out, HBz.out⟩
  ·go_simp
   have hb2 := HB1.out.alloc HB1.out.size (.cells #[] 127)
   have hm2 := (World.ownsRow_made (base := W.heap.size) (size := 6) (e := 127) (W.drew.alloc (.cells #[] 2)) #[] 0 HB1.out.size (Nat.zero_le _) rfl)
   simp only [World.size_alloc] at hm2
   have HO1_2 := Lib.hid hm2
   have HO2_2 := Lib.hid (HO2_1.out.alloc (.cells #[] 127))
   have HB2 := Lib.hid hb2
   refine hK.out _ _ ⟨fun _ => trivial, HK9.out _ HB2.out⟩ (fun hHL => ?_)
   clear hK K hb2 hm2
   (try simp only [Act.put, List.setIfInBounds_toArray, List.set_cons_zero, List.set_cons_succ])
   refine wpAnyL_ready (rs := [2]) (by kernel_rfl) (by simp) ?_
   refine AllReadyL.cons rfl (fun K hK => ?_) AllReadyL.nil
   ·go_simp
    have hb3 := HB2.out.alloc HB2.out.size (.cells #[] 163)
    have hm3 := (World.ownsRow_made (base := W.heap.size) (size := 5) (e := 163) ((W.drew.alloc (.cells #[] 2)).alloc (.cells #[] 127)) #[] 0 HB2.out.size (Nat.zero_le _) rfl)
    simp only [World.size_alloc] at hm3
    have HO0_3 := Lib.hid hm3
    have HO1_3 := Lib.hid (HO1_2.out.alloc (.cells #[] 163))
    have HO2_3 := Lib.hid (HO2_2.out.alloc (.cells #[] 163))
    have HB3 := Lib.hid hb3
    refine hK.out _ _ ⟨fun _ => trivial, HK9.out _ HB3.out⟩ (fun hHL => ?_)
    clear hK K hb3 hm3
    (try simp only [Act.put, List.setIfInBounds_toArray, List.set_cons_zero, List.set_cons_succ])
    refine wpAnyL_ready (rs := [5]) (by kernel_rfl) (by simp) ?_
    refine AllReadyL.cons rfl (fun K hK => ?_) AllReadyL.nil
    ·refine step_apps (cf := wdCf) (l := g.words) rfl (.tmp 5) (.tmp 7) 28 163 rfl i0 _ 5 48 Tryz.underlying28 hi0 hz0_0 hz0_1 hz0_2 rfl (by decide) (by decide) wdCf_len oneWd W.heap.size _ 0 [] rfl HO0_3.out _ rfl (HSr.out _ HB3.out).1 HLn.out.1 HB3.out.size ?_
     intro v0 x4 o4 g4
     have HB4 := Lib.hid (below_grown HB3.out HB3.out.size HO0_3.out g4)
     have HO0_4 := Lib.hid (own_cast o4 (by rw [Nat.zero_add]) rfl)
     have HO1_4 := Lib.hid (HO1_3.out.kept g4 (own_apart HO1_3.out HO0_3.out (by decide)))
     have HO2_4 := Lib.hid (HO2_3.out.kept g4 (own_apart HO2_3.out HO0_3.out (by decide)))
     refine hK.out _ _ ⟨fun _ => trivial, HK9.out _ HB4.out⟩ (fun hHL => ?_)
     clear hK K o4 g4
     (try simp only [Act.put, List.setIfInBounds_toArray, List.set_cons_zero, List.set_cons_succ])
     refine wpAnyL_ready (rs := [9]) (by kernel_rfl) (by simp) ?_
     refine AllReadyL.cons rfl (fun K hK => ?_) AllReadyL.nil
     ·refine step_apps (cf := kyCf) (l := g.keys) rfl (.tmp 9) (.tmp 11) 29 127 rfl i1 _ 6 48 Tryz.underlying29 hi1 hz1_0 hz1_1 hz1_2 rfl (by decide) (by decide) kyCf_len oneKy W.heap.size _ 0 [] rfl HO1_4.out _ rfl (HSr.out _ HB4.out).2.1 HLn.out.2.1 HB4.out.size ?_
      intro v1 x5 o5 g5
      have HB5 := Lib.hid (below_grown HB4.out HB4.out.size HO1_4.out g5)
      have HO1_5 := Lib.hid (own_cast o5 (by rw [Nat.zero_add]) rfl)
      have HO0_5 := Lib.hid (HO0_4.out.kept g5 (own_apart HO0_4.out HO1_4.out (by decide)))
      have HO2_5 := Lib.hid (HO2_4.out.kept g5 (own_apart HO2_4.out HO1_4.out (by decide)))
      refine hK.out _ _ ⟨fun _ => trivial, HK9.out _ HB5.out⟩ (fun hHL => ?_)
      clear hK K o5 g5
      (try simp only [Act.put, List.setIfInBounds_toArray, List.set_cons_zero, List.set_cons_succ])
      refine wpAnyL_ready (rs := [13]) (by kernel_rfl) (by simp) ?_
      refine AllReadyL.cons rfl (fun K hK => ?_) AllReadyL.nil
      ·refine step_apps (cf := inCf) (l := g.dead) rfl (.tmp 13) (.tmp 15) 24 2 rfl i2 _ 1 8 Tryz.underlying24 hi2 hz2_0 hz2_1 hz2_2 rfl (by decide) (by decide) inCf_len oneIn W.heap.size _ 0 [] rfl HO2_5.out _ rfl (HSr.out _ HB5.out).2.2 HLn.out.2.2 HB5.out.size ?_
       intro v2 x6 o6 g6
       have HB6 := Lib.hid (below_grown HB5.out HB5.out.size HO2_5.out g6)
       have HO2_6 := Lib.hid (own_cast o6 (by rw [Nat.zero_add]) rfl)
       have HO0_6 := Lib.hid (HO0_5.out.kept g6 (own_apart HO0_5.out HO2_5.out (by decide)))
       have HO1_6 := Lib.hid (HO1_5.out.kept g6 (own_apart HO1_5.out HO2_5.out (by decide)))
       refine hK.out _ _ ⟨fun _ => trivial, HK9.out _ HB6.out⟩ (fun hHL => ?_)
       clear hK K o6 g6
       (try simp only [Act.put, List.setIfInBounds_toArray, List.set_cons_zero, List.set_cons_succ])
       obtain ⟨p0, c0, rfl⟩ := own_slc HO0_6.out
       obtain ⟨p1, c1, rfl⟩ := own_slc HO1_6.out
       obtain ⟨p2, c2, rfl⟩ := own_slc HO2_6.out
       refine wpAnyL_take (i := 14) (v := ?_) (by rfl) rfl (by kernel_rfl) (by kernel_rfl) (by kernel_rfl) (fun _ _ _ h => h) (Or.inl ⟨by rfl, ?_⟩) hHL ?_
       rotate_left
       ·intro w hSw; (try dsimp only at hSw); (first | (go_simp; done) | (go_simp; with_reducible rfl))
       clear hHL
       intro hHL
       (try simp only [Act.put, List.setIfInBounds_toArray, List.set_cons_zero, List.set_cons_succ])
       refine wpAnyL_ready (rs := [15]) (by kernel_rfl) (by simp) ?_
       refine AllReadyL.cons rfl (fun K hK => ?_) AllReadyL.nil
       have h7 := HR.out.below HB6.out HR.out.lt
       refine step_stG rfl 31 (.tmp 2) (.tmp 17) rfl (w.heap.size + 1) 0 #[.int .i64 g.now, .slice p0 g.words.length c0, .slice p1 g.keys.length c1, .slice p2 g.dead.length c2] rfl rfl (h7.there 0 4 (by simp)) sizeGrantZ (oneGrantZ g.now ⟨p0, g.words.length, c0, p1, g.keys.length, c1, p2, g.dead.length, c2⟩) ?_
       refine hK.out _ _ ⟨fun _ => trivial, HKS.out _ _ HB6.out⟩ (fun hHL => ?_)
       clear hK K hHL
       refine wpAnyL_done (by kernel_rfl) ?_ _
       obtain ⟨hZ, hO, hBz⟩ := HF.out ⟨p0, g.words.length, c0, p1, g.keys.length, c1, p2, g.dead.length, c2⟩ _ HB6.out ⟨HO0_6.out, HO1_6.out, HO2_6.out⟩
       have HZ := Lib.hid hZ
       have HOz := Lib.hid hO
       have HBz := Lib.hid hBz
       clear hZ hO hBz h7
       generalize (x6.setCells (w.heap.size + 1) 0 _) = Z at HZ HOz HBz ⊢
       go_wp2_with fail
       refine bodyPost_ret (ret_grant rfl rfl HZ.out) rfl ?_
       exact ⟨_, rfl, HOz.out, HBz.out⟩
end Go.Proofs.YtjccnjfdeedneaaGreat
