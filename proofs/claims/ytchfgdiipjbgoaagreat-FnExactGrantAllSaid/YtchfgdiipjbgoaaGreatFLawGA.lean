/- GrantAll: the walk of the law. -/
import Derived.Test.YtchfgdiipjbgoaaGreatFRqS
import Derived.Test.YtchfgdiipjbgoaaGreatFSpGA
import Derived.Test.YtchfgdiipjbgoaaGreatFImGA
import Derived.Test.YtchfgdiipjbgoaaGreatFLawGD0
import Derived.Test.YtchfgdiipjbgoaaGreatFGdV
namespace Go.Proofs.YtchfgdiipjbgoaaGreat
open Go Go.RowKit Go.Lib
set_option linter.unusedVariables false
set_option maxRecDepth 100000

def BoxG (w : World) (h : GH) (g : Gr) (W : World) : Prop := Row W w.heap.size 82 (grL g.now h) ∧ Below w.heap.size w W
theorem BoxG.later {w W W' : World} {h : GH} {g : Gr} {M : Nat} (k : BoxG w h g W) (hb : Below M W W') (hM : w.heap.size + 1 ≤ M) : BoxG w h g W' := ⟨k.1.below hb (by omega), k.2.trans (hb.mono (by omega))⟩
theorem BoxG.size {w W : World} {h : GH} {g : Gr} (k : BoxG w h g W) : w.heap.size + 1 ≤ W.heap.size := k.1.lt
theorem ga_small {g G : Gr} {l : List RQ} {s : RS} {c : Int} (h : gaD g l = (G, s, c)) : GrSmall G := by
 unfold gaD at h
 split at h
 ·simp only [Prod.mk.injEq] at h
  rw [← h.1]
  exact ⟨by simp [zG], by simp [zG], by simp [zG], fun x hx => by simp [zG] at hx⟩
 ·split at h
  ·rename_i hb
   simp only [Prod.mk.injEq] at h
   rw [← h.1]
   exact right_small (allD_right hb l)
  ·simp only [Prod.mk.injEq] at h
   rw [← h.1]
   exact ⟨by simp [zG], by simp [zG], by simp [zG], fun x hx => by simp [zG] at hx⟩
def soloH (b : Nat) : GH := ⟨some ⟨b, 0, none⟩, 0, 0, none, 0, 0, none, 0, 0⟩
theorem solo_in {b j : Nat} (h : InB (soloH b) j) : j = b := by
 rcases h with h | h | h
 ·simpa [soloH] using h.symm
 ·simp [soloH] at h
 ·simp [soloH] at h
theorem solo_out {b : Nat} {w w' : World} (hg : w.grownBy w' (some b)) : Outside (soloH b) w w' :=
 ⟨hg.os, hg.tape, hg.output, hg.size, fun k hk h1 _ _ => hg.block k hk (fun e => h1 (by simp [soloH]; simpa using e.symm))⟩
theorem markReqS_any {x : List Value} (b n cap k0 : Nat) (w : World) (hk0 : 1 ≤ k0) (hk : k0 + 7 * n < 100000000) (h : Row w b 29 x) (hx : x.length = n * 7) : Calls Tryz.prog 65 #[.slice (some ⟨b, 0, none⟩) n cap, .int .i64 (k0 : Int)] w fun e w' => e = .returned (.int .i64 ((k0 + 7 * n : Nat) : Int)) ∧ Outside (soloH b) w w' :=
 (markReq_some b n cap k0 w hk0 hk (h.there 0 (n * 7) (by omega)) h.lt).mono fun e w' hh => by
  obtain ⟨rfl, _, h4⟩ := hh
  exact ⟨rfl, solo_out h4⟩
set_option maxHeartbeats 16000000 in
theorem lawGrantAll (h : GH) (g : Gr) (q : Option Addr) (cap : Nat) (l : List RQ) (w : World) (hin : GrArgF w h g) (hl : LIn rqCf w q l) (hlm : l.length ≤ maxLen) (hp : ∀ r ∈ l, r.proof.size ≤ maxLen) : Calls Tryz.prog 6 #[grV g.now h, .slice q l.length cap] w fun e w' => e = .returned (.bool true) ∧ Below w.heap.size w w' := by
 have hb0 := (Below.refl w.heap.size w).alloc (Nat.le_refl _) (.cells #[.int .i64 g.now, .slice h.wp h.wn h.wc, .slice h.kp h.kn h.kc, .slice h.dp h.dn h.dc] 82)
 have r0 : Row (w.alloc (.cells #[.int .i64 g.now, .slice h.wp h.wn h.wc, .slice h.kp h.kn h.kc, .slice h.dp h.dn h.dc] 82)) w.heap.size 82 (grL g.now h) := heap_alloc_new w _
 obtain ⟨W, hW⟩ : ∃ W, W = w.alloc (.cells #[.int .i64 g.now, .slice h.wp h.wn h.wc, .slice h.kp h.kn h.kc, .slice h.dp h.dn h.dc] 82) := ⟨_, rfl⟩
 rw [← hW] at hb0 r0
 have HBo := Lib.hid (show BoxG w h g W from ⟨r0, hb0⟩)
 have HW := Lib.hid hW
 have HA : Hid (GrArg W h g) := Lib.hid ⟨hin.1.1.later hb0, hin.1.2⟩
 have HGi : Hid (GrIn w h g) := Lib.hid hin.1.1
 have HWf := Lib.hid hin.2
 have HLq := Lib.hid hl
 have HPr := Lib.hid hp
 have HE := Lib.hid (show grV g.now h = .agg #[.int .i64 g.now, .slice h.wp h.wn h.wc, .slice h.kp h.kn h.kc, .slice h.dp h.dn h.dc] from rfl)
 obtain ⟨⟨G, s, c⟩, hD⟩ : ∃ x, gaD g l = x := ⟨_, rfl⟩
 have HSG := Lib.hid (ga_small hD)
 have HD := Lib.hid hD
 obtain ⟨n, hn⟩ : ∃ n, n = l.length := ⟨_, rfl⟩
 have HN := Lib.hid hn
 clear hb0 r0 hW hin hD hl hp
 rw [← hn]
 rw [← hn] at hlm
 clear hn
 rw [HE.out]
 go_enter Tryz.func6, Tryz.ntmps6
 go_wp2_with fail
 rw [← HW.out, ← HE.out]
 refine (szGrant_any h g _ HA.out).mono ?_
 rintro e W1 ⟨m1, rfl, hr, hr2, hb1⟩
 have HBo1 := Lib.hid (HBo.out.later hb1 HBo.out.size)
 clear hb1 HA HW HBo
 by_cases hneg : m1 < 0
 ·clear hr
  go_wp2_with fail
  go_ret
  exact ⟨rfl, HBo1.out.2⟩
 have HSm := Lib.hid (hr (by omega))
 have hn0 : 0 ≤ m1 := by omega
 clear hr
 go_wp2_with fail
 rw [HN.out] at hlm ⊢
 refine (szReqS_any q cap l m1 _ (HLq.out.later HBo1.out.2) HPr.out hlm hn0 hr2).mono ?_
 rintro e W7 ⟨m2, rfl, _, _, hr, hb2⟩
 rw [← HN.out] at hr ⊢
 have HBo7 := Lib.hid (HBo1.out.later hb2 HBo1.out.size)
 clear hb2 HBo1 hneg hn0 hr2 hlm
 by_cases hneg : m2 < 0
 ·clear hr
  go_wp2_with fail
  go_ret
  exact ⟨rfl, HBo7.out.2⟩
 have hnn : n ≤ 1048576 := hr (by omega)
 have HLm : Hid (l.length ≤ 1048576) := Lib.hid (by rw [← HN.out]; exact hnn)
 clear hr
 have HDs : Hid (∀ w' k b cp, GrIn w' k g → SrcG w' k g → LIn rqCf w' b l → Calls Tryz.prog 19 #[grV g.now k, .slice b n cp] w' (GDMade G s c w')) := Lib.hid (fun w' k b cp h1 h2 h3 => by
  have := ga_spec g k b cp l w' h1 h2 HSm.out h3 HLm.out HPr.out
  rwa [HD.out, ← HN.out] at this)
 have HDi : Hid (∀ w' k b cp, GrIn w' k g → LIn rqCf w' b l → Calls Tryz.prog 15 #[grV g.now k, .slice b n cp] w' (GDMade G s c w')) := Lib.hid (fun w' k b cp h1 h3 => by
  have := ga_impl g k b cp l w' h1 HWf.out HSm.out h3 HLm.out HPr.out
  rwa [HD.out, ← HN.out] at this)
 have HTq : Hid (∀ w', LIn rqCf w' q l → Calls Tryz.prog 63 #[.slice q n cap] w' fun e w2 => ∃ b, e = .returned (.slice (some ⟨b, 0, none⟩) n n) ∧ w'.heap.size ≤ b ∧ Row w2 b 29 (l.flatMap rqCf) ∧ Below w'.heap.size w' w2) := Lib.hid (fun w' h1 => by
  have := toReqS_any q cap l w' h1 HLm.out
  rw [← HN.out] at this
  refine this.mono fun e w2 hh => ?_
  obtain ⟨b, h1, h2, h3, h4⟩ := hh
  exact ⟨b, by rw [HN.out]; exact h1, h2, h3, h4⟩)
 have HIn : Hid (∀ w', Below w.heap.size w w' → GrIn w' h g ∧ LIn rqCf w' q l) := Lib.hid (fun w' hb => ⟨HGi.out.later hb, HLq.out.later hb⟩)
 have a0 : W7.cell? ⟨w.heap.size, 0, none⟩ = some (.int .i64 g.now) := HBo7.out.1.cell 0
 have a1 : W7.cell? ⟨w.heap.size, 1, none⟩ = some (.slice h.wp h.wn h.wc) := HBo7.out.1.cell 1
 have a2 : W7.cell? ⟨w.heap.size, 2, none⟩ = some (.slice h.kp h.kn h.kc) := HBo7.out.1.cell 2
 have a3 : W7.cell? ⟨w.heap.size, 3, none⟩ = some (.slice h.dp h.dn h.dc) := HBo7.out.1.cell 3
 go_wp2_with fail
 rw [← HE.out]
 refine (toGrant_any h g _ (HIn.out _ HBo7.out.2).1 HSm.out).mono ?_
 rintro e U1 ⟨h8, rfl, hn8, hb⟩
 have HBoA := Lib.hid (HBo7.out.later hb HBo7.out.size)
 have HN8 := Lib.hid hn8
 have hz7 := HBo7.out.size
 have hzA := hb.size
 clear hn8 hb a0 a1 a2 a3
 go_wp2_with fail
 refine (HTq.out _ (HIn.out _ HBoA.out.2).2).mono ?_
 rintro e U2 ⟨b8, rfl, hb8, hr8, hb⟩
 have HBoB := Lib.hid (HBoA.out.later hb HBoA.out.size)
 have HN8B := Lib.hid (HN8.out.later hb)
 have HR8B := Lib.hid (LIn.of hr8.lat)
 have hzB := hb.size
 clear hr8 hb HBoA HN8
 go_wp2_with fail
 refine (HDs.out _ h8 _ n HN8B.out.isIn (new_src HN8B.out) HR8B.out).mono ?_
 rintro e U3 ⟨k6, rfl, hown, hb⟩
 have HBoC := Lib.hid (HBoB.out.later hb HBoB.out.size)
 have hzC := hb.size
 have HE6 := Lib.hid (show goV G.now k6 s c = .agg #[.int .i64 G.now, .slice k6.wp k6.wn k6.wc, .slice k6.kp k6.kn k6.kc, .slice k6.dp k6.dn k6.dc, .int .i64 s.code, .int .i64 s.token, .int .i64 s.next, .bool s.yes, .int .i64 c] from rfl)
 rw [HE6.out]
 have hbV := (Below.refl U3.heap.size U3).alloc (Nat.le_refl _) (.cells #[.int .i64 G.now, .slice k6.wp k6.wn k6.wc, .slice k6.kp k6.kn k6.kc, .slice k6.dp k6.dn k6.dc, .int .i64 s.code, .int .i64 s.token, .int .i64 s.next, .bool s.yes, .int .i64 c] 35)
 have hrV : Row (U3.alloc (.cells #[.int .i64 G.now, .slice k6.wp k6.wn k6.wc, .slice k6.kp k6.kn k6.kc, .slice k6.dp k6.dn k6.dc, .int .i64 s.code, .int .i64 s.token, .int .i64 s.next, .bool s.yes, .int .i64 c] 35)) U3.heap.size 35 (goL G.now k6 s c) := heap_alloc_new U3 _
 obtain ⟨W8, hV⟩ : ∃ V, V = U3.alloc (.cells #[.int .i64 G.now, .slice k6.wp k6.wn k6.wc, .slice k6.kp k6.kn k6.kc, .slice k6.dp k6.dn k6.dc, .int .i64 s.code, .int .i64 s.token, .int .i64 s.next, .bool s.yes, .int .i64 c] 35) := ⟨_, rfl⟩
 obtain ⟨q6, hq6⟩ : ∃ q6, q6 = U3.heap.size := ⟨_, rfl⟩
 rw [← hV] at hbV hrV
 rw [← hq6] at hrV
 have HA6 := Lib.hid (show Ans W7.heap.size G s c W8 q6 k6 from ⟨hrV, (own3_down hown (by omega)).later hbV, by omega⟩)
 have HBo8 := Lib.hid (HBoC.out.later hbV HBoC.out.size)
 have HVe := Lib.hid hV
 have HQe := Lib.hid hq6
 have HA6B : Hid (BlkIn k6 W7.heap.size W8.heap.size) := Lib.hid (own_blk HA6.out.2.1)
 have hq6l : q6 < W8.heap.size := hrV.lt
 have hS6 : W7.heap.size ≤ W8.heap.size := by have := hbV.size; omega
 clear hown hb hbV hrV hV hq6 HBoB HN8B HR8B HBoC
 have a0 : W8.cell? ⟨w.heap.size, 0, none⟩ = some (.int .i64 g.now) := HBo8.out.1.cell 0
 have a1 : W8.cell? ⟨w.heap.size, 1, none⟩ = some (.slice h.wp h.wn h.wc) := HBo8.out.1.cell 1
 have a2 : W8.cell? ⟨w.heap.size, 2, none⟩ = some (.slice h.kp h.kn h.kc) := HBo8.out.1.cell 2
 have a3 : W8.cell? ⟨w.heap.size, 3, none⟩ = some (.slice h.dp h.dn h.dc) := HBo8.out.1.cell 3
 rw [HVe.out] at a0 a1 a2 a3
 go_wp2_with fail
 rw [← HE.out, ← HVe.out, ← HQe.out]
 clear a0 a1 a2 a3
 refine (toGrant_any h g _ (HIn.out _ HBo8.out.2).1 HSm.out).mono ?_
 rintro e W9 ⟨h7, rfl, hn7, hb⟩
 have HBo9 := Lib.hid (HBo8.out.later hb HBo8.out.size)
 have HA69 := Lib.hid (HA6.out.later hb)
 have HN9 := Lib.hid hn7
 have hz9 := hb.size
 clear hn7 hb HBo8 HVe HQe
 have HE7 := Lib.hid (show grV g.now h7 = .agg #[.int .i64 g.now, .slice h7.wp h7.wn h7.wc, .slice h7.kp h7.kn h7.kc, .slice h7.dp h7.dn h7.dc] from rfl)
 rw [HE7.out]
 have hbV := (Below.refl W9.heap.size W9).alloc (Nat.le_refl _) (.cells #[.int .i64 g.now, .slice h7.wp h7.wn h7.wc, .slice h7.kp h7.kn h7.kc, .slice h7.dp h7.dn h7.dc] 27)
 have hrV : Row (W9.alloc (.cells #[.int .i64 g.now, .slice h7.wp h7.wn h7.wc, .slice h7.kp h7.kn h7.kc, .slice h7.dp h7.dn h7.dc] 27)) W9.heap.size 27 (grL g.now h7) := heap_alloc_new W9 _
 obtain ⟨V, hV⟩ : ∃ V, V = W9.alloc (.cells #[.int .i64 g.now, .slice h7.wp h7.wn h7.wc, .slice h7.kp h7.kn h7.kc, .slice h7.dp h7.dn h7.dc] 27) := ⟨_, rfl⟩
 obtain ⟨q7, hq7⟩ : ∃ q7, q7 = W9.heap.size := ⟨_, rfl⟩
 rw [← hV] at hbV hrV
 rw [← hq7] at hrV
 have HBoV := Lib.hid (HBo9.out.later hbV HBo9.out.size)
 have HA6V := Lib.hid (HA69.out.later hbV)
 have HNV := Lib.hid (HN9.out.later hbV)
 have HX7 := Lib.hid hrV
 have HVe := Lib.hid hV
 have HQe := Lib.hid hq7
 have hzV := hbV.size
 have HBk7 : Hid (BlkIn h7 W8.heap.size V.heap.size) := Lib.hid (fun j hj => by have := new_blk HN9.out j hj; omega)
 clear hbV hrV hV hq7 HBo9 HA69 HN9 HA6
 go_wp2_with fail
 rw [← HVe.out, ← HQe.out]
 clear HVe HQe
 refine (HTq.out _ (HIn.out _ HBoV.out.2).2).mono ?_
 rintro e X1 ⟨b1, rfl, hb1l, hr1, hb⟩
 have HBoX1 := Lib.hid (HBoV.out.later hb HBoV.out.size)
 have HA6X1 := Lib.hid (HA6V.out.later hb)
 have HX7X1 := Lib.hid (HX7.out.below hb HX7.out.lt)
 have HNX1 := Lib.hid (HNV.out.later hb)
 have HRq := Lib.hid hr1
 have hb1u : b1 < X1.heap.size := hr1.lt
 have hzX1 := hb.size
 clear hr1 hb HBoV HA6V HX7 HNV
 have x0 : X1.cell? ⟨q7, 0, none⟩ = some (.int .i64 g.now) := HX7X1.out.cell 0
 have x1 : X1.cell? ⟨q7, 1, none⟩ = some (.slice h7.wp h7.wn h7.wc) := HX7X1.out.cell 1
 have x2 : X1.cell? ⟨q7, 2, none⟩ = some (.slice h7.kp h7.kn h7.kc) := HX7X1.out.cell 2
 have x3 : X1.cell? ⟨q7, 3, none⟩ = some (.slice h7.dp h7.dn h7.dc) := HX7X1.out.cell 3
 go_wp2_with fail
 rw [← HE7.out]
 refine (HDi.out _ h7 _ n HNX1.out.isIn (LIn.of HRq.out.lat)).mono ?_
 rintro e X2 ⟨k8, rfl, hown, hb⟩
 have HE8 := Lib.hid (show goV G.now k8 s c = .agg #[.int .i64 G.now, .slice k8.wp k8.wn k8.wc, .slice k8.kp k8.kn k8.kc, .slice k8.dp k8.dn k8.dc, .int .i64 s.code, .int .i64 s.token, .int .i64 s.next, .bool s.yes, .int .i64 c] from rfl)
 rw [HE8.out]
 have hbV := (Below.refl X2.heap.size X2).alloc (Nat.le_refl _) (.cells #[.int .i64 G.now, .slice k8.wp k8.wn k8.wc, .slice k8.kp k8.kn k8.kc, .slice k8.dp k8.dn k8.dc, .int .i64 s.code, .int .i64 s.token, .int .i64 s.next, .bool s.yes, .int .i64 c] 35)
 have hrV : Row (X2.alloc (.cells #[.int .i64 G.now, .slice k8.wp k8.wn k8.wc, .slice k8.kp k8.kn k8.kc, .slice k8.dp k8.dn k8.dc, .int .i64 s.code, .int .i64 s.token, .int .i64 s.next, .bool s.yes, .int .i64 c] 35)) X2.heap.size 35 (goL G.now k8 s c) := heap_alloc_new X2 _
 obtain ⟨X, hV⟩ : ∃ V, V = X2.alloc (.cells #[.int .i64 G.now, .slice k8.wp k8.wn k8.wc, .slice k8.kp k8.kn k8.kc, .slice k8.dp k8.dn k8.dc, .int .i64 s.code, .int .i64 s.token, .int .i64 s.next, .bool s.yes, .int .i64 c] 35) := ⟨_, rfl⟩
 obtain ⟨q8, hq8⟩ : ∃ q8, q8 = X2.heap.size := ⟨_, rfl⟩
 rw [← hV] at hbV hrV
 rw [← hq8] at hrV
 have hzX2 := hb.size
 have HA8X := Lib.hid (show Ans X1.heap.size G s c X q8 k8 from ⟨hrV, hown.later hbV, by omega⟩)
 have hbb : Below X1.heap.size X1 X := hb.trans (hbV.mono hb.size)
 have HBoX := Lib.hid (HBoX1.out.later hbb HBoX1.out.size)
 have HA6X := Lib.hid (HA6X1.out.later hbb)
 have HX7X := Lib.hid (HX7X1.out.below hbb HX7X1.out.lt)
 have HNX := Lib.hid (HNX1.out.later hbb)
 have HRqX := Lib.hid (HRq.out.below hbb hb1u)
 have HVe := Lib.hid hV
 have HQe := Lib.hid hq8
 have HBk8 : Hid (BlkIn k8 X1.heap.size X.heap.size) := Lib.hid (own_blk HA8X.out.2.1)
 have hzX := hbb.size
 have hq8l : X1.heap.size ≤ q8 := HA8X.out.2.2
 clear hown hb hbV hrV hV hq8 hbb HBoX1 HA6X1 HX7X1 HNX1 HRq x0 x1 x2 x3
 have c0 : X.cell? ⟨q8, 0, none⟩ = some (.int .i64 G.now) := HA8X.out.1.cell 0
 have c1 : X.cell? ⟨q8, 1, none⟩ = some (.slice k8.wp k8.wn k8.wc) := HA8X.out.1.cell 1
 have c2 : X.cell? ⟨q8, 2, none⟩ = some (.slice k8.kp k8.kn k8.kc) := HA8X.out.1.cell 2
 have c3 : X.cell? ⟨q8, 3, none⟩ = some (.slice k8.dp k8.dn k8.dc) := HA8X.out.1.cell 3
 have c4 : X.cell? ⟨q8, 4, none⟩ = some (.int .i64 s.code) := HA8X.out.1.cell 4
 have c5 : X.cell? ⟨q8, 5, none⟩ = some (.int .i64 s.token) := HA8X.out.1.cell 5
 have c6 : X.cell? ⟨q8, 6, none⟩ = some (.int .i64 s.next) := HA8X.out.1.cell 6
 have c7 : X.cell? ⟨q8, 7, none⟩ = some (.bool s.yes) := HA8X.out.1.cell 7
 have c8 : X.cell? ⟨q8, 8, none⟩ = some (.int .i64 c) := HA8X.out.1.cell 8
 have d0 : X.cell? ⟨q6, 0, none⟩ = some (.int .i64 G.now) := HA6X.out.1.cell 0
 have d1 : X.cell? ⟨q6, 1, none⟩ = some (.slice k6.wp k6.wn k6.wc) := HA6X.out.1.cell 1
 have d2 : X.cell? ⟨q6, 2, none⟩ = some (.slice k6.kp k6.kn k6.kc) := HA6X.out.1.cell 2
 have d3 : X.cell? ⟨q6, 3, none⟩ = some (.slice k6.dp k6.dn k6.dc) := HA6X.out.1.cell 3
 have d4 : X.cell? ⟨q6, 4, none⟩ = some (.int .i64 s.code) := HA6X.out.1.cell 4
 have d5 : X.cell? ⟨q6, 5, none⟩ = some (.int .i64 s.token) := HA6X.out.1.cell 5
 have d6 : X.cell? ⟨q6, 6, none⟩ = some (.int .i64 s.next) := HA6X.out.1.cell 6
 have d7 : X.cell? ⟨q6, 7, none⟩ = some (.bool s.yes) := HA6X.out.1.cell 7
 have d8 : X.cell? ⟨q6, 8, none⟩ = some (.int .i64 c) := HA6X.out.1.cell 8
 rw [HVe.out] at c0 c1 c2 c3 c4 c5 c6 c7 c8 d0 d1 d2 d3 d4 d5 d6 d7 d8
 rw [HQe.out] at c0 c1 c2 c3 c4 c5 c6 c7 c8
 go_wp2_with fail
 rw [← HE8.out, ← HE6.out, ← HVe.out, ← HQe.out]
 clear c0 c1 c2 c3 c4 c5 c6 c7 c8 d0 d1 d2 d3 d4 d5 d6 d7 d8 HVe HQe
 refine (eqGO_same k8 k6 G s c _ (own_isIn HA8X.out.2.1) (own_isIn HA6X.out.2.1) HSG.out).mono ?_
 rintro e Y ⟨rfl, hb⟩
 have HBoY := Lib.hid (HBoX.out.later hb HBoX.out.size)
 have HA6Y := Lib.hid (HA6X.out.later hb)
 have HA8Y := Lib.hid (HA8X.out.later hb)
 have HX7Y := Lib.hid (HX7X.out.below hb HX7X.out.lt)
 have HNY := Lib.hid (HNX.out.later hb)
 have HRqY := Lib.hid (HRqX.out.below hb HRqX.out.lt)
 have hzY := hb.size
 clear hb HBoX HA6X HA8X HX7X HNX HRqX
 go_upto_region 14 with fail
 have HK9 : Hid (∀ w', Below Y.heap.size Y w' → w'.cell? ⟨q7, 0, none⟩ = some (.int .i64 g.now) ∧ w'.cell? ⟨q7, 1, none⟩ = some (.slice h7.wp h7.wn h7.wc) ∧ w'.cell? ⟨q7, 2, none⟩ = some (.slice h7.kp h7.kn h7.kc) ∧ w'.cell? ⟨q7, 3, none⟩ = some (.slice h7.dp h7.dn h7.dc) ∧ w'.cell? ⟨w.heap.size, 0, none⟩ = some (.int .i64 g.now) ∧ w'.cell? ⟨w.heap.size, 1, none⟩ = some (.slice h.wp h.wn h.wc) ∧ w'.cell? ⟨w.heap.size, 2, none⟩ = some (.slice h.kp h.kn h.kc) ∧ w'.cell? ⟨w.heap.size, 3, none⟩ = some (.slice h.dp h.dn h.dc)) := Lib.hid (fun w' hb => by
  have k := HBoY.out.later hb HBoY.out.size
  have x := HX7Y.out.below hb HX7Y.out.lt
  exact ⟨x.cell 0, x.cell 1, x.cell 2, x.cell 3, k.1.cell 0, k.1.cell 1, k.1.cell 2, k.1.cell 3⟩)
 have HB0 := Lib.hid ((Below.refl Y.heap.size Y).drew)
 refine region_L 2 (fun _ => True) (fun w' => w'.cell? ⟨q7, 0, none⟩ = some (.int .i64 g.now) ∧ w'.cell? ⟨q7, 1, none⟩ = some (.slice h7.wp h7.wn h7.wc) ∧ w'.cell? ⟨q7, 2, none⟩ = some (.slice h7.kp h7.kn h7.kc) ∧ w'.cell? ⟨q7, 3, none⟩ = some (.slice h7.dp h7.dn h7.dc) ∧ w'.cell? ⟨w.heap.size, 0, none⟩ = some (.int .i64 g.now) ∧ w'.cell? ⟨w.heap.size, 1, none⟩ = some (.slice h.wp h.wn h.wc) ∧ w'.cell? ⟨w.heap.size, 2, none⟩ = some (.slice h.kp h.kn h.kc) ∧ w'.cell? ⟨w.heap.size, 3, none⟩ = some (.slice h.dp h.dn h.dc)) (by kernel_rfl) ⟨fun _ => trivial, HK9.out _ HB0.out⟩ (fun hHL => ?_)
 refine wpAnyL_take (i := 0) (v := ?_) (by rfl) rfl (by kernel_rfl) (by kernel_rfl) (by kernel_rfl) (fun _ _ _ h => h) (Or.inl ⟨by rfl, ?_⟩) hHL ?_
 rotate_left
 ·intro w hSw; (try dsimp only at hSw); (first | (go_simp; done) | (go_simp; with_reducible rfl))
 clear hHL
 intro hHL
 (try simp only [Act.put, List.setIfInBounds_toArray, List.set_cons_zero, List.set_cons_succ])
 refine wpAnyL_take (i := 1) (v := ?_) (by rfl) rfl (by kernel_rfl) (by kernel_rfl) (by kernel_rfl) (fun _ _ _ h => h) (Or.inl ⟨by rfl, ?_⟩) hHL ?_
 rotate_left
 ·intro w hSw; (try dsimp only at hSw); (first | (go_simp; done) | (go_simp; with_reducible rfl))
 clear hHL
 intro hHL
 (try simp only [Act.put, List.setIfInBounds_toArray, List.set_cons_zero, List.set_cons_succ])
 refine wpAnyL_ready (rs := [2]) (by kernel_rfl) (by simp) ?_
 refine AllReadyL.cons rfl (fun K hK => ?_) AllReadyL.nil
 refine step_callE rfl 55 #[grV g.now h] (by kernel_rfl) (fun x => grV g.now x) (fun x w' => GrNew Y.drew w' x g ∧ Below Y.drew.heap.size Y.drew w') (toGrant_any h g _ (HIn.out _ (HBoY.out.later HB0.out HBoY.out.size).2).1 HSm.out) ?_
 intro hx u1 hn
 have HNu := Lib.hid hn.1
 have HB1 := Lib.hid (HB0.out.trans (hn.2.mono HB0.out.size))
 clear hn
 refine hK.out _ _ ⟨fun _ => trivial, HK9.out _ HB1.out⟩ (fun hHL => ?_)
 clear hK K
 (try simp only [Act.put, List.setIfInBounds_toArray, List.set_cons_zero, List.set_cons_succ])
 refine wpAnyL_ready (rs := [3]) (by kernel_rfl) (by simp) ?_
 refine AllReadyL.cons rfl (fun K hK => ?_) AllReadyL.nil
 refine step_callTo rfl 58 #[grV g.now h7, grV g.now hx] (by kernel_rfl) (.bool true) (fun w' => Below u1.heap.size u1 w') (eqGrant_same h7 hx g _ (HNY.out.isIn.later HB1.out) HNu.out.isIn HSm.out) ?_
 intro u2 hn
 have HB2 := Lib.hid (HB1.out.trans (hn.mono HB1.out.size))
 clear hn
 refine hK.out _ _ ⟨fun _ => trivial, HK9.out _ HB2.out⟩ (fun hHL => ?_)
 clear hK K
 (try simp only [Act.put, List.setIfInBounds_toArray, List.set_cons_zero, List.set_cons_succ])
 refine wpAnyL_take (i := 4) (v := ?_) (by rfl) rfl (by kernel_rfl) (by kernel_rfl) (by kernel_rfl) (fun _ _ _ h => h) (Or.inl ⟨by rfl, ?_⟩) hHL ?_
 rotate_left
 ·intro w hSw; (try dsimp only at hSw); (first | (go_simp; done) | (go_simp; with_reducible rfl))
 clear hHL
 intro hHL
 (try simp only [Act.put, List.setIfInBounds_toArray, List.set_cons_zero, List.set_cons_succ])
 refine wpAnyL_done (by kernel_rfl) ?_ _
 have hb := HB2.out
 have HBoP := Lib.hid (HBoY.out.later hb HBoY.out.size)
 have HA6P := Lib.hid (HA6Y.out.later hb)
 have HA8P := Lib.hid (HA8Y.out.later hb)
 have HX7P := Lib.hid (HX7Y.out.below hb HX7Y.out.lt)
 have HNP := Lib.hid (HNY.out.later hb)
 have HRqP := Lib.hid (HRqY.out.below hb HRqY.out.lt)
 have hzP := hb.size
 clear hb hHL HB0 HB1 HB2 HNu HK9 HBoY HA6Y HA8Y HX7Y HNY HRqY
 go_wp2_with fail
 refine (HTq.out _ (HIn.out _ HBoP.out.2).2).mono ?_
 rintro e u3 ⟨b16, rfl, _, hr16, hb⟩
 have HBoQ := Lib.hid (HBoP.out.later hb HBoP.out.size)
 have HA6Q := Lib.hid (HA6P.out.later hb)
 have HA8Q := Lib.hid (HA8P.out.later hb)
 have HX7Q := Lib.hid (HX7P.out.below hb HX7P.out.lt)
 have HNQ := Lib.hid (HNP.out.later hb)
 have HRqQ := Lib.hid (HRqP.out.below hb HRqP.out.lt)
 have HR16 := Lib.hid (LIn.of hr16.lat)
 have hzQ := hb.size
 clear hb hr16 HBoP HA6P HA8P HX7P HNP HRqP
 go_wp2_with fail
 rw [HN.out]
 refine (eqReqS_same (some ⟨b1, 0, none⟩) (some ⟨b16, 0, none⟩) l.length l.length l _ (LIn.of HRqQ.out.lat) HR16.out HLm.out).mono ?_
 rw [← HN.out]
 rintro e Z ⟨rfl, hb⟩
 have HBoZ := Lib.hid (HBoQ.out.later hb HBoQ.out.size)
 have HA6Z := Lib.hid (HA6Q.out.later hb)
 have HA8Z := Lib.hid (HA8Q.out.later hb)
 have HX7Z := Lib.hid (HX7Q.out.below hb HX7Q.out.lt)
 have HNZ := Lib.hid (HNQ.out.later hb)
 have HRqZ := Lib.hid (HRqQ.out.below hb HRqQ.out.lt)
 have hzZ := hb.size
 clear hb HBoQ HA6Q HA8Q HX7Q HNQ HRqQ HR16
 have x0 : Z.cell? ⟨q7, 0, none⟩ = some (.int .i64 g.now) := HX7Z.out.cell 0
 have x1 : Z.cell? ⟨q7, 1, none⟩ = some (.slice h7.wp h7.wn h7.wc) := HX7Z.out.cell 1
 have x2 : Z.cell? ⟨q7, 2, none⟩ = some (.slice h7.kp h7.kn h7.kc) := HX7Z.out.cell 2
 have x3 : Z.cell? ⟨q7, 3, none⟩ = some (.slice h7.dp h7.dn h7.dc) := HX7Z.out.cell 3
 go_wp2_with fail
 rw [← HE7.out]
 have hw7 : h7.wn = g.words.length ∧ h7.kn = g.keys.length ∧ h7.dn = g.dead.length := HNZ.out.isIn.1
 have hend7 : end3 h7 1 < 20000000 ∧ 1 ≤ end3 h7 1 := by
  have := HSm.out
  unfold GrSmall at this
  unfold end3
  omega
 clear hw7
 refine (markGrant_any h7 g.now 1 _ (by omega) (by omega) (new_lst HNZ.out) (new_apart HNZ.out)).mono ?_
 rintro e M0 ⟨rfl, _, ho⟩
 have fr7 : ∀ j, InB h7 j → W8.heap.size ≤ j ∧ j < V.heap.size := fun j hj => HBk7.out j hj
 have HBoM := Lib.hid (HBoZ.out.later (ho.below (B := W8.heap.size) (by omega) (fun j hj => (fr7 j hj).1)) (by omega))
 have HA6M := Lib.hid (HA6Z.out.out ho (fun hj => by have := fr7 _ hj; omega) (fun j hj hj' => by have := fr7 _ hj'; have := HA6B.out j hj; omega))
 have HA8M := Lib.hid (HA8Z.out.out ho (fun hj => by have := fr7 _ hj; omega) (fun j hj hj' => by have := fr7 _ hj'; have := HBk8.out j hj; omega))
 have HRqM := Lib.hid (ho.row HRqZ.out (fun hj => by have := fr7 _ hj; omega))
 have hzM := ho.2.2.2.1
 clear ho fr7 HBoZ HA6Z HA8Z HX7Z HNZ HRqZ x0 x1 x2 x3
 go_wp2_with fail
 refine (markReqS_any b1 n n (end3 h7 1) _ hend7.2 (by omega) HRqM.out (by rw [flat_len rqCf_len, HN.out])).mono ?_
 rintro e M1 ⟨rfl, ho⟩
 have HBoN0 := Lib.hid (HBoM.out.later (ho.below (B := W8.heap.size) (by omega) (fun j hj => by have := solo_in hj; omega)) (by omega))
 have HA6N0 := Lib.hid (HA6M.out.out ho (fun hj => by have := solo_in hj; omega) (fun j hj hj' => by have := solo_in hj'; have := HA6B.out j hj; omega))
 have HA8N0 := Lib.hid (HA8M.out.out ho (fun hj => by have := solo_in hj; omega) (fun j hj hj' => by have := solo_in hj'; have := HBk8.out j hj; omega))
 have hzN0 := ho.2.2.2.1
 have hneg7 : ¬ (((end3 h7 1 + 7 * n : Nat) : Int) < 0) := by omega
 clear ho HBoM HA6M HA8M HRqM
 have c0 : M1.cell? ⟨q8, 0, none⟩ = some (.int .i64 G.now) := HA8N0.out.1.cell 0
 have c1 : M1.cell? ⟨q8, 1, none⟩ = some (.slice k8.wp k8.wn k8.wc) := HA8N0.out.1.cell 1
 have c2 : M1.cell? ⟨q8, 2, none⟩ = some (.slice k8.kp k8.kn k8.kc) := HA8N0.out.1.cell 2
 have c3 : M1.cell? ⟨q8, 3, none⟩ = some (.slice k8.dp k8.dn k8.dc) := HA8N0.out.1.cell 3
 have c4 : M1.cell? ⟨q8, 4, none⟩ = some (.int .i64 s.code) := HA8N0.out.1.cell 4
 have c5 : M1.cell? ⟨q8, 5, none⟩ = some (.int .i64 s.token) := HA8N0.out.1.cell 5
 have c6 : M1.cell? ⟨q8, 6, none⟩ = some (.int .i64 s.next) := HA8N0.out.1.cell 6
 have c7 : M1.cell? ⟨q8, 7, none⟩ = some (.bool s.yes) := HA8N0.out.1.cell 7
 have c8 : M1.cell? ⟨q8, 8, none⟩ = some (.int .i64 c) := HA8N0.out.1.cell 8
 have d0 : M1.cell? ⟨q6, 0, none⟩ = some (.int .i64 G.now) := HA6N0.out.1.cell 0
 have d1 : M1.cell? ⟨q6, 1, none⟩ = some (.slice k6.wp k6.wn k6.wc) := HA6N0.out.1.cell 1
 have d2 : M1.cell? ⟨q6, 2, none⟩ = some (.slice k6.kp k6.kn k6.kc) := HA6N0.out.1.cell 2
 have d3 : M1.cell? ⟨q6, 3, none⟩ = some (.slice k6.dp k6.dn k6.dc) := HA6N0.out.1.cell 3
 have d4 : M1.cell? ⟨q6, 4, none⟩ = some (.int .i64 s.code) := HA6N0.out.1.cell 4
 have d5 : M1.cell? ⟨q6, 5, none⟩ = some (.int .i64 s.token) := HA6N0.out.1.cell 5
 have d6 : M1.cell? ⟨q6, 6, none⟩ = some (.int .i64 s.next) := HA6N0.out.1.cell 6
 have d7 : M1.cell? ⟨q6, 7, none⟩ = some (.bool s.yes) := HA6N0.out.1.cell 7
 have d8 : M1.cell? ⟨q6, 8, none⟩ = some (.int .i64 c) := HA6N0.out.1.cell 8
 go_wp2_with fail
 rw [← HE8.out, ← HE6.out]
 refine (eqGO_same k8 k6 G s c _ (own_isIn HA8N0.out.2.1) (own_isIn HA6N0.out.2.1) HSG.out).mono ?_
 rintro e M2 ⟨rfl, hb⟩
 have HBoN := Lib.hid (HBoN0.out.later hb HBoN0.out.size)
 have HA6N := Lib.hid (HA6N0.out.later hb)
 have HA8N := Lib.hid (HA8N0.out.later hb)
 have hzN := hb.size
 clear hb HBoN0 HA6N0 HA8N0 c0 c1 c2 c3 c4 c5 c6 c7 c8 d0 d1 d2 d3 d4 d5 d6 d7 d8
 have c0 : M2.cell? ⟨q8, 0, none⟩ = some (.int .i64 G.now) := HA8N.out.1.cell 0
 have c1 : M2.cell? ⟨q8, 1, none⟩ = some (.slice k8.wp k8.wn k8.wc) := HA8N.out.1.cell 1
 have c2 : M2.cell? ⟨q8, 2, none⟩ = some (.slice k8.kp k8.kn k8.kc) := HA8N.out.1.cell 2
 have c3 : M2.cell? ⟨q8, 3, none⟩ = some (.slice k8.dp k8.dn k8.dc) := HA8N.out.1.cell 3
 have c4 : M2.cell? ⟨q8, 4, none⟩ = some (.int .i64 s.code) := HA8N.out.1.cell 4
 have c5 : M2.cell? ⟨q8, 5, none⟩ = some (.int .i64 s.token) := HA8N.out.1.cell 5
 have c6 : M2.cell? ⟨q8, 6, none⟩ = some (.int .i64 s.next) := HA8N.out.1.cell 6
 have c7 : M2.cell? ⟨q8, 7, none⟩ = some (.bool s.yes) := HA8N.out.1.cell 7
 have c8 : M2.cell? ⟨q8, 8, none⟩ = some (.int .i64 c) := HA8N.out.1.cell 8
 go_wp2_with fail
 rw [← HE8.out]
 have hw8 : k8.wn = G.words.length ∧ k8.kn = G.keys.length ∧ k8.dn = G.dead.length := (own_isIn HA8N.out.2.1).1
 have hend8 : end3 k8 1 < 100000000 := by
  have := HSG.out
  unfold GrSmall at this
  unfold end3
  omega
 clear hw8
 refine (markGO_any k8 G.now s c 1 _ (by omega) hend8 (own_lst3 HA8N.out.2.1) (own_apart3 HA8N.out.2.1)).mono ?_
 rintro e M3 ⟨rfl, hm3, ho⟩
 have fr8 : ∀ j, InB k8 j → X1.heap.size ≤ j ∧ j < X.heap.size := fun j hj => HBk8.out j hj
 have HBoO := Lib.hid (HBoN.out.later (ho.below (B := X1.heap.size) (by omega) (fun j hj => (fr8 j hj).1)) (by omega))
 have HA6O := Lib.hid (HA6N.out.out ho (fun hj => by have := fr8 _ hj; omega) (fun j hj hj' => by have := fr8 _ hj'; have := HA6B.out j hj; omega))
 have HR8O := Lib.hid (ho.row HA8N.out.1 HA8N.out.free)
 have HMkO := Lib.hid hm3
 have hneg8 : ¬ (((end3 k8 1 : Nat) : Int) < 0) := by omega
 have heq8 : (((end3 k8 1 : Nat) : Int) != ((end3 k8 1 : Nat) : Int)) = false := by simp
 clear ho fr8 hm3 HBoN HA6N HA8N c0 c1 c2 c3 c4 c5 c6 c7 c8
 have c0 : M3.cell? ⟨q8, 0, none⟩ = some (.int .i64 G.now) := HR8O.out.cell 0
 have c1 : M3.cell? ⟨q8, 1, none⟩ = some (.slice k8.wp k8.wn k8.wc) := HR8O.out.cell 1
 have c2 : M3.cell? ⟨q8, 2, none⟩ = some (.slice k8.kp k8.kn k8.kc) := HR8O.out.cell 2
 have c3 : M3.cell? ⟨q8, 3, none⟩ = some (.slice k8.dp k8.dn k8.dc) := HR8O.out.cell 3
 have c4 : M3.cell? ⟨q8, 4, none⟩ = some (.int .i64 s.code) := HR8O.out.cell 4
 have c5 : M3.cell? ⟨q8, 5, none⟩ = some (.int .i64 s.token) := HR8O.out.cell 5
 have c6 : M3.cell? ⟨q8, 6, none⟩ = some (.int .i64 s.next) := HR8O.out.cell 6
 have c7 : M3.cell? ⟨q8, 7, none⟩ = some (.bool s.yes) := HR8O.out.cell 7
 have c8 : M3.cell? ⟨q8, 8, none⟩ = some (.int .i64 c) := HR8O.out.cell 8
 go_wp2_with fail
 rw [← HE8.out]
 refine (heldGO_any k8 G.now s c 1 _ (by omega) hend8 HMkO.out).mono ?_
 rintro e M4 ⟨rfl, hb⟩
 have HBoR := Lib.hid (HBoO.out.later hb HBoO.out.size)
 have HA6R := Lib.hid (HA6O.out.later hb)
 have HR8R := Lib.hid (HR8O.out.below hb HR8O.out.lt)
 have HMkR := Lib.hid (HMkO.out.below hb)
 clear hb HBoO HA6O HR8O HMkO c0 c1 c2 c3 c4 c5 c6 c7 c8
 have a0 : M4.cell? ⟨w.heap.size, 0, none⟩ = some (.int .i64 g.now) := HBoR.out.1.cell 0
 have a1 : M4.cell? ⟨w.heap.size, 1, none⟩ = some (.slice h.wp h.wn h.wc) := HBoR.out.1.cell 1
 have a2 : M4.cell? ⟨w.heap.size, 2, none⟩ = some (.slice h.kp h.kn h.kc) := HBoR.out.1.cell 2
 have a3 : M4.cell? ⟨w.heap.size, 3, none⟩ = some (.slice h.dp h.dn h.dc) := HBoR.out.1.cell 3
 go_wp2_with fail
 rw [← HE.out]
 refine (toGrant_any h g _ (HIn.out _ HBoR.out.2).1 HSm.out).mono ?_
 rintro e N1 ⟨h9, rfl, hn9, hb⟩
 have HB1 := Lib.hid hb
 have HN9 := Lib.hid hn9
 clear hn9 hb a0 a1 a2 a3
 go_wp2_with fail
 refine (HTq.out _ (HIn.out _ (HBoR.out.later HB1.out HBoR.out.size).2).2).mono ?_
 rintro e N2 ⟨b9, rfl, _, hr9, hb⟩
 have HB2 := Lib.hid (HB1.out.trans (hb.mono HB1.out.size))
 have HN9B := Lib.hid (HN9.out.later hb)
 have HR9 := Lib.hid (LIn.of hr9.lat)
 clear hr9 hb HB1 HN9
 go_wp2_with fail
 refine (HDi.out _ h9 _ n HN9B.out.isIn HR9.out).mono ?_
 rintro e N3 ⟨k12, rfl, hown, hb⟩
 have HE12 := Lib.hid (show goV G.now k12 s c = .agg #[.int .i64 G.now, .slice k12.wp k12.wn k12.wc, .slice k12.kp k12.kn k12.kc, .slice k12.dp k12.dn k12.dc, .int .i64 s.code, .int .i64 s.token, .int .i64 s.next, .bool s.yes, .int .i64 c] from rfl)
 rw [HE12.out]
 have hbV := (Below.refl N3.heap.size N3).alloc (Nat.le_refl _) (.cells #[.int .i64 G.now, .slice k12.wp k12.wn k12.wc, .slice k12.kp k12.kn k12.kc, .slice k12.dp k12.dn k12.dc, .int .i64 s.code, .int .i64 s.token, .int .i64 s.next, .bool s.yes, .int .i64 c] 35)
 have hrV : Row (N3.alloc (.cells #[.int .i64 G.now, .slice k12.wp k12.wn k12.wc, .slice k12.kp k12.kn k12.kc, .slice k12.dp k12.dn k12.dc, .int .i64 s.code, .int .i64 s.token, .int .i64 s.next, .bool s.yes, .int .i64 c] 35)) N3.heap.size 35 (goL G.now k12 s c) := heap_alloc_new N3 _
 obtain ⟨S, hV⟩ : ∃ V, V = N3.alloc (.cells #[.int .i64 G.now, .slice k12.wp k12.wn k12.wc, .slice k12.kp k12.kn k12.kc, .slice k12.dp k12.dn k12.dc, .int .i64 s.code, .int .i64 s.token, .int .i64 s.next, .bool s.yes, .int .i64 c] 35) := ⟨_, rfl⟩
 obtain ⟨q12, hq12⟩ : ∃ q12, q12 = N3.heap.size := ⟨_, rfl⟩
 rw [← hV] at hbV hrV
 rw [← hq12] at hrV
 have hbb : Below M4.heap.size M4 S := (HB2.out.trans (hb.mono HB2.out.size)).trans (hbV.mono (by have := HB2.out.size; have := hb.size; omega))
 have HI12 := Lib.hid (own_isIn (hown.later hbV))
 have HR12 := Lib.hid hrV
 have HBoS := Lib.hid (HBoR.out.later hbb HBoR.out.size)
 have HA6S := Lib.hid (HA6R.out.later hbb)
 have HR8S := Lib.hid (HR8R.out.below hbb HR8R.out.lt)
 have HMkS := Lib.hid (HMkR.out.below hbb)
 have HVe := Lib.hid hV
 have HQe := Lib.hid hq12
 clear hown hb hbV hrV hV hq12 hbb HBoR HA6R HR8R HMkR HB2 HN9B HR9
 have c0 : S.cell? ⟨q12, 0, none⟩ = some (.int .i64 G.now) := HR12.out.cell 0
 have c1 : S.cell? ⟨q12, 1, none⟩ = some (.slice k12.wp k12.wn k12.wc) := HR12.out.cell 1
 have c2 : S.cell? ⟨q12, 2, none⟩ = some (.slice k12.kp k12.kn k12.kc) := HR12.out.cell 2
 have c3 : S.cell? ⟨q12, 3, none⟩ = some (.slice k12.dp k12.dn k12.dc) := HR12.out.cell 3
 have c4 : S.cell? ⟨q12, 4, none⟩ = some (.int .i64 s.code) := HR12.out.cell 4
 have c5 : S.cell? ⟨q12, 5, none⟩ = some (.int .i64 s.token) := HR12.out.cell 5
 have c6 : S.cell? ⟨q12, 6, none⟩ = some (.int .i64 s.next) := HR12.out.cell 6
 have c7 : S.cell? ⟨q12, 7, none⟩ = some (.bool s.yes) := HR12.out.cell 7
 have c8 : S.cell? ⟨q12, 8, none⟩ = some (.int .i64 c) := HR12.out.cell 8
 have d0 : S.cell? ⟨q6, 0, none⟩ = some (.int .i64 G.now) := HA6S.out.1.cell 0
 have d1 : S.cell? ⟨q6, 1, none⟩ = some (.slice k6.wp k6.wn k6.wc) := HA6S.out.1.cell 1
 have d2 : S.cell? ⟨q6, 2, none⟩ = some (.slice k6.kp k6.kn k6.kc) := HA6S.out.1.cell 2
 have d3 : S.cell? ⟨q6, 3, none⟩ = some (.slice k6.dp k6.dn k6.dc) := HA6S.out.1.cell 3
 have d4 : S.cell? ⟨q6, 4, none⟩ = some (.int .i64 s.code) := HA6S.out.1.cell 4
 have d5 : S.cell? ⟨q6, 5, none⟩ = some (.int .i64 s.token) := HA6S.out.1.cell 5
 have d6 : S.cell? ⟨q6, 6, none⟩ = some (.int .i64 s.next) := HA6S.out.1.cell 6
 have d7 : S.cell? ⟨q6, 7, none⟩ = some (.bool s.yes) := HA6S.out.1.cell 7
 have d8 : S.cell? ⟨q6, 8, none⟩ = some (.int .i64 c) := HA6S.out.1.cell 8
 rw [HVe.out] at c0 c1 c2 c3 c4 c5 c6 c7 c8 d0 d1 d2 d3 d4 d5 d6 d7 d8
 rw [HQe.out] at c0 c1 c2 c3 c4 c5 c6 c7 c8
 go_wp2_with fail
 rw [← HE12.out, ← HE6.out, ← HVe.out]
 clear c0 c1 c2 c3 c4 c5 c6 c7 c8 d0 d1 d2 d3 d4 d5 d6 d7 d8
 refine (eqGO_same k12 k6 G s c _ HI12.out (own_isIn HA6S.out.2.1) HSG.out).mono ?_
 rintro e S2 ⟨rfl, hb⟩
 have HBoT := Lib.hid (HBoS.out.later hb HBoS.out.size)
 have HR8T := Lib.hid (HR8S.out.below hb HR8S.out.lt)
 have HMkT := Lib.hid (HMkS.out.below hb)
 clear hb HBoS HA6S HR8S HMkS HI12 HR12
 have c0 : S2.cell? ⟨q8, 0, none⟩ = some (.int .i64 G.now) := HR8T.out.cell 0
 have c1 : S2.cell? ⟨q8, 1, none⟩ = some (.slice k8.wp k8.wn k8.wc) := HR8T.out.cell 1
 have c2 : S2.cell? ⟨q8, 2, none⟩ = some (.slice k8.kp k8.kn k8.kc) := HR8T.out.cell 2
 have c3 : S2.cell? ⟨q8, 3, none⟩ = some (.slice k8.dp k8.dn k8.dc) := HR8T.out.cell 3
 have c4 : S2.cell? ⟨q8, 4, none⟩ = some (.int .i64 s.code) := HR8T.out.cell 4
 have c5 : S2.cell? ⟨q8, 5, none⟩ = some (.int .i64 s.token) := HR8T.out.cell 5
 have c6 : S2.cell? ⟨q8, 6, none⟩ = some (.int .i64 s.next) := HR8T.out.cell 6
 have c7 : S2.cell? ⟨q8, 7, none⟩ = some (.bool s.yes) := HR8T.out.cell 7
 have c8 : S2.cell? ⟨q8, 8, none⟩ = some (.int .i64 c) := HR8T.out.cell 8
 go_wp2_with fail
 rw [← HE8.out]
 refine (heldGO_any k8 G.now s c 1 _ (by omega) hend8 HMkT.out).mono ?_
 rintro e S3 ⟨rfl, hb⟩
 have HBoU := Lib.hid (HBoT.out.later hb HBoT.out.size)
 clear hb HBoT HR8T HMkT c0 c1 c2 c3 c4 c5 c6 c7 c8
 go_wp2_with fail
 go_ret
 exact ⟨rfl, HBoU.out.2⟩
end Go.Proofs.YtchfgdiipjbgoaaGreat
