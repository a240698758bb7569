/- Opens: the model's side, whole. -/
import Derived.Test.YtgkdajlkajmdiaaGreatROpSpec
namespace Go.Proofs.YtgkdajlkajmdiaaGreat
open Go Go.RowKit Go.Lib
set_option linter.unusedVariables false

set_option maxRecDepth 100000 in
set_option maxHeartbeats 2000000 in
theorem opens_spec (g : Gr) (h : GH) (no client : Int) (w : World) (hin : GrIn w h g) (hs : GrSmall g) : Calls Tryz.prog 18 #[grV g.now h, .int .i64 no, .int .i64 client] w (Ret (.bool (opensB g no client)) w) := by
  have hb0 := (Below.refl w.heap.size w).alloc (Nat.le_refl _) (.cells #[.int .i64 g.now, .slice h.wp h.wn h.wc, .slice h.kp h.kn h.kc, .slice h.dp h.dn h.dc] 27)
  have hrow : Row (w.alloc (.cells #[.int .i64 g.now, .slice h.wp h.wn h.wc, .slice h.kp h.kn h.kc, .slice h.dp h.dn h.dc] 27)) w.heap.size 27 [.int .i64 g.now, .slice h.wp h.wn h.wc, .slice h.kp h.kn h.kc, .slice h.dp h.dn h.dc] := heap_alloc_new w _
  obtain ⟨W, hW⟩ : ∃ W, W = w.alloc (.cells #[.int .i64 g.now, .slice h.wp h.wn h.wc, .slice h.kp h.kn h.kc, .slice h.dp h.dn h.dc] 27) := ⟨_, rfl⟩
  rw [← hW] at hb0 hrow
  have HW := Lib.hid hW
  have HR := Lib.hid hrow
  have HB := Lib.hid hb0
  have hz := hb0.size
  have hgl := hrow.lt
  have HA := Lib.hid (hin.later hb0)
  have HS := Lib.hid hs
  have HE := Lib.hid (show grV g.now h = .agg #[.int .i64 g.now, .slice h.wp h.wn h.wc, .slice h.kp h.kn h.kc, .slice h.dp h.dn h.dc] from rfl)
  clear hb0 hrow hW hin hs
  rw [HE.out]
  go_enter Tryz.func18, Tryz.ntmps18
  go_wp2_with fail
  rw [← HW.out, ← HE.out]
  refine (key_ix g.now h g.keys no _ HA.out.1.2.1 HA.out.2.2.1 HS.out.2.1).mono ?_
  rintro e w1 ⟨rfl, hb1⟩
  have HB1 := Lib.hid (HB.out.trans (hb1.mono hz))
  have HR1 := Lib.hid (HR.out.below hb1 hgl)
  have HA1 := Lib.hid (HA.out.later hb1)
  have hz1 := HB1.out.size
  have hg1 := HR1.out.lt
  have a0 : w1.cell? ⟨w.heap.size, 0, none⟩ = some (.int .i64 g.now) := HR1.out.cell 0
  have a1 : w1.cell? ⟨w.heap.size, 1, none⟩ = some (.slice h.wp h.wn h.wc) := HR1.out.cell 1
  have a2 : w1.cell? ⟨w.heap.size, 2, none⟩ = some (.slice h.kp h.kn h.kc) := HR1.out.cell 2
  have a3 : w1.cell? ⟨w.heap.size, 3, none⟩ = some (.slice h.dp h.dn h.dc) := HR1.out.cell 3
  clear hb1
  cases tg : grantB g with
  | false =>
    have HG : Hid (opensB g no client = false) := Lib.hid (by simp [opensB, tg])
    have TG := Lib.hid tg
    clear tg
    go_wp2_with fail
    rw [← HE.out]
    refine (grant_spec g h _ HA1.out HS.out).mono ?_
    rw [TG.out]
    rintro e w2 ⟨rfl, hb2⟩
    have HB2 := Lib.hid (HB1.out.trans (hb2.mono hz1))
    clear hb2
    go_wp2_with fail
    go_ret
    exact ⟨by rw [HG.out]; rfl, HB2.out⟩
  | true =>
    have TG := Lib.hid tg
    clear tg
    cases tf : findK g.keys no with
    | none =>
      have HG : Hid (opensB g no client = false) := Lib.hid (by simp [opensB, opensAt, tf])
      have HI := Lib.hid (keyIx_none tf)
      clear tf
      rw [HI.out]
      go_wp2_with fail
      rw [← HE.out]
      refine (grant_spec g h _ HA1.out HS.out).mono ?_
      rw [TG.out]
      rintro e w2 ⟨rfl, hb2⟩
      have HB2 := Lib.hid (HB1.out.trans (hb2.mono hz1))
      clear hb2
      go_wp2_with fail
      go_ret
      exact ⟨by rw [HG.out]; rfl, HB2.out⟩
    | some x =>
      obtain ⟨k, hk, hx, hn⟩ := keyIx_some tf
      have HI := Lib.hid hk
      have HX := Lib.hid hx
      have HF := Lib.hid tf
      have hkl : k < h.kn := by have := (List.getElem?_eq_some_iff.1 hx).1; have := HA.out.1.2.1; omega
      have hk2 : h.kn ≤ 1048576 := by have := HS.out.2.1; have := HA.out.1.2.1; omega
      clear tf hk hx hn
      rw [HI.out]
      go_wp2_with fail
      rw [← HE.out]
      refine (grant_spec g h _ HA1.out HS.out).mono ?_
      rw [TG.out]
      rintro e w2 ⟨rfl, hb2⟩
      have HB2 := Lib.hid (HB1.out.trans (hb2.mono hz1))
      have HR2 := Lib.hid (HR1.out.below hb2 hg1)
      have HA2 := Lib.hid (HA1.out.later hb2)
      have hz2 := HB2.out.size
      clear hb2 a0 a1 a2 a3
      obtain ⟨bb, o, hp, hat⟩ := HA2.out.2.2.1.some HX.out
      obtain ⟨c0, c1, c2, c3, c4, c5⟩ := ky_cells hat HX.out
      have HP := Lib.hid hp
      have a0 : w2.cell? ⟨w.heap.size, 0, none⟩ = some (.int .i64 g.now) := HR2.out.cell 0
      have a1 : w2.cell? ⟨w.heap.size, 1, none⟩ = some (.slice h.wp h.wn h.wc) := HR2.out.cell 1
      have a2 : w2.cell? ⟨w.heap.size, 2, none⟩ = some (.slice (some ⟨bb, o, none⟩) h.kn h.kc) := by rw [← hp]; exact HR2.out.cell 2
      have a3 : w2.cell? ⟨w.heap.size, 3, none⟩ = some (.slice h.dp h.dn h.dc) := HR2.out.cell 3
      clear hp hat c0 c2 c3 c4 c5
      cases tc : x.client == client with
      | false =>
        have HG : Hid (opensB g no client = false) := Lib.hid (by simp [opensB, opensAt, HF.out, tc])
        go_wp2_with fail
        go_ret
        exact ⟨by rw [HG.out]; rfl, HB2.out⟩
      | true =>
        have HG : Hid (opensB g no client = keyOpenB g.now g.dead x) := Lib.hid (by simp [opensB, opensAt, HF.out, tc, TG.out])
        go_wp2_with fail
        rw [← HP.out, ← HE.out]
        refine (opens_at g h k x _ HA2.out HS.out HX.out).mono ?_
        rintro e w3 ⟨rfl, hb3⟩
        have HB3 := Lib.hid (HB2.out.trans (hb3.mono hz2))
        clear hb3
        go_wp2_with fail
        go_ret
        exact ⟨by rw [HG.out]; rfl, HB3.out⟩
end Go.Proofs.YtgkdajlkajmdiaaGreat
