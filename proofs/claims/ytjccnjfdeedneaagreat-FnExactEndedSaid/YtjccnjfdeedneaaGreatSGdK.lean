/- What all share: the cache's entries as they stand. What all share: a map laid over another one, by maps.Copy. What all share: a ledger of what there is. What all share: a look at it, as a ledger. -/
import Derived.Test.YtjccnjfdeedneaaGreatSSh5
import Derived.Test.YtjccnjfdeedneaaGreatSGdH
namespace Go.Proofs.YtjccnjfdeedneaaGreat
open Go Go.RowKit Go.Lib Go.MuLone
set_option linter.unusedVariables false
set_option maxRecDepth 100000

theorem lkW_row {now ver hold : Int} {cs : Value} {c m m' : Int} {h : ShH} {w : World} (hr : Row w h.sb 123 (shL now ver hold cs c m h)) : Row (lkW w h.sb m') h.sb 123 (shL now ver hold cs c m' h) :=
 (((hr.set 6 (.int .i32 m')).set 10 (.int .i32 m')).set 14 (.int .i32 m')).set 18 (.int .i32 m')
theorem gb_set {w : World} {b i : Nat} (v : Value) : w.grownBy (w.setCell ⟨b, i, none⟩ v) (some b) := ⟨rfl, rfl, rfl, by simp, fun k hk hne => Below.heap_setCell w ⟨b, i, none⟩ v k (fun e => hne (by rw [e]))⟩
theorem lkW_gb (w : World) (b : Nat) (m : Int) : w.grownBy (lkW w b m) (some b) :=
 gb_skip (gb_skip (gb_skip (gb_set _) (gb_set _) (.inr rfl)) (gb_set _) (.inr rfl)) (gb_set _) (.inr rfl)
theorem own_gb {w w' : World} {base E K n b : Nat} {v : Value} {xs : List Value} (h : w.ownsRow base E K v n xs) (hg : w.grownBy w' (some b)) (hne : ∀ k, v.ownBlock = some k → k ≠ b) : w'.ownsRow base E K v n xs :=
 own_kp h (fun k hk => hg.block k (h.lt k hk).2 (fun e => hne k hk (Option.some.inj e)))
def AllOut (now ver hold : Int) (q : Option Addr) (c' : Nat) (m : Int) (h : ShH) (l : List En) (w : World) (e : Ending) (w' : World) : Prop :=
 ∃ q2 c2, e = .returned (.slice q2 l.length c2) ∧ w'.ownsRow w.heap.size 50 4 (.slice q2 l.length c2) l.length (l.flatMap enCf) ∧ Row w' h.sb 123 (shL now ver hold (.slice q l.length c') 0 m h) ∧ w.grownBy w' (some h.sb)
set_option maxHeartbeats 2000000 in
theorem all_any {now ver hold : Int} {q : Option Addr} {c' base : Nat} {m : Int} {h : ShH} {l : List En} {w : World} (hr : Row w h.sb 123 (shL now ver hold (.slice q l.length c') 0 m h))
  (ho : w.ownsRow base 50 4 (.slice q l.length c') l.length (l.flatMap enCf)) (hne : ∀ k, (Value.slice q l.length c').ownBlock = some k → k ≠ h.sb) (hl : l.length ≤ 1048576) :
  Calls Tryz.prog 118 #[.pointer (some ⟨h.sb, 3, none⟩)] w (AllOut now ver hold q c' m h l w) := by
 have hs0 := hr.lt
 have L0 := Lib.hid (lock_free muLib ⟨h.sb, 3, none⟩ w (hr.cell 3) (hr.free 3))
 obtain ⟨W1, hW1⟩ : ∃ W1, W1 = w.setCell ⟨h.sb, 3, none⟩ (.int .i32 1) := ⟨_, rfl⟩
 have r1 : Row W1 h.sb 123 (shL now ver hold (.slice q l.length c') 1 m h) := by rw [hW1]; exact hr.set 3 (.int .i32 1)
 have g1 : w.grownBy W1 (some h.sb) := by rw [hW1]; exact gb_set _
 have o1 := own_gb ho g1 hne
 have c5 : W1.cell? ⟨h.sb, 5, none⟩ = some (.slice q l.length c') := r1.cell 5
 have hz1 : W1.heap.size = w.heap.size := by rw [hW1]; simp
 have HC := Lib.hid (cloneEn (Src.of_own o1) hl)
 have HW1 := Lib.hid hW1
 have HR1 := Lib.hid r1
 have HG1 := Lib.hid g1
 have HZ1 := Lib.hid hz1
 clear hr ho r1 g1 o1 hW1 hz1
 go_enter_defers Tryz.func118, Tryz.ntmps118
 go_wp2_with fail
 refine L0.out.mono ?_
 rintro e w1 ⟨rfl, hw1⟩
 rw [hw1, ← HW1.out]
 clear hw1
 go_wp2_with fail
 refine HC.out.mono ?_
 rintro e W2 ⟨q2, c2, rfl, o2, hb2⟩
 have r2 := HR1.out.below hb2 HR1.out.lt
 have m2 : W2.cell? ⟨h.sb, 3, none⟩ = some (.int .i32 1) := r2.cell 3
 have z2 := r2.free 3
 have HO2 := Lib.hid o2
 have HR2 := Lib.hid r2
 have HG2 := Lib.hid (gb_later HG1.out hb2)
 clear hb2 o2 r2 c5 HC
 go_wp2_with fail
 refine leaves_cons (f := 134) (args := #[.pointer (some ⟨h.sb, 3, none⟩)]) (by simp) (by simp [go_sem]) ?_
 refine (unlock_deferred muLib ⟨h.sb, 3, none⟩ .returning _ m2 z2).mono ?_
 rintro e u' w'' ⟨rfl, rfl, rfl⟩
 refine ⟨_, results_tmp rfl _ _ _, q2, c2, rfl, ?_, HR2.out.set 3 (.int .i32 0), gb_skip HG2.out (gb_set _) (.inr rfl)⟩
 have h3 := own_gb HO2.out (gb_set (b := h.sb) (i := 3) (.int .i32 0)) (fun k hk => by have := HO2.out.lt k hk; have := HZ1.out; omega)
 rw [HZ1.out] at h3
 exact h3
end Go.Proofs.YtjccnjfdeedneaaGreat
/- What all share: a map laid over another one, by maps.Copy. -/
namespace Go.Proofs.YtjccnjfdeedneaaGreat
open Go Go.RowKit Go.Lib Go.MuLone
set_option linter.unusedVariables false
set_option maxRecDepth 100000

def ShCopyRel (k : TypeId) (d s r n1 n2 : Nat) (F1 F2 : Int → Option Value) (w wr : World) : Prop :=
 ∃ left cnt n, IRanges Tryz.prog k wr s r n2 F2 left cnt ∧ IMap Tryz.prog k wr d n (overL F2 F1 left) ∧ n + cnt ≤ n1 + n2 ∧ w.grownBy wr (some d)
set_option maxHeartbeats 2000000 in
theorem copyW {d s n1 n2 : Nat} {F1 F2 : Int → Option Value} {w : World} (hne : d ≠ s) (h1 : IMap Tryz.prog 2 w d n1 F1) (h2 : IMap Tryz.prog 2 w s n2 F2) (hs : WSh F2) (hN : n1 + n2 < maxLen) :
  Calls Tryz.prog 196 #[.map (some d), .map (some s)] w fun e w' => e = .returned (.tuple #[]) ∧ (∃ n, n ≤ n1 + n2 ∧ IMap Tryz.prog 2 w' d n (over F2 F1)) ∧ w.grownBy w' (some d) := by
 have HS := Lib.hid hs
 have H1 := Lib.hid h1
 have H2 := Lib.hid h2
 have hds : d < w.heap.size := h1.lt
 have hss : s < w.heap.size := h2.lt
 have hf := run_store_float
 clear h1 h2 hs
 go_enter Tryz.func196, Tryz.ntmps196
 go_wp2_with (at_range; refine wpList_range_I rfl _ 117 rfl Tryz.underlying117 Tryz.underlying2 rfl H2.out ?_; intro w0 hr0 hg0 hs0)
 go_frame
 have HR0 := Lib.hid hr0
 have HG0 := Lib.hid hg0
 clear hr0 hg0
 go_loopw [4] (fun _ wr => ShCopyRel 2 d s w.heap.size n1 n2 F1 F2 w wr) (fun _ wr => wr.rangeLeft s w.heap.size)
 case atStart => exact ⟨_, n2, n1, HR0.out, (H1.out.grown HG0.out (by simp)).same (fun i => by rw [overL_start]), Nat.le_refl _, gb_none HG0.out⟩
 case round =>
  obtain ⟨left, cnt, n, hrg, hm, hn, hgb⟩ := hrel
  have HM := Lib.hid hm
  have HGB := Lib.hid hgb
  have HRG := Lib.hid hrg
  clear hrg hm hgb
  go_wp2_with (at_next; refine wpList_next_I rfl _ rfl Tryz.underlying2 rfl HRG.out ?_ ?_)
  ·intro hc hl
   go_wp2_with fail
   go_returns
   refine ⟨rfl, ⟨n, by omega, ?_⟩, HGB.out⟩
   rw [← overL_end hl]
   exact HM.out
  ·intro x v w1 cnt1 hwx hlx hFx hrg1 hlt hg1 hs1 hen
   obtain ⟨c, st, t, u, dd, hv⟩ := HS.out x v hFx
   have HV := Lib.hid hv
   have HF := Lib.hid hFx
   have HR1 := Lib.hid hrg1
   have HG1 := Lib.hid hg1
   rw [hv] at hen
   clear hv hFx hrg1 hg1
   rw [HV.out]
   have hb2 : Below w1.heap.size w1 (w1.alloc (.cells #[.int .i64 c, .string st, .float .f64 t, .bool u, .float .f64 dd] 207)) := (Below.refl _ _).alloc (Nat.le_refl _) _
   have HB2 := Lib.hid hb2
   have hd1 : some d ≠ some w.heap.size := fun e => by have := Option.some.inj e; omega
   have HM2 := Lib.hid ((HM.out.grown HG1.out hd1).later hb2)
   clear hb2
   go_wp2_with (at_mapUpdate; refine wpList_put_I rfl _ _ _ 117 rfl Tryz.underlying117 Tryz.underlying2 rfl HM2.out (by omega) x rfl hwx (.agg #[.int .i64 c, .string st, .float .f64 t, .bool u, .float .f64 dd]) rfl ?_; intro w3 hm3 hg3; go_frame)
   have hr3 := (HR1.out.kept (gb_below (r := none) HB2.out) (by simp) (by simp)).kept hg3 (fun e => hne (Option.some.inj e).symm) (fun e => by have := Option.some.inj e; omega)
   go_roundw
   case rel =>
    refine ⟨_, cnt1, _, hr3, hm3.same (fun i => ?_), ?_, ?_⟩
    ·rw [← overL_step HF.out, HV.out]
    ·have := grow_le n (overL F2 F1 left x)
     omega
    ·exact gb_skip (gb_later (gb_skip HGB.out HG1.out (.inl (Nat.le_refl _))) HB2.out) hg3 (.inr rfl)
   case measure => rw [hr3.left_eq, HRG.out.left_eq]; exact hlt
set_option maxHeartbeats 2000000 in
theorem copyK {d s n1 n2 : Nat} {F1 F2 : Int → Option Value} {w : World} (hne : d ≠ s) (h1 : IMap Tryz.prog 2 w d n1 F1) (h2 : IMap Tryz.prog 2 w s n2 F2) (hs : KSh F2) (hN : n1 + n2 < maxLen) :
  Calls Tryz.prog 197 #[.map (some d), .map (some s)] w fun e w' => e = .returned (.tuple #[]) ∧ (∃ n, n ≤ n1 + n2 ∧ IMap Tryz.prog 2 w' d n (over F2 F1)) ∧ w.grownBy w' (some d) := by
 have HS := Lib.hid hs
 have H1 := Lib.hid h1
 have H2 := Lib.hid h2
 have hds : d < w.heap.size := h1.lt
 have hss : s < w.heap.size := h2.lt
 have hf := run_store_float
 clear h1 h2 hs
 go_enter Tryz.func197, Tryz.ntmps197
 go_wp2_with (at_range; refine wpList_range_I rfl _ 118 rfl Tryz.underlying118 Tryz.underlying2 rfl H2.out ?_; intro w0 hr0 hg0 hs0)
 go_frame
 have HR0 := Lib.hid hr0
 have HG0 := Lib.hid hg0
 clear hr0 hg0
 go_loopw [4] (fun _ wr => ShCopyRel 2 d s w.heap.size n1 n2 F1 F2 w wr) (fun _ wr => wr.rangeLeft s w.heap.size)
 case atStart => exact ⟨_, n2, n1, HR0.out, (H1.out.grown HG0.out (by simp)).same (fun i => by rw [overL_start]), Nat.le_refl _, gb_none HG0.out⟩
 case round =>
  obtain ⟨left, cnt, n, hrg, hm, hn, hgb⟩ := hrel
  have HM := Lib.hid hm
  have HGB := Lib.hid hgb
  have HRG := Lib.hid hrg
  clear hrg hm hgb
  go_wp2_with (at_next; refine wpList_next_I rfl _ rfl Tryz.underlying2 rfl HRG.out ?_ ?_)
  ·intro hc hl
   go_wp2_with fail
   go_returns
   refine ⟨rfl, ⟨n, by omega, ?_⟩, HGB.out⟩
   rw [← overL_end hl]
   exact HM.out
  ·intro x v w1 cnt1 hwx hlx hFx hrg1 hlt hg1 hs1 hen
   obtain ⟨c, f, b, t, st, hv⟩ := HS.out x v hFx
   have HV := Lib.hid hv
   have HF := Lib.hid hFx
   have HR1 := Lib.hid hrg1
   have HG1 := Lib.hid hg1
   rw [hv] at hen
   clear hv hFx hrg1 hg1
   rw [HV.out]
   have hb2 : Below w1.heap.size w1 (w1.alloc (.cells #[.int .i64 c, .int .i64 f, .bool b, .float .f64 t, .int .i64 st] 245)) := (Below.refl _ _).alloc (Nat.le_refl _) _
   have HB2 := Lib.hid hb2
   have hd1 : some d ≠ some w.heap.size := fun e => by have := Option.some.inj e; omega
   have HM2 := Lib.hid ((HM.out.grown HG1.out hd1).later hb2)
   clear hb2
   go_wp2_with (at_mapUpdate; refine wpList_put_I rfl _ _ _ 118 rfl Tryz.underlying118 Tryz.underlying2 rfl HM2.out (by omega) x rfl hwx (.agg #[.int .i64 c, .int .i64 f, .bool b, .float .f64 t, .int .i64 st]) rfl ?_; intro w3 hm3 hg3; go_frame)
   have hr3 := (HR1.out.kept (gb_below (r := none) HB2.out) (by simp) (by simp)).kept hg3 (fun e => hne (Option.some.inj e).symm) (fun e => by have := Option.some.inj e; omega)
   go_roundw
   case rel =>
    refine ⟨_, cnt1, _, hr3, hm3.same (fun i => ?_), ?_, ?_⟩
    ·rw [← overL_step HF.out, HV.out]
    ·have := grow_le n (overL F2 F1 left x)
     omega
    ·exact gb_skip (gb_later (gb_skip HGB.out HG1.out (.inl (Nat.le_refl _))) HB2.out) hg3 (.inr rfl)
   case measure => rw [hr3.left_eq, HRG.out.left_eq]; exact hlt
end Go.Proofs.YtjccnjfdeedneaaGreat
/- What all share: a ledger of what there is. -/
namespace Go.Proofs.YtjccnjfdeedneaaGreat
open Go Go.RowKit Go.Lib Go.MuLone
set_option linter.unusedVariables false
set_option maxRecDepth 100000

/-- What the first k stripes hold. -/
def upF (F : Int → Option Value) (k : Nat) (i : Int) : Option Value := if i % 4 < k then F i else none
theorem upF_zero (F : Int → Option Value) (i : Int) : upF F 0 i = none := by unfold upF; rw [if_neg (by omega)]
theorem upF_four (F : Int → Option Value) (i : Int) : upF F 4 i = F i := by unfold upF; rw [if_pos (by omega)]
theorem upF_step (F : Int → Option Value) (k : Nat) (i : Int) : over (stF F k) (upF F k) i = upF F (k + 1) i := by
 unfold over stF upF
 by_cases h1 : i % 4 = (k : Int)
 ·have e1 : i % 4 < ((k + 1 : Nat) : Int) := by omega
  have e2 : ¬ (i % 4 < (k : Int)) := by omega
  simp only [if_pos h1, if_neg e2, if_pos e1]
  cases F i <;> rfl
 ·by_cases h2 : i % 4 < (k : Int)
  ·have e1 : i % 4 < ((k + 1 : Nat) : Int) := by omega
   simp only [if_neg h1, if_pos h2, if_pos e1]
  ·have e1 : ¬ (i % 4 < ((k + 1 : Nat) : Int)) := by omega
   simp only [if_neg h1, if_neg h2, if_neg e1]
theorem WSh.st {F : Int → Option Value} (h : WSh F) (k : Nat) : WSh (stF F k) := fun i v hv => by
 unfold stF at hv
 split at hv
 ·exact h i v hv
 ·simp at hv
theorem KSh.st {F : Int → Option Value} (h : KSh F) (k : Nat) : KSh (stF F k) := fun i v hv => by
 unfold stF at hv
 split at hv
 ·exact h i v hv
 ·simp at hv
def BkRel (now ver hold : Int) (cs : Value) (c m : Int) (h : ShH) (M : Nat) (FW FK : Int → Option Value) (lb mw mk : Nat) (w : World) (i : Value) (wr : World) : Prop :=
 ∃ k : Nat, k ≤ 4 ∧ i = .int .i64 k ∧ Row wr h.sb 123 (shL now ver hold cs c m h) ∧ ShMaps wr h M FW FK ∧ Row wr lb 210 (LR now mw mk) ∧
  (∃ n, n ≤ k * M ∧ IMap Tryz.prog 2 wr mw n (upF FW k)) ∧ (∃ n, n ≤ k * M ∧ IMap Tryz.prog 2 wr mk n (upF FK k)) ∧ Below w.heap.size w wr
def BookOut (now : Int) (FW FK : Int → Option Value) (w : World) (e : Ending) (w' : World) : Prop := ∃ lb mw mk n1 n2, e = .returned (.pointer (some ⟨lb, 0, none⟩)) ∧ Row w' lb 210 (LR now mw mk) ∧
 IMap Tryz.prog 2 w' mw n1 FW ∧ IMap Tryz.prog 2 w' mk n2 FK ∧ w.heap.size ≤ lb ∧ w.heap.size ≤ mw ∧ w.heap.size ≤ mk ∧ lb ≠ mw ∧ lb ≠ mk ∧ mw ≠ mk ∧ Below w.heap.size w w'
set_option maxHeartbeats 4000000 in
theorem book_any {now ver hold : Int} {cs : Value} {c m : Int} {h : ShH} {M : Nat} {FW FK : Int → Option Value} {w : World} (hr : Row w h.sb 123 (shL now ver hold cs c m h)) (hrise : h.Rise) (hm : ShMaps w h M FW FK)
  (h0 : 0 ≤ now) (h1 : now ≤ 1000000) (hW : WSh FW) (hK : KSh FK) (hM : M ≤ 1000) : Calls Tryz.prog 171 #[.pointer (some ⟨h.sb, 0, none⟩)] w (BookOut now FW FK w) := by
 have hT := Lib.hid (time_any h.sb now w h0 h1 (hr.cell 0))
 have HWS := Lib.hid hW
 have HKS := Lib.hid hK
 have HRi := Lib.hid hrise
 have HR := Lib.hid hr
 have HM := Lib.hid hm
 have hk3 := wAt_lt hrise hm
 have hsz := hr.lt
 clear hr hm hW hK hrise
 go_enter Tryz.func171, Tryz.ntmps171
 go_wp2_with fail
 refine hT.out.mono ?_
 rintro e w1 ⟨rfl, hb1⟩
 clear hT
 obtain ⟨mw, hmw⟩ : ∃ n, n = w1.heap.size := ⟨_, rfl⟩
 obtain ⟨W, hW⟩ : ∃ W, W = ((w1.alloc (.map #[] 0)).alloc (.map #[] 0)).alloc (.cells #[.float .f64 (floatOfInt .f64 now), .map (some mw), .map (some (mw + 1))] 210) := ⟨_, rfl⟩
 have hbW : Below w1.heap.size w1 W := by rw [hW]; exact (((Below.refl _ _).alloc (Nat.le_refl _) _).alloc (by simp) _).alloc (by simp; omega) _
 have m1 : IMap Tryz.prog 2 W mw 0 (fun _ => none) := by
  rw [hW, hmw]
  exact ((IMap.made w1 Tryz.prog 2).alloc _).alloc _
 have m2 : IMap Tryz.prog 2 W (mw + 1) 0 (fun _ => none) := by
  have h := IMap.made (w1.alloc (.map #[] 0)) Tryz.prog 2
  rw [World.size_alloc, ← hmw] at h
  rw [hW]
  exact h.alloc _
 have r3 : Row W (mw + 2) 210 (LR now mw (mw + 1)) := by
  have h := heap_alloc_new ((w1.alloc (.map #[] 0)).alloc (.map #[] 0)) (.cells #[.float .f64 (floatOfInt .f64 now), .map (some mw), .map (some (mw + 1))] 210)
  rw [World.size_alloc, World.size_alloc, ← hmw] at h
  rw [hW]
  exact h
 have hz1 := hb1.size
 have hb0 := hb1.trans (hbW.mono hz1)
 have R0 := Lib.hid (HR.out.below hb0 hsz)
 have M0 := Lib.hid (HM.out.later hb0)
 have M1 := Lib.hid m1
 have M2 := Lib.hid m2
 have R3 := Lib.hid r3
 have B0 := Lib.hid hb0
 have hmz : w.heap.size ≤ mw := by omega
 have HL := Lib.hid (newLedger_any (floatOfInt .f64 now) w1)
 rw [← hmw, ← hW] at HL
 clear hb1 hbW m1 m2 r3 hb0 hmw hW hz1
 go_wp2_with fail
 refine HL.out.mono ?_
 rintro e w2 ⟨rfl, hw2⟩
 rw [hw2]
 clear hw2 HL
 go_wp2_with fail
 go_loopw [8] (BkRel now ver hold cs c m h M FW FK (mw + 2) mw (mw + 1) w) (fun i _ => 4 - (RowKit.intOf i).toNat)
 case atStart => exact ⟨0, by omega, rfl, R0.out, M0.out, R3.out, ⟨0, by omega, M1.out.same (fun i => (upF_zero FW i).symm)⟩, ⟨0, by omega, M2.out.same (fun i => (upF_zero FK i).symm)⟩, B0.out⟩
 case round =>
  clear R0 M0 M1 M2 R3 B0
  obtain ⟨k, hk, rfl, hrs, hms, hrl, ⟨n1, hn1, hi1⟩, ⟨n2, hn2, hi2⟩, hbl⟩ := hrel
  have HRs := Lib.hid hrs
  have HMs := Lib.hid hms
  have HRl := Lib.hid hrl
  have HI1 := Lib.hid hi1
  have HI2 := Lib.hid hi2
  have HBl := Lib.hid hbl
  have hzs := hrs.lt
  have hzl := hrl.lt
  have hk4 : k * M ≤ 4 * 1000 := Nat.mul_le_mul hk hM
  have hkM : (k + 1) * M = k * M + M := by rw [Nat.add_mul, Nat.one_mul]
  have hbz := hbl.size
  by_cases hlt4 : k < 4
  ·obtain ⟨s1, hs1, hs2⟩ := hms.1 k hlt4
   have c1 : wr.cell? ⟨mw + 2, 1, none⟩ = some (.map (some mw)) := hrl.cell 1
   have c2 : wr.cell? ⟨h.sb, 6 + k * 4 + 2, none⟩ = some (.map (some (h.wAt k))) := (hrs.cell (6 + k * 4 + 2)).trans (by rw [show 6 + k * 4 + 2 = 8 + 4 * k by omega]; exact shL_w _ _ _ _ _ _ _ hlt4)
   have hwk := HRi.out.w_ge k
   have hkk := HRi.out.k_ge k
   have C1 := Lib.hid (copyW (w := wr.drew) (show mw ≠ h.wAt k by omega) hi1 hs2 (HWS.out.st k) (by unfold maxLen; omega))
   clear hrs hms hrl hi1 hi2 hbl hs2
   go_wp2_with fail
   refine region_tail 11 (by kernel_rfl) (by kernel_rfl) ?_
   simp only [List.take_succ_cons, List.take_zero, List.drop_succ_cons, List.drop_zero]
   repeat still_step
   refine wpStill_nil ?_
   go_wp2_with fail
   refine C1.out.mono ?_
   rintro e w3 ⟨rfl, ⟨n3, hn3, hi3⟩, hg3'⟩
   have hg3 := drew_grown hg3'
   have hr3 := HRs.out.grownI hg3 (fun e => by have := Option.some.inj e; omega)
   have hm3 := HMs.out.grown hg3 (fun j hj e => by have := Option.some.inj e; have := (HRi.out.w_ge j).2.2; omega) (fun j hj e => by have := Option.some.inj e; have := (HRi.out.k_ge j).2.2; omega)
   have hl3 := HRl.out.grownI hg3 (fun e => by have := Option.some.inj e; omega)
   have hj3 := HI2.out.grown hg3 (fun e => by have := Option.some.inj e; omega)
   have hb3 : Below w.heap.size w w3 := HBl.out.grown hg3 hbz (fun j e => by have := Option.some.inj e; omega)
   obtain ⟨s3, hs3, hs4⟩ := hm3.2 k hlt4
   have C2 := Lib.hid (copyK (w := w3.drew) (show mw + 1 ≠ h.kAt k by omega) hj3 hs4 (HKS.out.st k) (by unfold maxLen; omega))
   have d1 : w3.cell? ⟨mw + 2, 2, none⟩ = some (.map (some (mw + 1))) := hl3.cell 2
   have d2 : w3.cell? ⟨h.sb, 6 + k * 4 + 3, none⟩ = some (.map (some (h.kAt k))) := (hr3.cell (6 + k * 4 + 3)).trans (by rw [show 6 + k * 4 + 3 = 9 + 4 * k by omega]; exact shL_k _ _ _ _ _ _ _ hlt4)
   have HR3 := Lib.hid hr3
   have HM3 := Lib.hid hm3
   have HL3 := Lib.hid hl3
   have HI3 := Lib.hid (hi3.same (upF_step FW k))
   have HB3 := Lib.hid hb3
   have hz3 := hb3.size
   clear hg3' hg3 hr3 hm3 hl3 hj3 hb3 hi3 hs4 c1 c2 C1
   go_wp2_with fail
   refine region_tail 11 (by kernel_rfl) (by kernel_rfl) ?_
   simp only [List.take_succ_cons, List.take_zero, List.drop_succ_cons, List.drop_zero]
   repeat still_step
   refine wpStill_nil ?_
   go_wp2_with fail
   refine C2.out.mono ?_
   rintro e w4 ⟨rfl, ⟨n4, hn4, hi4⟩, hg4'⟩
   have hg4 := drew_grown hg4'
   have hr4 := HR3.out.grownI hg4 (fun e => by have := Option.some.inj e; omega)
   have hm4 := HM3.out.grown hg4 (fun j hj e => by have := Option.some.inj e; have := (HRi.out.w_ge j).2.2; omega) (fun j hj e => by have := Option.some.inj e; have := (HRi.out.k_ge j).2.2; omega)
   have hl4 := HL3.out.grownI hg4 (fun e => by have := Option.some.inj e; omega)
   have hj4 := HI3.out.grown hg4 (fun e => by have := Option.some.inj e; omega)
   have hb4 : Below w.heap.size w w4 := HB3.out.grown hg4 hz3 (fun j e => by have := Option.some.inj e; omega)
   clear hg4' hg4 d1 d2 C2
   go_wp2_with fail
   go_roundw
   case rel => exact ⟨k + 1, by omega, by go_num, hr4, hm4, hl4, ⟨n3, by omega, hj4⟩, ⟨n4, by omega, hi4.same (upF_step FK k)⟩, hb4⟩
   case measure => simp [RowKit.intOf]; omega
  ·have e4 : k = 4 := by omega
   subst e4
   clear hrs hms hrl hi1 hi2 hbl
   go_wp2_with fail
   go_ret
   exact ⟨mw + 2, mw, mw + 1, n1, n2, rfl, HRl.out, HI1.out.same (upF_four FW), HI2.out.same (upF_four FK), by omega, by omega, by omega, by omega, by omega, by omega, HBl.out⟩
end Go.Proofs.YtjccnjfdeedneaaGreat
/- What all share: a look at it, as a ledger. -/
namespace Go.Proofs.YtjccnjfdeedneaaGreat
open Go Go.RowKit Go.Lib Go.MuLone
set_option linter.unusedVariables false
set_option maxRecDepth 100000

def LookOut (now ver hold : Int) (cs : Value) (c : Int) (h : ShH) (M : Nat) (FW FK : Int → Option Value) (w : World) (e : Ending) (w' : World) : Prop := ∃ lb mw mk n1 n2, e = .returned (.pointer (some ⟨lb, 0, none⟩)) ∧ Row w' lb 210 (LR now mw mk) ∧
 IMap Tryz.prog 2 w' mw n1 FW ∧ IMap Tryz.prog 2 w' mk n2 FK ∧ w.heap.size ≤ lb ∧ w.heap.size ≤ mw ∧ w.heap.size ≤ mk ∧ lb ≠ mw ∧ lb ≠ mk ∧ mw ≠ mk ∧
 Row w' h.sb 123 (shL now ver hold cs c 0 h) ∧ ShMaps w' h M FW FK ∧ w.grownBy w' (some h.sb)
set_option maxHeartbeats 4000000 in
theorem look_any {now ver hold : Int} {cs : Value} {c : Int} {h : ShH} {M : Nat} {FW FK : Int → Option Value} {w : World} (hr : Row w h.sb 123 (shL now ver hold cs c 0 h)) (hrise : h.Rise) (hm : ShMaps w h M FW FK)
  (h0 : 0 ≤ now) (h1 : now ≤ 1000000) (hW : WSh FW) (hK : KSh FK) (hM : M ≤ 1000) : Calls Tryz.prog 115 #[.pointer (some ⟨h.sb, 0, none⟩)] w (LookOut now ver hold cs c h M FW FK w) := by
 have hsz := hr.lt
 have hg1 := lkW_gb w h.sb 1
 have hr1 := lkW_row (m' := 1) hr
 have hm1 := hm.grown hg1 (fun j hj e => by have := Option.some.inj e; have := (hrise.w_ge j).1; omega) (fun j hj e => by have := Option.some.inj e; have := (hrise.k_ge j).1; omega)
 obtain ⟨W, hWW⟩ : ∃ W, W = lkW w h.sb 1 := ⟨_, rfl⟩
 have L1 := Lib.hid (lockAll_any hr)
 rw [← hWW] at hg1 hr1 hm1 L1
 have hz1 : W.heap.size = w.heap.size := by rw [hWW]; unfold lkW; simp
 have B1 := Lib.hid (book_any hr1 hrise hm1 h0 h1 hW hK hM)
 have HG1 := Lib.hid hg1
 have HR1 := Lib.hid hr1
 have HM1 := Lib.hid hm1
 have HRi := Lib.hid hrise
 have HZ := Lib.hid hz1
 clear hr hrise hm hW hK hg1 hr1 hm1 hWW hz1
 go_enter_defers Tryz.func115, Tryz.ntmps115
 go_wp2_with fail
 refine L1.out.mono ?_
 rintro e w1 ⟨rfl, hw1⟩
 rw [hw1]
 clear hw1 L1
 go_wp2_with fail
 refine B1.out.mono ?_
 rintro e w2 ⟨lb, mw, mk, n1, n2, rfl, hrl, hi1, hi2, p1, p2, p3, p4, p5, p6, hb2⟩
 have hr2 := HR1.out.below hb2 HR1.out.lt
 have hm2 := HM1.out.later hb2
 have hg2 := gb_later HG1.out hb2
 have HRl := Lib.hid hrl
 have HI1 := Lib.hid hi1
 have HI2 := Lib.hid hi2
 have HR2 := Lib.hid hr2
 have HM2 := Lib.hid hm2
 have HG2 := Lib.hid hg2
 clear hrl hi1 hi2 hr2 hm2 hg2 hb2 B1
 go_wp2_with fail
 refine leaves_cons (f := 170) (args := #[.pointer (some ⟨h.sb, 0, none⟩)]) (by simp) (by simp [go_sem]) ?_
 refine (unlockAll_d HR2.out).mono ?_
 rintro e u' w'' ⟨rfl, rfl, rfl⟩
 have hz := HZ.out
 rw [hz] at p1 p2 p3
 have hg3 := lkW_gb w2 h.sb 0
 refine ⟨_, results_tmp rfl _ _ _, lb, mw, mk, n1, n2, rfl, HRl.out.grownI hg3 (fun e => by have := Option.some.inj e; omega), HI1.out.grown hg3 (fun e => by have := Option.some.inj e; omega), HI2.out.grown hg3 (fun e => by have := Option.some.inj e; omega), p1, p2, p3, p4, p5, p6,
  lkW_row HR2.out, HM2.out.grown hg3 (fun j hj e => by have := Option.some.inj e; have := (HRi.out.w_ge j).1; omega) (fun j hj e => by have := Option.some.inj e; have := (HRi.out.k_ge j).1; omega), gb_skip HG2.out hg3 (.inr rfl)⟩
theorem words_count {P : Program} {k : TypeId} {w : World} {b n : Nat} {g : Gr} {td : Int → Int} (hk : P.underlying k = some (.int .i64)) (hg : grantB g = true) (h : IMap P k w b n (wdF g.words g.dead td)) : n = g.words.length := by
 have hw := (gr_facts hg).2.2.2.1
 have := h.count (l := g.words.map (·.no)) hk (by
  rw [List.Nodup, List.pairwise_map, List.pairwise_iff_getElem]
  intro i j hi hj hij e
  have h2 := (wordsOk_get hw (List.getElem?_eq_getElem hj)).2 g.words[i] (List.mem_take_iff_getElem.2 ⟨i, by omega, rfl⟩)
  omega) (fun i => by
  simp only [wdF, Option.isSome_map]
  constructor
  ·intro hi
   obtain ⟨x, hx, rfl⟩ := List.mem_map.1 hi
   obtain ⟨y, hy, _⟩ := hasNo_find (l := g.words) (n := x.no) (by unfold hasNo; exact List.any_eq_true.2 ⟨x, hx, by simp⟩)
   rw [hy]; rfl
  ·intro hi
   obtain ⟨x, hx⟩ := Option.isSome_iff_exists.1 hi
   obtain ⟨j, hj, hn⟩ := find_mem hx
   exact List.mem_map.2 ⟨x, List.mem_of_getElem? hj, hn⟩)
 rw [this, List.length_map]
theorem keys_count {P : Program} {k : TypeId} {w : World} {b n : Nat} {g : Gr} (hk : P.underlying k = some (.int .i64)) (hg : grantB g = true) (h : IMap P k w b n (kyF g.keys)) : n = g.keys.length := by
 have hw := (gr_facts hg).2.2.2.2.1
 have := h.count (l := g.keys.map (·.no)) hk (by
  rw [List.Nodup, List.pairwise_map, List.pairwise_iff_getElem]
  intro i j hi hj hij e
  have h2 := (keysOk_get hw (List.getElem?_eq_getElem hj)).2 g.keys[i] (List.mem_take_iff_getElem.2 ⟨i, by omega, rfl⟩)
  omega) (fun i => by
  simp only [kyF, Option.isSome_map]
  constructor
  ·intro hi
   obtain ⟨x, hx, rfl⟩ := List.mem_map.1 hi
   unfold findK
   rw [List.find?_isSome]
   exact ⟨x, hx, by simp⟩
  ·intro hi
   obtain ⟨x, hx⟩ := Option.isSome_iff_exists.1 hi
   obtain ⟨j, hj, hn⟩ := findK_mem hx
   exact List.mem_map.2 ⟨x, List.mem_of_getElem? hj, hn⟩)
 rw [this, List.length_map]
theorem wdF_sh (g : Gr) (td : Int → Int) : WSh (wdF g.words g.dead td) := fun i v h => by
 simp only [wdF, Option.map_eq_some_iff] at h
 obtain ⟨x, _, rfl⟩ := h
 exact ⟨_, _, _, _, _, rfl⟩
theorem kyF_sh (g : Gr) : KSh (kyF g.keys) := fun i v h => by
 simp only [kyF, Option.map_eq_some_iff] at h
 obtain ⟨x, _, rfl⟩ := h
 exact ⟨_, _, _, _, _, rfl⟩
/-- A look at a store of a right grant: its ledger. -/
def LookLed (ver hold : Int) (cs : Value) (c : Int) (h : ShH) (M : Nat) (g : Gr) (td : Int → Int) (w : World) (e : Ending) (w' : World) : Prop := ∃ lb mw mk, e = .returned (.pointer (some ⟨lb, 0, none⟩)) ∧ LedAt w' w.heap.size lb mw mk g ∧
 Row w' h.sb 123 (shL g.now ver hold cs c 0 h) ∧ ShMaps w' h M (wdF g.words g.dead td) (kyF g.keys) ∧ w.grownBy w' (some h.sb)
theorem look_led {ver hold : Int} {cs : Value} {c : Int} {h : ShH} {M : Nat} {g : Gr} {td : Int → Int} {w : World} (hr : Row w h.sb 123 (shL g.now ver hold cs c 0 h)) (hrise : h.Rise) (hm : ShMaps w h M (wdF g.words g.dead td) (kyF g.keys))
  (htd : ∀ i, 0 ≤ td i ∧ td i ≤ g.now) (hg : grantB g = true) (hM : M ≤ 1000) : Calls Tryz.prog 115 #[.pointer (some ⟨h.sb, 0, none⟩)] w (LookLed ver hold cs c h M g td w) := by
 obtain ⟨⟨h0, h1⟩, _⟩ := gr_facts hg
 refine (look_any hr hrise hm h0 h1 (wdF_sh g td) (kyF_sh g) hM).mono ?_
 rintro e w' ⟨lb, mw, mk, n1, n2, rfl, hrl, hi1, hi2, p1, p2, p3, p4, p5, p6, hr', hm', hgb⟩
 have e1 := words_count Tryz.underlying2 hg hi1
 have e2 := keys_count Tryz.underlying2 hg hi2
 subst e1 e2
 exact ⟨lb, mw, mk, rfl, ⟨td, htd, hrl, hi1, hi2, p1, p2, p3, p4, p5, p6⟩, hr', hm', hgb⟩
end Go.Proofs.YtjccnjfdeedneaaGreat
