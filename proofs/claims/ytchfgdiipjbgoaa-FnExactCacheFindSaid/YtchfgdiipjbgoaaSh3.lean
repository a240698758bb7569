/- What all share: a ledger is kept. -/
import Derived.Test.YtchfgdiipjbgoaaSh2
import Derived.Test.YtchfgdiipjbgoaaLed4
import Derived.Test.YtchfgdiipjbgoaaRow
import Derived.Laws.FloatArith
import Derived.StillTailTactics
namespace Go.Proofs.Ytchfgdiipjbgoaa
open Go Go.RowKit Go.Lib Go.MuLone
set_option linter.unusedVariables false
set_option maxRecDepth 100000

theorem conv_sh {n : Int} (hn : Whole n) (w : World) : (convert 114 2 (.float .f64 (floatOfInt .f64 n))).run Try.prog w = .ok (.int .i64 n) w :=
  run_convert_float_int w 114 2 .f64 .i64 _ n (by rw [Try.underlying114]; rfl) Try.underlying2 (toInt_of hn)
/-- The ledger, with the times at which its dead died. -/
def LedSh (w : World) (B lb mw mk : Nat) (g : Gr) (td : Int → Int) : Prop := (∀ i, 0 ≤ td i ∧ td i ≤ g.now) ∧ Row w lb 121 (LR g.now mw mk) ∧
  IMap Try.prog 2 w mw g.words.length (wdF g.words g.dead td) ∧ IMap Try.prog 2 w mk g.keys.length (kyF g.keys) ∧ B ≤ lb ∧ B ≤ mw ∧ B ≤ mk ∧ lb ≠ mw ∧ lb ≠ mk ∧ mw ≠ mk
theorem LedAt.sh {w : World} {B lb mw mk : Nat} {g : Gr} (h : LedAt w B lb mw mk g) : ∃ td, LedSh w B lb mw mk g td := h
/-- Nothing that was there has changed but the shared store's own block and its stripes' maps. -/
structure ShK (h : ShH) (w w' : World) : Prop where
  os : w'.os = w.os
  tape : w'.tape = w.tape
  output : w'.output = w.output
  size : w.heap.size ≤ w'.heap.size
  block : ∀ k, k < w.heap.size → k ≠ h.sb → (k < h.w0 ∨ h.k3 < k) → w'.heap[k]? = w.heap[k]?
theorem ShK.refl (h : ShH) (w : World) : ShK h w w := ⟨rfl, rfl, rfl, Nat.le_refl _, fun _ _ _ _ => rfl⟩
theorem ShK.trans {h : ShH} {a b c : World} (k : ShK h a b) (l : ShK h b c) : ShK h a c :=
  ⟨l.os.trans k.os, l.tape.trans k.tape, l.output.trans k.output, Nat.le_trans k.size l.size, fun i hi h1 h2 => (l.block i (by have := k.size; omega) h1 h2).trans (k.block i hi h1 h2)⟩
theorem ShK.later {h : ShH} {a b c : World} (k : ShK h a b) (l : Below b.heap.size b c) : ShK h a c := k.trans ⟨l.os, l.tape, l.output, l.size, fun i hi _ _ => l.block i hi⟩
theorem ShK.grown {h : ShH} {a b c : World} {j : Nat} (k : ShK h a b) (hg : b.grownBy c (some j)) (hj : (h.w0 ≤ j ∧ j ≤ h.k3) ∨ j = h.sb ∨ a.heap.size ≤ j) : ShK h a c :=
  ⟨hg.os.trans k.os, hg.tape.trans k.tape, hg.output.trans k.output, Nat.le_trans k.size hg.size, fun i hi h1 h2 => (hg.block i (by have := k.size; omega) (fun e => by have := Option.some.inj e; omega)).trans (k.block i hi h1 h2)⟩
theorem ShK.none {h : ShH} {a b c : World} (k : ShK h a b) (hg : b.grownBy c none) : ShK h a c := k.later ⟨hg.os, hg.tape, hg.output, hg.size, fun i hi => hg.block i hi (by simp)⟩
theorem ShK.setCell {h : ShH} {a b : World} {d : Addr} (k : ShK h a b) (u : Value) (hd : d.block = h.sb) : ShK h a (b.setCell d u) :=
  k.trans ⟨rfl, rfl, rfl, by simp, fun i hi h1 h2 => Below.heap_setCell _ _ _ _ (by omega)⟩
theorem ShK.below {h : ShH} {a b : World} {B : Nat} (k : ShK h a b) (h1 : B ≤ a.heap.size) (h2 : B ≤ h.sb) (h3 : B ≤ h.w0) : Below B a b := ⟨k.os, k.tape, k.output, k.size, fun i hi => k.block i (by omega) (by omega) (.inl (by omega))⟩
theorem Row.setElse {w : World} {q : Nat} {E : TypeId} {l : List Value} (h : Row w q E l) {a : Addr} (hne : q ≠ a.block) (v : Value) : Row (w.setCell a v) q E l := by
  unfold Row at h ⊢
  rw [Below.heap_setCell w a v q hne]
  exact h
theorem ShMaps.mono {w : World} {h : ShH} {M M' : Nat} {FW FK : Int → Option Value} (k : ShMaps w h M FW FK) (hM : M ≤ M') : ShMaps w h M' FW FK :=
  ⟨fun j hj => by obtain ⟨n, a, b⟩ := k.1 j hj; exact ⟨n, by omega, b⟩, fun j hj => by obtain ⟨n, a, b⟩ := k.2 j hj; exact ⟨n, by omega, b⟩⟩
theorem wAt_lt {h : ShH} (hr : h.Rise) {w : World} {M : Nat} {FW FK : Int → Option Value} (k : ShMaps w h M FW FK) : h.k3 < w.heap.size := by
  obtain ⟨n, _, hm⟩ := k.2 3 (by omega)
  exact hm.lt
theorem ShMaps.sameW {w : World} {h : ShH} {M : Nat} {FW FW' FK : Int → Option Value} (k : ShMaps w h M FW FK) (e : ∀ i, FW i = FW' i) : ShMaps w h M FW' FK := by rw [← funext e]; exact k
theorem ShMaps.sameK {w : World} {h : ShH} {M : Nat} {FW FK FK' : Int → Option Value} (k : ShMaps w h M FW FK) (e : ∀ i, FK i = FK' i) : ShMaps w h M FW FK' := by rw [← funext e]; exact k
def KeepW (h : ShH) (ver hold : Int) (cs : Value) (c m : Int) (M : Nat) (FW FK : Int → Option Value) (g : Gr) (td : Int → Int) (lb mw mk r : Nat) (w wr : World) : Prop :=
  ∃ left cnt M', IRanges Try.prog 2 wr mw r g.words.length (wdF g.words g.dead td) left cnt ∧ M' + cnt ≤ M + g.words.length ∧ ShMaps wr h M' (overL (wdF g.words g.dead td) FW left) FK ∧
    Row wr h.sb 69 (shL g.now ver hold cs c m h) ∧ Row wr lb 121 (LR g.now mw mk) ∧ IMap Try.prog 2 wr mk g.keys.length (kyF g.keys) ∧ ShK h w wr
def KeepK (h : ShH) (ver hold : Int) (cs : Value) (c m : Int) (M : Nat) (FW FK : Int → Option Value) (g : Gr) (mk r : Nat) (w wr : World) : Prop :=
  ∃ left cnt M', IRanges Try.prog 2 wr mk r g.keys.length (kyF g.keys) left cnt ∧ M' + cnt ≤ M + g.keys.length ∧ ShMaps wr h M' FW (overL (kyF g.keys) FK left) ∧
    Row wr h.sb 69 (shL g.now ver hold cs c m h) ∧ ShK h w wr
theorem wdF_no {g : Gr} {td : Int → Int} {x : Int} {v : Value} (hg : grantB g = true) (h : wdF g.words g.dead td x = some v) : 1 ≤ x ∧ x ≤ 99 ∧ ∃ y, v = hwV y (ddB g.dead td x) := by
  unfold wdF at h
  cases hf : findW g.words x with
  | none => rw [hf] at h; simp at h
  | some y =>
    obtain ⟨k, h1, h2⟩ := find_mem hf
    have := (wordsOk_get (gr_facts hg).2.2.2.1 h1).1
    rw [hf] at h
    exact ⟨by omega, by omega, y, (Option.some.inj h).symm⟩
theorem kyF_no {g : Gr} {x : Int} {v : Value} (hg : grantB g = true) (h : kyF g.keys x = some v) : 1 ≤ x ∧ x ≤ 999 ∧ ∃ y, v = hkV y := by
  unfold kyF at h
  cases hf : findK g.keys x with
  | none => rw [hf] at h; simp at h
  | some y =>
    obtain ⟨k, h1, h2⟩ := findK_mem hf
    have := (keysOk_get (gr_facts hg).2.2.2.2.1 h1).1
    rw [hf] at h
    exact ⟨by omega, by omega, y, (Option.some.inj h).symm⟩
set_option maxHeartbeats 4000000 in
theorem keep_any {now ver hold : Int} {cs : Value} {c m : Int} {h : ShH} {M B lb mw mk : Nat} {FW FK : Int → Option Value} {g : Gr} {td : Int → Int} {w : World} (hr : Row w h.sb 69 (shL now ver hold cs c m h)) (hrise : h.Rise) (hm : ShMaps w h M FW FK) (hl : LedSh w B lb mw mk g td) (hB : h.k3 < B)
    (hg : grantB g = true) (hM : M ≤ 1000) : Calls Try.prog 39 #[.pointer (some ⟨h.sb, 0, none⟩), .pointer (some ⟨lb, 0, none⟩)] w fun e w' => e = .returned (.tuple #[]) ∧
      Row w' h.sb 69 (shL g.now ver hold cs c m h) ∧ ShMaps w' h (M + 60) (over (wdF g.words g.dead td) FW) (over (kyF g.keys) FK) ∧ ShK h w w' := by
  obtain ⟨htd, hlr, hlw, hlk, hBl, hBw, hBk, hn1, hn2, hn3⟩ := hl
  obtain ⟨⟨n0, n1⟩, hw20, hk40, _⟩ := gr_facts hg
  have hsk := hrise.w_ge 0
  have hk3 := wAt_lt hrise hm
  have hsz := hr.lt
  have hc0 := hr.cell 0
  have hf0 := hr.free 0
  have HST := Lib.hid (st64 h.sb 0 now g.now w hc0 hf0)
  have HR1 := Lib.hid (hr.set 0 (.int .i64 g.now))
  have hl0 : w.cell? ⟨lb, 0, none⟩ = some (.float .f64 (floatOfInt .f64 g.now)) := hlr.cell 0
  have hsl : h.sb ≠ lb := by obtain ⟨r1, r2, r3, r4, r5, r6, r7, r8⟩ := hrise; omega
  have hsw : h.sb ≠ mw := by obtain ⟨r1, r2, r3, r4, r5, r6, r7, r8⟩ := hrise; omega
  have hsmk : h.sb ≠ mk := by obtain ⟨r1, r2, r3, r4, r5, r6, r7, r8⟩ := hrise; omega
  have hcv := fun w => conv_sh (whole_of n0 n1) w
  go_enter Try.func39, Try.ntmps39
  go_wp2_with fail
  refine region_tail 8 (by kernel_rfl) (by kernel_rfl) ?_
  simp only [List.take_succ_cons, List.take_zero, List.drop_succ_cons, List.drop_zero]
  repeat still_step
  refine wpStill_nil ?_
  go_wp2_with fail
  refine (st64 h.sb 0 now g.now w.drew hc0 hf0).mono ?_
  rintro e W ⟨rfl, hW⟩
  have kS : ShK h w W := by rw [hW]; exact ShK.setCell (a := w) (b := w.drew) (d := ⟨h.sb, 0, none⟩) ⟨rfl, rfl, rfl, Nat.le_refl _, fun _ _ _ _ => rfl⟩ (.int .i64 g.now) rfl
  have rS : Row W h.sb 69 (shL g.now ver hold cs c m h) := by rw [hW]; exact hr.set 0 (.int .i64 g.now)
  have mS : ShMaps W h M FW FK := by
    rw [hW]
    exact ShMaps.setCell (w := w.drew) hm _ (fun j _ => by have := (hrise.w_ge j).1; show h.wAt j ≠ h.sb; omega) (fun j _ => by have := (hrise.k_ge j).1; show h.kAt j ≠ h.sb; omega)
  have lS : Row W lb 121 (LR g.now mw mk) := by
    have hx : Row w lb 121 (LR g.now mw mk) := hlr
    rw [hW]
    exact Row.setElse (w := w.drew) (a := ⟨h.sb, 0, none⟩) hx (fun e => hsl e.symm) _
  have wS : IMap Try.prog 2 W mw g.words.length (wdF g.words g.dead td) := by rw [hW]; exact IMap.setCell (w := w.drew) hlw (by show mw ≠ h.sb; omega) _
  have yS : IMap Try.prog 2 W mk g.keys.length (kyF g.keys) := by rw [hW]; exact IMap.setCell (w := w.drew) hlk (by show mk ≠ h.sb; omega) _
  have KS := Lib.hid kS
  have RS := Lib.hid rS
  have MS := Lib.hid mS
  have LS := Lib.hid lS
  have WS := Lib.hid wS
  have YS := Lib.hid yS
  have hg1 : W.cell? ⟨lb, 1, none⟩ = some (.map (some mw)) := lS.cell 1
  have hWz := rS.lt
  have hLz := lS.lt
  have hMw := wS.lt
  have hMk := yS.lt
  have HR := Lib.hid hrise
  have HG := Lib.hid hg
  have hk3W := wAt_lt hrise mS
  have hsf := run_store_float
  have e6 : h.sb < h.w0 := hsk.1
  clear hr hm hlr hlw hlk kS rS mS lS wS yS hl0 hcv HR1 HST htd hrise hsk hsz hk3
  clear hW hc0 hf0
  go_wp2_with (at_range; refine wpList_range_I rfl _ 63 rfl Try.underlying63 Try.underlying2 rfl WS.out ?_; intro w0 hr0 hg0 hs0)
  go_frame
  have hK0 := KS.out.none hg0
  have hR0 := RS.out.grownI hg0 (by simp)
  have hM0 := MS.out.grown hg0 (by simp) (by simp)
  have hL0 := LS.out.grownI hg0 (by simp)
  have hY0 := YS.out.grown hg0 (by simp)
  obtain ⟨r, hrr⟩ : ∃ r, r = W.heap.size := ⟨_, rfl⟩
  have hwr : w.heap.size ≤ r := by rw [hrr]; exact KS.out.size
  rw [← hrr] at hr0 hs0 ⊢ hWz hLz hMw hMk hk3W
  clear hg0 hrr KS RS MS LS WS YS hg1
  go_loopw [4] (fun _ wr => KeepW h ver hold cs c m M FW FK g td lb mw mk r w wr) (fun _ wr => wr.rangeLeft mw r)
  case atStart => exact ⟨_, g.words.length, M, hr0, Nat.le_refl _, hM0.sameW (fun i => by rw [overL_start]), hR0, hL0, hY0, hK0⟩
  case round =>
    clear hr0 hM0 hR0 hL0 hY0 hK0 hs0
    obtain ⟨left, cnt, M', hrg, hMc, hms, hrs, hls, hys, hks⟩ := hrel
    have HRG := Lib.hid hrg
    have HMS := Lib.hid hms
    have HRS := Lib.hid hrs
    have HLS := Lib.hid hls
    have HYS := Lib.hid hys
    have HKS := Lib.hid hks
    have hl2 : wr.cell? ⟨lb, 2, none⟩ = some (.map (some mk)) := hls.cell 2
    have hwz := hls.lt
    have hmz := hys.lt
    have hsz := hrs.lt
    have hrz := hrg.lt
    have hbz := hrg.map.lt
    clear hrg hms hrs hls hys hks
    go_wp2_with (at_next; refine wpList_next_I rfl _ rfl Try.underlying2 rfl HRG.out ?_ ?_)
    · intro hc hl
      clear hrz hbz
      go_wp2_with (at_range; refine wpList_range_I rfl _ 64 rfl Try.underlying64 Try.underlying2 rfl HYS.out ?_; intro w0 hr0 hg0 hs0)
      go_frame
      have hK0 := HKS.out.none hg0
      have hR0 := HRS.out.grownI hg0 (by simp)
      have hM0 := HMS.out.grown hg0 (by simp) (by simp)
      rw [overL_end hl] at hM0
      obtain ⟨r2, hr2⟩ : ∃ r, r = wr.heap.size := ⟨_, rfl⟩
      have hwr2 : w.heap.size ≤ r2 := by rw [hr2]; exact HKS.out.size
      have hk3W2 : h.k3 < r2 := by rw [hr2]; exact wAt_lt HR.out HMS.out
      rw [← hr2] at hr0 hs0 ⊢ hmz hsz
      clear hg0 hr2 HRG HMS HRS HLS HYS HKS hl2
      go_loopw [6] (fun _ wr => KeepK h ver hold cs c m M' (over (wdF g.words g.dead td) FW) FK g mk r2 w wr) (fun _ wr => wr.rangeLeft mk r2)
      case atStart => exact ⟨_, g.keys.length, M', hr0, Nat.le_refl _, hM0.sameK (fun i => by rw [overL_start]), hR0, hK0⟩
      case round =>
        clear hr0 hM0 hR0 hK0 hs0
        obtain ⟨left, cnt, M'', hrg, hMc2, hms, hrs, hks⟩ := hrel
        have HRG := Lib.hid hrg
        have HMS := Lib.hid hms
        have HRS := Lib.hid hrs
        have HKS := Lib.hid hks
        have hwz := hrs.lt
        have hrz := hrg.lt
        have hbz := hrg.map.lt
        clear hrg hms hrs hks
        go_wp2_with (at_next; refine wpList_next_I rfl _ rfl Try.underlying2 rfl HRG.out ?_ ?_)
        · intro hc hl
          go_wp2_with fail
          go_returns
          refine ⟨rfl, HRS.out, ?_, HKS.out⟩
          rw [← overL_end (F := kyF g.keys) (G := FK) hl]
          exact HMS.out.mono (by omega)
        · intro x v w1 cnt1 hwx hlx hFx hrg1 hlt hg1 hs1 hen
          obtain ⟨x0, x1, y, hv⟩ := kyF_no HG.out hFx
          obtain ⟨s, hs4, hsx⟩ : ∃ s : Nat, s < 4 ∧ x % 4 = (s : Int) := ⟨(x % 4).toNat, by omega, by omega⟩
          have HV := Lib.hid hv
          have HF := Lib.hid hFx
          have HR1 := Lib.hid hrg1
          rw [hv, hkV] at hen
          rw [HV.out, hkV]
          have hrow : ∀ j, j < 4 → some (h.wAt j) ≠ some r2 := fun j hj e => by have := Option.some.inj e; have := (HR.out.w_ge j).2.2; omega
          have hrok : ∀ j, j < 4 → some (h.kAt j) ≠ some r2 := fun j hj e => by have := Option.some.inj e; have := (HR.out.k_ge j).2.2; omega
          obtain ⟨w2, hw2⟩ : ∃ w2 : World, w2 = w1.alloc (.cells #[.int .i64 y.client, .int .i64 y.fam, .bool y.refresh, .float .f64 (floatOfInt .f64 y.till), .int .i64 y.state] 127) := ⟨_, rfl⟩
          have hb2 : Below w1.heap.size w1 w2 := by rw [hw2]; exact (Below.refl _ _).alloc (Nat.le_refl _) _
          have HM2 := Lib.hid ((HMS.out.grown hg1 hrow hrok).later hb2)
          have HS2 := Lib.hid ((HRS.out.grownI hg1 (fun e => by have := Option.some.inj e; omega)).below hb2 (by omega))
          have HK2 := Lib.hid ((HKS.out.grown hg1 (.inr (.inr (by omega)))).later hb2)
          have HB2 := Lib.hid hb2
          obtain ⟨nn, hnn, hmm⟩ := HM2.out.2 s hs4
          have HMM := Lib.hid hmm
          have cst : w2.cell? ⟨h.sb, 6 + s * 4 + 3, none⟩ = some (.map (some (h.kAt s))) := (HS2.out.cell (6 + s * 4 + 3)).trans (by rw [show 6 + s * 4 + 3 = 9 + 4 * s by omega]; exact shL_k _ _ _ _ _ _ _ hs4)
          have HW2 := Lib.hid hw2
          rw [hw2] at cst
          clear hv hFx hrg1 hg1 hb2 hmm hw2
          go_wp2_with fail
          refine region_tail 8 (by kernel_rfl) (by kernel_rfl) ?_
          simp only [List.take_succ_cons, List.take_zero, List.drop_succ_cons, List.drop_zero]
          repeat still_step
          still_call (stripeOf_any h.sb x s _ (by omega) hsx hs4)
          repeat still_step
          refine wpStill_nil ?_
          rw [← HW2.out]
          refine wpList_put_I rfl (.tmp 50) (.tmp 51) (.tmp 52) 64 rfl Try.underlying64 Try.underlying2 rfl HMM.out (by unfold maxLen; omega) x rfl hwx (hkV y) rfl ?_
          intro w3 hm3 hg3'
          have hg3 := drew_grown hg3'
          have hr3 := (HR1.out.kept (gb_below (r := none) HB2.out) (by simp) (by simp)).kept hg3 (fun e => by have := Option.some.inj e; have := (HR.out.k_ge s).2.2; omega) (fun e => by have := Option.some.inj e; have := (HR.out.k_ge s).2.2; omega)
          have hS3 := ShMaps.putK (v := hkV y) HR.out hs4 hsx HM2.out (by have := grow_le nn (stF (overL (kyF g.keys) FK left) s x); omega) hm3 hg3
          have hs3 := HS2.out.grownI hg3 (fun e => by have := Option.some.inj e; have := (HR.out.k_ge s).1; omega)
          have hk3' := HK2.out.grown hg3 (.inl ⟨(HR.out.k_ge s).2.1, (HR.out.k_ge s).2.2⟩)
          go_frame
          go_wp2_with fail
          go_roundw
          case rel => exact ⟨_, cnt1, M'' + 1, hr3, by omega, hS3.sameK (fun i => by rw [← HV.out]; exact overL_step HF.out i), hs3, hk3'⟩
          case measure => rw [hr3.left_eq, HRG.out.left_eq]; exact hlt
    · intro x v w1 cnt1 hwx hlx hFx hrg1 hlt hg1 hs1 hen
      obtain ⟨x0, x1, y, hv⟩ := wdF_no HG.out hFx
      obtain ⟨s, hs4, hsx⟩ : ∃ s : Nat, s < 4 ∧ x % 4 = (s : Int) := ⟨(x % 4).toNat, by omega, by omega⟩
      obtain ⟨dd, hdd⟩ : ∃ dd, dd = ddB g.dead td x := ⟨_, rfl⟩
      rw [← hdd] at hv
      have HV := Lib.hid hv
      have HF := Lib.hid hFx
      have HR1 := Lib.hid hrg1
      rw [hv, hwV] at hen
      rw [HV.out, hwV]
      have hrow : ∀ j, j < 4 → some (h.wAt j) ≠ some r := fun j hj e => by have := Option.some.inj e; have := (HR.out.w_ge j).2.2; omega
      have hrok : ∀ j, j < 4 → some (h.kAt j) ≠ some r := fun j hj e => by have := Option.some.inj e; have := (HR.out.k_ge j).2.2; omega
      obtain ⟨w2, hw2⟩ : ∃ w2 : World, w2 = w1.alloc (.cells #[.int .i64 y.client, .string y.shade, .float .f64 (floatOfInt .f64 y.till), .bool y.used, .float .f64 dd] 123) := ⟨_, rfl⟩
      have hb2 : Below w1.heap.size w1 w2 := by rw [hw2]; exact (Below.refl _ _).alloc (Nat.le_refl _) _
      have HM2 := Lib.hid ((HMS.out.grown hg1 hrow hrok).later hb2)
      have HS2 := Lib.hid ((HRS.out.grownI hg1 (fun e => by have := Option.some.inj e; omega)).below hb2 (by omega))
      have HL2 := Lib.hid ((HLS.out.grownI hg1 (fun e => by have := Option.some.inj e; omega)).below hb2 (by omega))
      have HY2 := Lib.hid ((HYS.out.grown hg1 (fun e => by have := Option.some.inj e; omega)).later hb2)
      have HK2 := Lib.hid ((HKS.out.grown hg1 (.inr (.inr (by omega)))).later hb2)
      have HB2 := Lib.hid hb2
      obtain ⟨nn, hnn, hmm⟩ := HM2.out.1 s hs4
      have HMM := Lib.hid hmm
      have cst : w2.cell? ⟨h.sb, 6 + s * 4 + 2, none⟩ = some (.map (some (h.wAt s))) := (HS2.out.cell (6 + s * 4 + 2)).trans (by rw [show 6 + s * 4 + 2 = 8 + 4 * s by omega]; exact shL_w _ _ _ _ _ _ _ hs4)
      have HW2 := Lib.hid hw2
      rw [hw2] at cst
      clear hv hFx hrg1 hg1 hdd hb2 hmm hw2
      go_wp2_with fail
      refine region_tail 8 (by kernel_rfl) (by kernel_rfl) ?_
      simp only [List.take_succ_cons, List.take_zero, List.drop_succ_cons, List.drop_zero]
      repeat still_step
      still_call (stripeOf_any h.sb x s _ (by omega) hsx hs4)
      repeat still_step
      refine wpStill_nil ?_
      rw [← HW2.out]
      refine wpList_put_I rfl (.tmp 32) (.tmp 33) (.tmp 34) 63 rfl Try.underlying63 Try.underlying2 rfl HMM.out (by unfold maxLen; omega) x rfl hwx (hwV y dd) rfl ?_
      intro w3 hm3 hg3'
      have hg3 := drew_grown hg3'
      have hr3 := (HR1.out.kept (gb_below (r := none) HB2.out) (by simp) (by simp)).kept hg3 (fun e => by have := Option.some.inj e; have := (HR.out.w_ge s).2.2; omega) (fun e => by have := Option.some.inj e; have := (HR.out.w_ge s).2.2; omega)
      have hS3 := ShMaps.putW (v := hwV y dd) HR.out hs4 hsx HM2.out (by have := grow_le nn (stF (overL (wdF g.words g.dead td) FW left) s x); omega) hm3 hg3
      have hs3 := HS2.out.grownI hg3 (fun e => by have := Option.some.inj e; have := (HR.out.w_ge s).1; omega)
      have hl3 := HL2.out.grownI hg3 (fun e => by have := Option.some.inj e; have := (HR.out.w_ge s).2.2; omega)
      have hy3 := HY2.out.grown hg3 (fun e => by have := Option.some.inj e; have := (HR.out.w_ge s).2.2; omega)
      have hk3' := HK2.out.grown hg3 (.inl ⟨(HR.out.w_ge s).2.1, (HR.out.w_ge s).2.2⟩)
      go_frame
      go_wp2_with fail
      go_roundw
      case rel => exact ⟨_, cnt1, M' + 1, hr3, by omega, hS3.sameW (fun i => by rw [← HV.out]; exact overL_step HF.out i), hs3, hl3, hy3, hk3'⟩
      case measure => rw [hr3.left_eq, HRG.out.left_eq]; exact hlt
end Go.Proofs.Ytchfgdiipjbgoaa
