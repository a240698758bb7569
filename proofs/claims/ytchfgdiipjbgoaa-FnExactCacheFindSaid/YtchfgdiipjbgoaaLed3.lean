/- A ledger: a word comes to be one of the dead. -/
import Derived.Test.YtchfgdiipjbgoaaLedM
import Derived.Test.YtchfgdiipjbgoaaLed2A
import Derived.Test.YtchfgdiipjbgoaaKept
import Derived.StillTailTactics
namespace Go.Proofs.Ytchfgdiipjbgoaa
open Go Go.RowKit Go.Lib
set_option linter.unusedVariables false

theorem region_tail {P : Program} {id : Nat} {Q : Exit → Act → World → Prop} {a : Act} {w : World} {l : List Oper} (n : Nat) (hm : P.follows .mixedOrders = true) (hB : Region.lexTailB .any l.toArray n = true)
    (h : wpStill P l.toArray w.drew (fun a' => wpList P l.toArray Q (l.drop n) a' w.drew) (l.take n) a) : (Code.region id l.toArray true).wp P Q a w := wp_region_still_tail n hm hB h
def KillKept (B lb mw mk : Nat) (g : Gr) (w : World) (e : Ending) (w' : World) : Prop := e = .returned (.tuple #[]) ∧ LedAt w' B lb mw mk g ∧ Kept w.heap.size lb mw mk w w'
def KillOut (B lb mw mk : Nat) (g : Gr) (w : World) (e : Ending) (w' : World) : Prop := e = .returned (.tuple #[]) ∧ LedAt w' B lb mw mk g ∧ Below B w w'
set_option maxRecDepth 100000 in
set_option maxHeartbeats 1000000 in
theorem kill_kept (lb mw mk B : Nat) (g : Gr) (no : Int) (x : Wd) (w : World) (hl : LedAt w B lb mw mk g) (hx : findW g.words no = some x) (hwf : (Lit.int .i64 no).wf = true) (h0 : 0 ≤ g.now) (hlen : g.words.length ≤ 1000000) :
    Calls Try.prog 63 #[.pointer (some ⟨lb, 0, none⟩), .int .i64 no] w (KillKept B lb mw mk (killG g no) w) := by
  obtain ⟨td, htd, hr, hm, hk, hd⟩ := hl
  obtain ⟨dd, hdd⟩ : ∃ dd, dd = ddB g.dead td no := ⟨_, rfl⟩
  have hlk : (Instr.lookup 63 (.map (some mw)) (.int .i64 no) false).run Try.prog w = .ok (.agg #[.int .i64 x.client, .string x.shade, .float .f64 (floatOfInt .f64 x.till), .bool x.used, .float .f64 dd]) w := by
    have h := hm.look Try.underlying2 Try.underlying63 (hwZ_zero _) hwf
    rw [show (wdF g.words g.dead td no).getD hwZ = hwV x (ddB g.dead td no) by simp [wdF, hx], ← hdd] at h
    exact h
  have hlb := hr.lt
  have hmw := hm.lt
  have hmk := hk.lt
  have c0 := hr.cell 0
  have c1 := hr.cell 1
  have hb1 := (Below.refl w.heap.size w).alloc (Nat.le_refl _) (.cells #[.int .i64 x.client, .string x.shade, .float .f64 (floatOfInt .f64 x.till), .bool x.used, .float .f64 dd] 123)
  have d0 : (w.alloc (.cells #[.int .i64 x.client, .string x.shade, .float .f64 (floatOfInt .f64 x.till), .bool x.used, .float .f64 dd] 123)).cell? ⟨lb, 0, none⟩ = some (.float .f64 (floatOfInt .f64 g.now)) := (hb1.cell (p := ⟨lb, 0, none⟩) hlb).trans c0
  have hb2 := (Below.refl w.heap.size w).alloc (Nat.le_refl _) (.cells #[.int .i64 x.client, .string x.shade, .float .f64 (floatOfInt .f64 x.till), .bool x.used, .float .f64 (floatOfInt .f64 g.now)] 123)
  have e1 : (w.alloc (.cells #[.int .i64 x.client, .string x.shade, .float .f64 (floatOfInt .f64 x.till), .bool x.used, .float .f64 (floatOfInt .f64 g.now)] 123)).cell? ⟨lb, 1, none⟩ = some (.map (some mw)) := (hb2.cell (p := ⟨lb, 1, none⟩) hlb).trans c1
  have hsf := run_store_float
  have HR := Lib.hid (hr.below hb2 hlb)
  have HM := Lib.hid (hm.later hb2)
  have HK := Lib.hid (hk.later hb2)
  have HX := Lib.hid hx
  have HD := Lib.hid hd
  have HT := Lib.hid htd
  have HB := Lib.hid (Kept.of_below (lb := lb) (mw := mw) (mk := mk) ((Below.refl w.heap.size w).alloc (Nat.le_refl _) (.cells #[.int .i64 x.client, .string x.shade, .float .f64 (floatOfInt .f64 x.till), .bool x.used, .float .f64 (floatOfInt .f64 g.now)] 123)))
  have HW := Lib.hid hwf
  clear hr hm hk hx hd htd hb1 hb2 hdd hwf
  go_enter Try.func63, Try.ntmps63
  go_wp2_with fail
  clear hlk c0 d0
  refine region_tail 6 (by kernel_rfl) (by kernel_rfl) ?_
  simp only [List.take_succ_cons, List.take_zero, List.drop_succ_cons, List.drop_zero]
  repeat still_step
  refine wpStill_nil ?_
  refine wpList_put_I rfl (.tmp 19) (.tmp 20) (.tmp 21) 63 rfl Try.underlying63 Try.underlying2 rfl HM.out (by unfold maxLen; omega) no rfl HW.out (hwV x (floatOfInt .f64 g.now)) rfl ?_
  intro w3 hm3 hg3'
  have hg3 : (w.alloc (.cells #[.int .i64 x.client, .string x.shade, .float .f64 (floatOfInt .f64 x.till), .bool x.used, .float .f64 (floatOfInt .f64 g.now)] 123)).grownBy w3 (some mw) := ⟨hg3'.os, hg3'.tape, hg3'.output, hg3'.size, hg3'.block⟩
  have hne1 : some lb ≠ some mw := fun e => HD.out.2.2.2.1 (Option.some.inj e)
  have hne2 : some mk ≠ some mw := fun e => HD.out.2.2.2.2.2 (Option.some.inj e).symm
  have HL := Lib.hid (LedAt.killed HT.out h0 HX.out (HR.out.grownI hg3 hne1) hm3 (HK.out.grown hg3 hne2) HD.out)
  have HB3 := Lib.hid (HB.out.grown hg3 (by simp) (.inr (.inl rfl)))
  clear hm3 hg3 hg3'
  go_wp2_with fail
  go_returns
  exact ⟨rfl, HL.out, HB3.out⟩
theorem kill_any (lb mw mk B : Nat) (g : Gr) (no : Int) (x : Wd) (w : World) (hl : LedAt w B lb mw mk g) (hx : findW g.words no = some x) (hwf : (Lit.int .i64 no).wf = true) (h0 : 0 ≤ g.now) (hlen : g.words.length ≤ 1000000) :
    Calls Try.prog 63 #[.pointer (some ⟨lb, 0, none⟩), .int .i64 no] w (KillOut B lb mw mk (killG g no) w) := by
  have hz : lb < w.heap.size := by obtain ⟨td, htd, hr, _⟩ := hl; exact hr.lt
  have hp : B ≤ lb ∧ B ≤ mw ∧ B ≤ mk := by obtain ⟨td, htd, hr, hw, hk, hd⟩ := hl; omega
  refine (kill_kept lb mw mk B g no x w hl hx hwf h0 hlen).mono ?_
  rintro e w' ⟨rfl, h1, h2⟩
  exact ⟨rfl, h1, h2.below (by omega) hp.1 hp.2.1 hp.2.2⟩
end Go.Proofs.Ytchfgdiipjbgoaa
