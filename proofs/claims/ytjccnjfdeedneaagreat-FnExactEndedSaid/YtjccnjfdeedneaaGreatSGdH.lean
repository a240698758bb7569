/- The numbers under which this dump holds the functions and types of sync.Mutex, and that it holds them. What all share: numbers that are atomic; where the shared store lies. What all share: a map laid over another one. What all share: a ledger is kept. What all share: the locks of all stripes. What all share: the locks of all stripes given back, as a deferred call. What all share: the time read. -/
import Derived.Test.YtjccnjfdeedneaaGreatProg
import Derived.Conc.RwLib
import Derived.KernelRfl
import Derived.Test.YtjccnjfdeedneaaGreatSGdC
import Derived.Laws.LoneSync
import Derived.Conc.MuLone
import Derived.LoopN
import Derived.Test.YtjccnjfdeedneaaGreatSGdA
import Derived.Laws.FloatArith
import Derived.StillTailTactics
import Derived.Defers
namespace Go.Proofs.YtjccnjfdeedneaaGreat
open Go
abbrev muL : Go.Conc.Locks.MuLink := { lock := 133, unlock := 134, ilock := 177, iunlock := 178, lockSlow := 207, unlockSlow := 210, disable := 203, enable := 205, acquire := 206, relMerge := 208, cas32 := 204, add32 := 209, tMutex := 114, tIMutex := 112, tPMutex := 254, tPIMutex := 278, tPI32 := 280, tUP := 282, tNoCopy := 109, tU32 := 110 }
theorem muLib : Go.Conc.Locks.MuLib Tryz.prog muL :=
 ⟨Tryz.func133, Tryz.func134, Tryz.func177, Tryz.func178, Tryz.func203, Tryz.func205, Tryz.func206, Tryz.func208, Tryz.func204, Tryz.func209, Tryz.underlying112, Tryz.runUnderlying112, Tryz.sizeOf112, Tryz.isAgg112, Tryz.zeroValue112, Tryz.underlying114, Tryz.runUnderlying114, Tryz.sizeOf114, Tryz.isAgg114, Tryz.zeroValue114, Tryz.underlying254, Tryz.runUnderlying254, Tryz.sizeOf254, Tryz.isAgg254, Tryz.zeroValue254, Tryz.underlying278, Tryz.runUnderlying278, Tryz.sizeOf278, Tryz.isAgg278, Tryz.zeroValue278, Tryz.underlying280, Tryz.runUnderlying280, Tryz.sizeOf280, Tryz.isAgg280, Tryz.zeroValue280, Tryz.underlying282, Tryz.runUnderlying282, Tryz.sizeOf282, Tryz.isAgg282, Tryz.zeroValue282, Tryz.underlying109, Tryz.runUnderlying109, Tryz.sizeOf109, Tryz.isAgg109, Tryz.zeroValue109, Tryz.underlying21, Tryz.runUnderlying21, Tryz.sizeOf21, Tryz.isAgg21, Tryz.zeroValue21, (by kernel_rfl)⟩
end Go.Proofs.YtjccnjfdeedneaaGreat
/- What all share: numbers that are atomic; where the shared store lies. -/
namespace Go.Proofs.YtjccnjfdeedneaaGreat
open Go Go.RowKit Go.Lib Go.MuLone
set_option linter.unusedVariables false
set_option maxRecDepth 100000

theorem st64 (b off : Nat) (v n : Int) (w : World) (h : w.cell? ⟨b, off, none⟩ = some (.int .i64 v)) (hz : w.frozen? ⟨b, off, none⟩ = false) : Calls Tryz.prog 111 #[.pointer (some ⟨b, off, none⟩), .int .i64 n] w fun e w' => e = .returned (.tuple #[]) ∧ w' = w.setCell ⟨b, off, none⟩ (.int .i64 n) := by
 have hx := run_call_store (P := Tryz.prog) Tryz.func164 (by kernel_rfl) (by kernel_rfl) (by kernel_rfl) (by kernel_rfl) (k := .i64) (y := n) h hz
 go_enter Tryz.func111, Tryz.ntmps111
 go_wp2_with fail
 go_returns
 exact ⟨rfl, rfl⟩
/-- Where the shared store lies: its block, the maps of its stripes. -/
structure ShH where
 sb : Nat
 w0 : Nat
 k0 : Nat
 w1 : Nat
 k1 : Nat
 w2 : Nat
 k2 : Nat
 w3 : Nat
 k3 : Nat
/-- Its cells; m: the state of the stripes' locks, c: that of the cache's. -/
def shL (now ver hold : Int) (cs : Value) (c m : Int) (h : ShH) : List Value :=
 [.int .i64 now, .int .i64 ver, .int .i64 hold, .int .i32 c, .int .u32 0, cs, .int .i32 m, .int .u32 0, .map (some h.w0), .map (some h.k0), .int .i32 m, .int .u32 0, .map (some h.w1), .map (some h.k1),
  .int .i32 m, .int .u32 0, .map (some h.w2), .map (some h.k2), .int .i32 m, .int .u32 0, .map (some h.w3), .map (some h.k3)]
def ShH.wAt (h : ShH) : Nat → Nat | 0 => h.w0 | 1 => h.w1 | 2 => h.w2 | _ => h.w3
def ShH.kAt (h : ShH) : Nat → Nat | 0 => h.k0 | 1 => h.k1 | 2 => h.k2 | _ => h.k3
/-- The blocks lie one behind the other. -/
def ShH.Rise (h : ShH) : Prop := h.sb < h.w0 ∧ h.w0 < h.k0 ∧ h.k0 < h.w1 ∧ h.w1 < h.k1 ∧ h.k1 < h.w2 ∧ h.w2 < h.k2 ∧ h.k2 < h.w3 ∧ h.w3 < h.k3
theorem shL_w (now ver hold : Int) (cs : Value) (c m : Int) (h : ShH) {j : Nat} (hj : j < 4) : (shL now ver hold cs c m h)[8 + 4 * j]? = some (.map (some (h.wAt j))) := by
 rcases (show j = 0 ∨ j = 1 ∨ j = 2 ∨ j = 3 by omega) with rfl | rfl | rfl | rfl <;> rfl
theorem shL_k (now ver hold : Int) (cs : Value) (c m : Int) (h : ShH) {j : Nat} (hj : j < 4) : (shL now ver hold cs c m h)[9 + 4 * j]? = some (.map (some (h.kAt j))) := by
 rcases (show j = 0 ∨ j = 1 ∨ j = 2 ∨ j = 3 by omega) with rfl | rfl | rfl | rfl <;> rfl
theorem ShH.Rise.w_ge {h : ShH} (hr : h.Rise) (j : Nat) : h.sb < h.wAt j ∧ h.w0 ≤ h.wAt j ∧ h.wAt j ≤ h.k3 := by
 obtain ⟨h1, h2, h3, h4, h5, h6, h7, h8⟩ := hr
 unfold ShH.wAt; split <;> omega
theorem ShH.Rise.k_ge {h : ShH} (hr : h.Rise) (j : Nat) : h.sb < h.kAt j ∧ h.w0 ≤ h.kAt j ∧ h.kAt j ≤ h.k3 := by
 obtain ⟨h1, h2, h3, h4, h5, h6, h7, h8⟩ := hr
 unfold ShH.kAt; split <;> omega
theorem ShH.Rise.wk {h : ShH} (hr : h.Rise) (i j : Nat) : h.wAt i ≠ h.kAt j := by
 obtain ⟨h1, h2, h3, h4, h5, h6, h7, h8⟩ := hr
 unfold ShH.wAt ShH.kAt; split <;> split <;> omega
theorem ShH.Rise.ww {h : ShH} (hr : h.Rise) {i j : Nat} (hi : i < 4) (hj : j < 4) (hne : i ≠ j) : h.wAt i ≠ h.wAt j := by
 obtain ⟨h1, h2, h3, h4, h5, h6, h7, h8⟩ := hr
 rcases (show i = 0 ∨ i = 1 ∨ i = 2 ∨ i = 3 by omega) with rfl | rfl | rfl | rfl <;> rcases (show j = 0 ∨ j = 1 ∨ j = 2 ∨ j = 3 by omega) with rfl | rfl | rfl | rfl <;> simp only [ShH.wAt] <;> omega
theorem ShH.Rise.kk {h : ShH} (hr : h.Rise) {i j : Nat} (hi : i < 4) (hj : j < 4) (hne : i ≠ j) : h.kAt i ≠ h.kAt j := by
 obtain ⟨h1, h2, h3, h4, h5, h6, h7, h8⟩ := hr
 rcases (show i = 0 ∨ i = 1 ∨ i = 2 ∨ i = 3 by omega) with rfl | rfl | rfl | rfl <;> rcases (show j = 0 ∨ j = 1 ∨ j = 2 ∨ j = 3 by omega) with rfl | rfl | rfl | rfl <;> simp only [ShH.kAt] <;> omega
/-- The stripes hold FW, FK, each its share; no more than M entries in any. -/
def ShMaps (w : World) (h : ShH) (M : Nat) (FW FK : Int → Option Value) : Prop :=
 (∀ j, j < 4 → ∃ n, n ≤ M ∧ IMap Tryz.prog 2 w (h.wAt j) n (stF FW j)) ∧ (∀ j, j < 4 → ∃ n, n ≤ M ∧ IMap Tryz.prog 2 w (h.kAt j) n (stF FK j))
theorem ShMaps.later {w w' : World} {h : ShH} {M : Nat} {FW FK : Int → Option Value} (k : ShMaps w h M FW FK) (hb : Below w.heap.size w w') : ShMaps w' h M FW FK :=
 ⟨fun j hj => by obtain ⟨n, h1, h2⟩ := k.1 j hj; exact ⟨n, h1, h2.later hb⟩, fun j hj => by obtain ⟨n, h1, h2⟩ := k.2 j hj; exact ⟨n, h1, h2.later hb⟩⟩
theorem ShMaps.grown {w w' : World} {h : ShH} {M : Nat} {FW FK : Int → Option Value} {r : Option Nat} (k : ShMaps w h M FW FK) (hg : w.grownBy w' r) (h1 : ∀ j, j < 4 → some (h.wAt j) ≠ r) (h2 : ∀ j, j < 4 → some (h.kAt j) ≠ r) : ShMaps w' h M FW FK :=
 ⟨fun j hj => by obtain ⟨n, a, b⟩ := k.1 j hj; exact ⟨n, a, b.grown hg (h1 j hj)⟩, fun j hj => by obtain ⟨n, a, b⟩ := k.2 j hj; exact ⟨n, a, b.grown hg (h2 j hj)⟩⟩
theorem ShMaps.setCell {w : World} {h : ShH} {M : Nat} {FW FK : Int → Option Value} (k : ShMaps w h M FW FK) {a : Addr} (u : Value) (h1 : ∀ j, j < 4 → h.wAt j ≠ a.block) (h2 : ∀ j, j < 4 → h.kAt j ≠ a.block) : ShMaps (w.setCell a u) h M FW FK :=
 ⟨fun j hj => by obtain ⟨n, x, y⟩ := k.1 j hj; exact ⟨n, x, y.setCell (h1 j hj) u⟩, fun j hj => by obtain ⟨n, x, y⟩ := k.2 j hj; exact ⟨n, x, y.setCell (h2 j hj) u⟩⟩
/-- One entry more, in its stripe. -/
theorem ShMaps.putW {w w' : World} {h : ShH} {M n : Nat} {FW FK : Int → Option Value} {x : Int} {v : Value} {s : Nat} (hr : h.Rise) (hs : s < 4) (hx : x % 4 = s) (k : ShMaps w h M FW FK) (hn : n ≤ M + 1) (hm : IMap Tryz.prog 2 w' (h.wAt s) n (setAt (stF FW s) x v)) (hg : w.grownBy w' (some (h.wAt s))) : ShMaps w' h (M + 1) (setAt FW x v) FK := by
 refine ⟨fun j hj => ?_, fun j hj => ?_⟩
 ·by_cases e : j = s
  ·subst e
   exact ⟨n, hn, hm.same (stF_set_here hx)⟩
  ·obtain ⟨m, a, b⟩ := k.1 j hj
   exact ⟨m, by omega, (b.grown hg (fun e2 => hr.ww hj hs e (Option.some.inj e2))).same (stF_set_else (by omega))⟩
 ·obtain ⟨m, a, b⟩ := k.2 j hj
  exact ⟨m, by omega, b.grown hg (fun e2 => hr.wk s j (Option.some.inj e2).symm)⟩
theorem ShMaps.putK {w w' : World} {h : ShH} {M n : Nat} {FW FK : Int → Option Value} {x : Int} {v : Value} {s : Nat} (hr : h.Rise) (hs : s < 4) (hx : x % 4 = s) (k : ShMaps w h M FW FK) (hn : n ≤ M + 1) (hm : IMap Tryz.prog 2 w' (h.kAt s) n (setAt (stF FK s) x v)) (hg : w.grownBy w' (some (h.kAt s))) : ShMaps w' h (M + 1) FW (setAt FK x v) := by
 refine ⟨fun j hj => ?_, fun j hj => ?_⟩
 ·obtain ⟨m, a, b⟩ := k.1 j hj
  exact ⟨m, by omega, b.grown hg (fun e2 => hr.wk j s (Option.some.inj e2))⟩
 ·by_cases e : j = s
  ·subst e
   exact ⟨n, hn, hm.same (stF_set_here hx)⟩
  ·obtain ⟨m, a, b⟩ := k.2 j hj
   exact ⟨m, by omega, (b.grown hg (fun e2 => hr.kk hj hs e (Option.some.inj e2))).same (stF_set_else (by omega))⟩
theorem stripeOf_any (sb : Nat) (x : Int) (s : Nat) (w : World) (h0 : 0 ≤ x) (hs : x % 4 = s) (hs4 : s < 4) : Calls Tryz.prog 165 #[.pointer (some ⟨sb, 0, none⟩), .int .i64 x] w fun e w' => e = .returned (.pointer (some ⟨sb, 6 + s * 4, none⟩)) ∧ w' = w := by
 have e1 : Int.tmod x 4 = (s : Int) := by rw [Int.tmod_eq_emod_of_nonneg h0]; exact hs
 go_enter Tryz.func165, Tryz.ntmps165
 go_wp2_with fail
 go_ret
 exact ⟨rfl, rfl⟩
end Go.Proofs.YtjccnjfdeedneaaGreat
/- What all share: a map laid over another one. -/
namespace Go.Proofs.YtjccnjfdeedneaaGreat
open Go Go.RowKit Go.Lib Go.MuLone
set_option linter.unusedVariables false
set_option maxRecDepth 100000

theorem gb_below {w w' : World} {r : Option Nat} (h : Below w.heap.size w w') : w.grownBy w' r := ⟨h.os, h.tape, h.output, h.size, fun k hk _ => h.block k hk⟩
theorem gb_skip {w w1 w2 : World} {d r : Nat} (h : w.grownBy w1 (some d)) (hg : w1.grownBy w2 (some r)) (hr : w.heap.size ≤ r ∨ r = d) : w.grownBy w2 (some d) :=
 ⟨hg.os.trans h.os, hg.tape.trans h.tape, hg.output.trans h.output, Nat.le_trans h.size hg.size, fun k hk hne => (hg.block k (by have := h.size; omega) (fun e => by
  have := Option.some.inj e
  have h2 : k ≠ d := fun e2 => hne (by rw [e2])
  omega)).trans (h.block k hk hne)⟩
theorem gb_later {w w1 w2 : World} {d : Nat} (h : w.grownBy w1 (some d)) (hb : Below w1.heap.size w1 w2) : w.grownBy w2 (some d) :=
 ⟨hb.os.trans h.os, hb.tape.trans h.tape, hb.output.trans h.output, Nat.le_trans h.size hb.size, fun k hk hne => (hb.block k (by have := h.size; omega)).trans (h.block k hk hne)⟩
theorem gb_none {w w1 : World} {d : Nat} (h : w.grownBy w1 none) : w.grownBy w1 (some d) := ⟨h.os, h.tape, h.output, h.size, fun k hk _ => h.block k hk (by simp)⟩
/-- What the elements of a map of words look like, of a map of keys. -/
def WSh (F : Int → Option Value) : Prop := ∀ i v, F i = some v → ∃ c s t u d, v = .agg #[.int .i64 c, .string s, .float .f64 t, .bool u, .float .f64 d]
def KSh (F : Int → Option Value) : Prop := ∀ i v, F i = some v → ∃ c f b t s, v = .agg #[.int .i64 c, .int .i64 f, .bool b, .float .f64 t, .int .i64 s]
end Go.Proofs.YtjccnjfdeedneaaGreat
/- What all share: a ledger is kept. -/
namespace Go.Proofs.YtjccnjfdeedneaaGreat
open Go Go.RowKit Go.Lib Go.MuLone
set_option linter.unusedVariables false
set_option maxRecDepth 100000

theorem conv_sh {n : Int} (hn : Whole n) (w : World) : (convert 205 2 (.float .f64 (floatOfInt .f64 n))).run Tryz.prog w = .ok (.int .i64 n) w :=
 run_convert_float_int w 205 2 .f64 .i64 _ n (by rw [Tryz.underlying205]; rfl) Tryz.underlying2 (toInt_of hn)
/-- The ledger, with the times at which its dead died. -/
def LedSh (w : World) (B lb mw mk : Nat) (g : Gr) (td : Int → Int) : Prop := (∀ i, 0 ≤ td i ∧ td i ≤ g.now) ∧ Row w lb 210 (LR g.now mw mk) ∧
 IMap Tryz.prog 2 w mw g.words.length (wdF g.words g.dead td) ∧ IMap Tryz.prog 2 w mk g.keys.length (kyF g.keys) ∧ B ≤ lb ∧ B ≤ mw ∧ B ≤ mk ∧ lb ≠ mw ∧ lb ≠ mk ∧ mw ≠ mk
theorem LedAt.sh {w : World} {B lb mw mk : Nat} {g : Gr} (h : LedAt w B lb mw mk g) : ∃ td, LedSh w B lb mw mk g td := h
/-- Nothing that was there has changed but the shared store's own block and its stripes' maps. -/
structure ShK (h : ShH) (w w' : World) : Prop where
 os : w'.os = w.os
 tape : w'.tape = w.tape
 output : w'.output = w.output
 size : w.heap.size ≤ w'.heap.size
 block : ∀ k, k < w.heap.size → k ≠ h.sb → (k < h.w0 ∨ h.k3 < k) → w'.heap[k]? = w.heap[k]?
theorem ShK.refl (h : ShH) (w : World) : ShK h w w := ⟨rfl, rfl, rfl, Nat.le_refl _, fun _ _ _ _ => rfl⟩
theorem ShK.trans {h : ShH} {a b c : World} (k : ShK h a b) (l : ShK h b c) : ShK h a c :=
 ⟨l.os.trans k.os, l.tape.trans k.tape, l.output.trans k.output, Nat.le_trans k.size l.size, fun i hi h1 h2 => (l.block i (by have := k.size; omega) h1 h2).trans (k.block i hi h1 h2)⟩
theorem ShK.later {h : ShH} {a b c : World} (k : ShK h a b) (l : Below b.heap.size b c) : ShK h a c := k.trans ⟨l.os, l.tape, l.output, l.size, fun i hi _ _ => l.block i hi⟩
theorem ShK.grown {h : ShH} {a b c : World} {j : Nat} (k : ShK h a b) (hg : b.grownBy c (some j)) (hj : (h.w0 ≤ j ∧ j ≤ h.k3) ∨ j = h.sb ∨ a.heap.size ≤ j) : ShK h a c :=
 ⟨hg.os.trans k.os, hg.tape.trans k.tape, hg.output.trans k.output, Nat.le_trans k.size hg.size, fun i hi h1 h2 => (hg.block i (by have := k.size; omega) (fun e => by have := Option.some.inj e; omega)).trans (k.block i hi h1 h2)⟩
theorem ShK.none {h : ShH} {a b c : World} (k : ShK h a b) (hg : b.grownBy c none) : ShK h a c := k.later ⟨hg.os, hg.tape, hg.output, hg.size, fun i hi => hg.block i hi (by simp)⟩
theorem ShK.setCell {h : ShH} {a b : World} {d : Addr} (k : ShK h a b) (u : Value) (hd : d.block = h.sb) : ShK h a (b.setCell d u) :=
 k.trans ⟨rfl, rfl, rfl, by simp, fun i hi h1 h2 => Below.heap_setCell _ _ _ _ (by omega)⟩
theorem ShK.below {h : ShH} {a b : World} {B : Nat} (k : ShK h a b) (h1 : B ≤ a.heap.size) (h2 : B ≤ h.sb) (h3 : B ≤ h.w0) : Below B a b := ⟨k.os, k.tape, k.output, k.size, fun i hi => k.block i (by omega) (by omega) (.inl (by omega))⟩
theorem Row.setElse {w : World} {q : Nat} {E : TypeId} {l : List Value} (h : Row w q E l) {a : Addr} (hne : q ≠ a.block) (v : Value) : Row (w.setCell a v) q E l := by
 unfold Row at h ⊢
 rw [Below.heap_setCell w a v q hne]
 exact h
theorem ShMaps.mono {w : World} {h : ShH} {M M' : Nat} {FW FK : Int → Option Value} (k : ShMaps w h M FW FK) (hM : M ≤ M') : ShMaps w h M' FW FK :=
 ⟨fun j hj => by obtain ⟨n, a, b⟩ := k.1 j hj; exact ⟨n, by omega, b⟩, fun j hj => by obtain ⟨n, a, b⟩ := k.2 j hj; exact ⟨n, by omega, b⟩⟩
theorem wAt_lt {h : ShH} (hr : h.Rise) {w : World} {M : Nat} {FW FK : Int → Option Value} (k : ShMaps w h M FW FK) : h.k3 < w.heap.size := by
 obtain ⟨n, _, hm⟩ := k.2 3 (by omega)
 exact hm.lt
theorem ShMaps.sameW {w : World} {h : ShH} {M : Nat} {FW FW' FK : Int → Option Value} (k : ShMaps w h M FW FK) (e : ∀ i, FW i = FW' i) : ShMaps w h M FW' FK := by rw [← funext e]; exact k
theorem ShMaps.sameK {w : World} {h : ShH} {M : Nat} {FW FK FK' : Int → Option Value} (k : ShMaps w h M FW FK) (e : ∀ i, FK i = FK' i) : ShMaps w h M FW FK' := by rw [← funext e]; exact k
def KeepW (h : ShH) (ver hold : Int) (cs : Value) (c m : Int) (M : Nat) (FW FK : Int → Option Value) (g : Gr) (td : Int → Int) (lb mw mk r : Nat) (w wr : World) : Prop :=
 ∃ left cnt M', IRanges Tryz.prog 2 wr mw r g.words.length (wdF g.words g.dead td) left cnt ∧ M' + cnt ≤ M + g.words.length ∧ ShMaps wr h M' (overL (wdF g.words g.dead td) FW left) FK ∧
  Row wr h.sb 123 (shL g.now ver hold cs c m h) ∧ Row wr lb 210 (LR g.now mw mk) ∧ IMap Tryz.prog 2 wr mk g.keys.length (kyF g.keys) ∧ ShK h w wr
def KeepK (h : ShH) (ver hold : Int) (cs : Value) (c m : Int) (M : Nat) (FW FK : Int → Option Value) (g : Gr) (mk r : Nat) (w wr : World) : Prop :=
 ∃ left cnt M', IRanges Tryz.prog 2 wr mk r g.keys.length (kyF g.keys) left cnt ∧ M' + cnt ≤ M + g.keys.length ∧ ShMaps wr h M' FW (overL (kyF g.keys) FK left) ∧
  Row wr h.sb 123 (shL g.now ver hold cs c m h) ∧ ShK h w wr
theorem wdF_no {g : Gr} {td : Int → Int} {x : Int} {v : Value} (hg : grantB g = true) (h : wdF g.words g.dead td x = some v) : 1 ≤ x ∧ x ≤ 99 ∧ ∃ y, v = hwV y (ddB g.dead td x) := by
 unfold wdF at h
 cases hf : findW g.words x with
 | none => rw [hf] at h; simp at h
 | some y =>
  obtain ⟨k, h1, h2⟩ := find_mem hf
  have := (wordsOk_get (gr_facts hg).2.2.2.1 h1).1
  rw [hf] at h
  exact ⟨by omega, by omega, y, (Option.some.inj h).symm⟩
theorem kyF_no {g : Gr} {x : Int} {v : Value} (hg : grantB g = true) (h : kyF g.keys x = some v) : 1 ≤ x ∧ x ≤ 999 ∧ ∃ y, v = hkV y := by
 unfold kyF at h
 cases hf : findK g.keys x with
 | none => rw [hf] at h; simp at h
 | some y =>
  obtain ⟨k, h1, h2⟩ := findK_mem hf
  have := (keysOk_get (gr_facts hg).2.2.2.2.1 h1).1
  rw [hf] at h
  exact ⟨by omega, by omega, y, (Option.some.inj h).symm⟩
set_option maxHeartbeats 4000000 in
theorem keep_any {now ver hold : Int} {cs : Value} {c m : Int} {h : ShH} {M B lb mw mk : Nat} {FW FK : Int → Option Value} {g : Gr} {td : Int → Int} {w : World} (hr : Row w h.sb 123 (shL now ver hold cs c m h)) (hrise : h.Rise) (hm : ShMaps w h M FW FK) (hl : LedSh w B lb mw mk g td) (hB : h.k3 < B)
  (hg : grantB g = true) (hM : M ≤ 1000) : Calls Tryz.prog 113 #[.pointer (some ⟨h.sb, 0, none⟩), .pointer (some ⟨lb, 0, none⟩)] w fun e w' => e = .returned (.tuple #[]) ∧
   Row w' h.sb 123 (shL g.now ver hold cs c m h) ∧ ShMaps w' h (M + 60) (over (wdF g.words g.dead td) FW) (over (kyF g.keys) FK) ∧ ShK h w w' := by
 obtain ⟨htd, hlr, hlw, hlk, hBl, hBw, hBk, hn1, hn2, hn3⟩ := hl
 obtain ⟨⟨n0, n1⟩, hw20, hk40, _⟩ := gr_facts hg
 have hsk := hrise.w_ge 0
 have hk3 := wAt_lt hrise hm
 have hsz := hr.lt
 have hc0 := hr.cell 0
 have hf0 := hr.free 0
 have HST := Lib.hid (st64 h.sb 0 now g.now w hc0 hf0)
 have HR1 := Lib.hid (hr.set 0 (.int .i64 g.now))
 have hl0 : w.cell? ⟨lb, 0, none⟩ = some (.float .f64 (floatOfInt .f64 g.now)) := hlr.cell 0
 have hsl : h.sb ≠ lb := by obtain ⟨r1, r2, r3, r4, r5, r6, r7, r8⟩ := hrise; omega
 have hsw : h.sb ≠ mw := by obtain ⟨r1, r2, r3, r4, r5, r6, r7, r8⟩ := hrise; omega
 have hsmk : h.sb ≠ mk := by obtain ⟨r1, r2, r3, r4, r5, r6, r7, r8⟩ := hrise; omega
 have hcv := fun w => conv_sh (whole_of n0 n1) w
 go_enter Tryz.func113, Tryz.ntmps113
 go_wp2_with fail
 refine region_tail 8 (by kernel_rfl) (by kernel_rfl) ?_
 simp only [List.take_succ_cons, List.take_zero, List.drop_succ_cons, List.drop_zero]
 repeat still_step
 refine wpStill_nil ?_
 go_wp2_with fail
 refine (st64 h.sb 0 now g.now w.drew hc0 hf0).mono ?_
 rintro e W ⟨rfl, hW⟩
 have kS : ShK h w W := by rw [hW]; exact ShK.setCell (a := w) (b := w.drew) (d := ⟨h.sb, 0, none⟩) ⟨rfl, rfl, rfl, Nat.le_refl _, fun _ _ _ _ => rfl⟩ (.int .i64 g.now) rfl
 have rS : Row W h.sb 123 (shL g.now ver hold cs c m h) := by rw [hW]; exact hr.set 0 (.int .i64 g.now)
 have mS : ShMaps W h M FW FK := by
  rw [hW]
  exact ShMaps.setCell (w := w.drew) hm _ (fun j _ => by have := (hrise.w_ge j).1; show h.wAt j ≠ h.sb; omega) (fun j _ => by have := (hrise.k_ge j).1; show h.kAt j ≠ h.sb; omega)
 have lS : Row W lb 210 (LR g.now mw mk) := by
  have hx : Row w lb 210 (LR g.now mw mk) := hlr
  rw [hW]
  exact Row.setElse (w := w.drew) (a := ⟨h.sb, 0, none⟩) hx (fun e => hsl e.symm) _
 have wS : IMap Tryz.prog 2 W mw g.words.length (wdF g.words g.dead td) := by rw [hW]; exact IMap.setCell (w := w.drew) hlw (by show mw ≠ h.sb; omega) _
 have yS : IMap Tryz.prog 2 W mk g.keys.length (kyF g.keys) := by rw [hW]; exact IMap.setCell (w := w.drew) hlk (by show mk ≠ h.sb; omega) _
 have KS := Lib.hid kS
 have RS := Lib.hid rS
 have MS := Lib.hid mS
 have LS := Lib.hid lS
 have WS := Lib.hid wS
 have YS := Lib.hid yS
 have hg1 : W.cell? ⟨lb, 1, none⟩ = some (.map (some mw)) := lS.cell 1
 have hWz := rS.lt
 have hLz := lS.lt
 have hMw := wS.lt
 have hMk := yS.lt
 have HR := Lib.hid hrise
 have HG := Lib.hid hg
 have hk3W := wAt_lt hrise mS
 have hsf := run_store_float
 have e6 : h.sb < h.w0 := hsk.1
 clear hr hm hlr hlw hlk kS rS mS lS wS yS hl0 hcv HR1 HST htd hrise hsk hsz hk3
 clear hW hc0 hf0
 go_wp2_with (at_range; refine wpList_range_I rfl _ 117 rfl Tryz.underlying117 Tryz.underlying2 rfl WS.out ?_; intro w0 hr0 hg0 hs0)
 go_frame
 have hK0 := KS.out.none hg0
 have hR0 := RS.out.grownI hg0 (by simp)
 have hM0 := MS.out.grown hg0 (by simp) (by simp)
 have hL0 := LS.out.grownI hg0 (by simp)
 have hY0 := YS.out.grown hg0 (by simp)
 obtain ⟨r, hrr⟩ : ∃ r, r = W.heap.size := ⟨_, rfl⟩
 have hwr : w.heap.size ≤ r := by rw [hrr]; exact KS.out.size
 rw [← hrr] at hr0 hs0 ⊢ hWz hLz hMw hMk hk3W
 clear hg0 hrr KS RS MS LS WS YS hg1
 go_loopw [4] (fun _ wr => KeepW h ver hold cs c m M FW FK g td lb mw mk r w wr) (fun _ wr => wr.rangeLeft mw r)
 case atStart => exact ⟨_, g.words.length, M, hr0, Nat.le_refl _, hM0.sameW (fun i => by rw [overL_start]), hR0, hL0, hY0, hK0⟩
 case round =>
  clear hr0 hM0 hR0 hL0 hY0 hK0 hs0
  obtain ⟨left, cnt, M', hrg, hMc, hms, hrs, hls, hys, hks⟩ := hrel
  have HRG := Lib.hid hrg
  have HMS := Lib.hid hms
  have HRS := Lib.hid hrs
  have HLS := Lib.hid hls
  have HYS := Lib.hid hys
  have HKS := Lib.hid hks
  have hl2 : wr.cell? ⟨lb, 2, none⟩ = some (.map (some mk)) := hls.cell 2
  have hwz := hls.lt
  have hmz := hys.lt
  have hsz := hrs.lt
  have hrz := hrg.lt
  have hbz := hrg.map.lt
  clear hrg hms hrs hls hys hks
  go_wp2_with (at_next; refine wpList_next_I rfl _ rfl Tryz.underlying2 rfl HRG.out ?_ ?_)
  ·intro hc hl
   clear hrz hbz
   go_wp2_with (at_range; refine wpList_range_I rfl _ 118 rfl Tryz.underlying118 Tryz.underlying2 rfl HYS.out ?_; intro w0 hr0 hg0 hs0)
   go_frame
   have hK0 := HKS.out.none hg0
   have hR0 := HRS.out.grownI hg0 (by simp)
   have hM0 := HMS.out.grown hg0 (by simp) (by simp)
   rw [overL_end hl] at hM0
   obtain ⟨r2, hr2⟩ : ∃ r, r = wr.heap.size := ⟨_, rfl⟩
   have hwr2 : w.heap.size ≤ r2 := by rw [hr2]; exact HKS.out.size
   have hk3W2 : h.k3 < r2 := by rw [hr2]; exact wAt_lt HR.out HMS.out
   rw [← hr2] at hr0 hs0 ⊢ hmz hsz
   clear hg0 hr2 HRG HMS HRS HLS HYS HKS hl2
   go_loopw [6] (fun _ wr => KeepK h ver hold cs c m M' (over (wdF g.words g.dead td) FW) FK g mk r2 w wr) (fun _ wr => wr.rangeLeft mk r2)
   case atStart => exact ⟨_, g.keys.length, M', hr0, Nat.le_refl _, hM0.sameK (fun i => by rw [overL_start]), hR0, hK0⟩
   case round =>
    clear hr0 hM0 hR0 hK0 hs0
    obtain ⟨left, cnt, M'', hrg, hMc2, hms, hrs, hks⟩ := hrel
    have HRG := Lib.hid hrg
    have HMS := Lib.hid hms
    have HRS := Lib.hid hrs
    have HKS := Lib.hid hks
    have hwz := hrs.lt
    have hrz := hrg.lt
    have hbz := hrg.map.lt
    clear hrg hms hrs hks
    go_wp2_with (at_next; refine wpList_next_I rfl _ rfl Tryz.underlying2 rfl HRG.out ?_ ?_)
    ·intro hc hl
     go_wp2_with fail
     go_returns
     refine ⟨rfl, HRS.out, ?_, HKS.out⟩
     rw [← overL_end (F := kyF g.keys) (G := FK) hl]
     exact HMS.out.mono (by omega)
    ·intro x v w1 cnt1 hwx hlx hFx hrg1 hlt hg1 hs1 hen
     obtain ⟨x0, x1, y, hv⟩ := kyF_no HG.out hFx
     obtain ⟨s, hs4, hsx⟩ : ∃ s : Nat, s < 4 ∧ x % 4 = (s : Int) := ⟨(x % 4).toNat, by omega, by omega⟩
     have HV := Lib.hid hv
     have HF := Lib.hid hFx
     have HR1 := Lib.hid hrg1
     rw [hv, hkV] at hen
     rw [HV.out, hkV]
     have hrow : ∀ j, j < 4 → some (h.wAt j) ≠ some r2 := fun j hj e => by have := Option.some.inj e; have := (HR.out.w_ge j).2.2; omega
     have hrok : ∀ j, j < 4 → some (h.kAt j) ≠ some r2 := fun j hj e => by have := Option.some.inj e; have := (HR.out.k_ge j).2.2; omega
     obtain ⟨w2, hw2⟩ : ∃ w2 : World, w2 = w1.alloc (.cells #[.int .i64 y.client, .int .i64 y.fam, .bool y.refresh, .float .f64 (floatOfInt .f64 y.till), .int .i64 y.state] 245) := ⟨_, rfl⟩
     have hb2 : Below w1.heap.size w1 w2 := by rw [hw2]; exact (Below.refl _ _).alloc (Nat.le_refl _) _
     have HM2 := Lib.hid ((HMS.out.grown hg1 hrow hrok).later hb2)
     have HS2 := Lib.hid ((HRS.out.grownI hg1 (fun e => by have := Option.some.inj e; omega)).below hb2 (by omega))
     have HK2 := Lib.hid ((HKS.out.grown hg1 (.inr (.inr (by omega)))).later hb2)
     have HB2 := Lib.hid hb2
     obtain ⟨nn, hnn, hmm⟩ := HM2.out.2 s hs4
     have HMM := Lib.hid hmm
     have cst : w2.cell? ⟨h.sb, 6 + s * 4 + 3, none⟩ = some (.map (some (h.kAt s))) := (HS2.out.cell (6 + s * 4 + 3)).trans (by rw [show 6 + s * 4 + 3 = 9 + 4 * s by omega]; exact shL_k _ _ _ _ _ _ _ hs4)
     have HW2 := Lib.hid hw2
     rw [hw2] at cst
     clear hv hFx hrg1 hg1 hb2 hmm hw2
     go_wp2_with fail
     refine region_tail 8 (by kernel_rfl) (by kernel_rfl) ?_
     simp only [List.take_succ_cons, List.take_zero, List.drop_succ_cons, List.drop_zero]
     repeat still_step
     still_call (stripeOf_any h.sb x s _ (by omega) hsx hs4)
     repeat still_step
     refine wpStill_nil ?_
     rw [← HW2.out]
     refine wpList_put_I rfl (.tmp 50) (.tmp 51) (.tmp 52) 118 rfl Tryz.underlying118 Tryz.underlying2 rfl HMM.out (by unfold maxLen; omega) x rfl hwx (hkV y) rfl ?_
     intro w3 hm3 hg3'
     have hg3 := drew_grown hg3'
     have hr3 := (HR1.out.kept (gb_below (r := none) HB2.out) (by simp) (by simp)).kept hg3 (fun e => by have := Option.some.inj e; have := (HR.out.k_ge s).2.2; omega) (fun e => by have := Option.some.inj e; have := (HR.out.k_ge s).2.2; omega)
     have hS3 := ShMaps.putK (v := hkV y) HR.out hs4 hsx HM2.out (by have := grow_le nn (stF (overL (kyF g.keys) FK left) s x); omega) hm3 hg3
     have hs3 := HS2.out.grownI hg3 (fun e => by have := Option.some.inj e; have := (HR.out.k_ge s).1; omega)
     have hk3' := HK2.out.grown hg3 (.inl ⟨(HR.out.k_ge s).2.1, (HR.out.k_ge s).2.2⟩)
     go_frame
     go_wp2_with fail
     go_roundw
     case rel => exact ⟨_, cnt1, M'' + 1, hr3, by omega, hS3.sameK (fun i => by rw [← HV.out]; exact overL_step HF.out i), hs3, hk3'⟩
     case measure => rw [hr3.left_eq, HRG.out.left_eq]; exact hlt
  ·intro x v w1 cnt1 hwx hlx hFx hrg1 hlt hg1 hs1 hen
   obtain ⟨x0, x1, y, hv⟩ := wdF_no HG.out hFx
   obtain ⟨s, hs4, hsx⟩ : ∃ s : Nat, s < 4 ∧ x % 4 = (s : Int) := ⟨(x % 4).toNat, by omega, by omega⟩
   obtain ⟨dd, hdd⟩ : ∃ dd, dd = ddB g.dead td x := ⟨_, rfl⟩
   rw [← hdd] at hv
   have HV := Lib.hid hv
   have HF := Lib.hid hFx
   have HR1 := Lib.hid hrg1
   rw [hv, hwV] at hen
   rw [HV.out, hwV]
   have hrow : ∀ j, j < 4 → some (h.wAt j) ≠ some r := fun j hj e => by have := Option.some.inj e; have := (HR.out.w_ge j).2.2; omega
   have hrok : ∀ j, j < 4 → some (h.kAt j) ≠ some r := fun j hj e => by have := Option.some.inj e; have := (HR.out.k_ge j).2.2; omega
   obtain ⟨w2, hw2⟩ : ∃ w2 : World, w2 = w1.alloc (.cells #[.int .i64 y.client, .string y.shade, .float .f64 (floatOfInt .f64 y.till), .bool y.used, .float .f64 dd] 207) := ⟨_, rfl⟩
   have hb2 : Below w1.heap.size w1 w2 := by rw [hw2]; exact (Below.refl _ _).alloc (Nat.le_refl _) _
   have HM2 := Lib.hid ((HMS.out.grown hg1 hrow hrok).later hb2)
   have HS2 := Lib.hid ((HRS.out.grownI hg1 (fun e => by have := Option.some.inj e; omega)).below hb2 (by omega))
   have HL2 := Lib.hid ((HLS.out.grownI hg1 (fun e => by have := Option.some.inj e; omega)).below hb2 (by omega))
   have HY2 := Lib.hid ((HYS.out.grown hg1 (fun e => by have := Option.some.inj e; omega)).later hb2)
   have HK2 := Lib.hid ((HKS.out.grown hg1 (.inr (.inr (by omega)))).later hb2)
   have HB2 := Lib.hid hb2
   obtain ⟨nn, hnn, hmm⟩ := HM2.out.1 s hs4
   have HMM := Lib.hid hmm
   have cst : w2.cell? ⟨h.sb, 6 + s * 4 + 2, none⟩ = some (.map (some (h.wAt s))) := (HS2.out.cell (6 + s * 4 + 2)).trans (by rw [show 6 + s * 4 + 2 = 8 + 4 * s by omega]; exact shL_w _ _ _ _ _ _ _ hs4)
   have HW2 := Lib.hid hw2
   rw [hw2] at cst
   clear hv hFx hrg1 hg1 hdd hb2 hmm hw2
   go_wp2_with fail
   refine region_tail 8 (by kernel_rfl) (by kernel_rfl) ?_
   simp only [List.take_succ_cons, List.take_zero, List.drop_succ_cons, List.drop_zero]
   repeat still_step
   still_call (stripeOf_any h.sb x s _ (by omega) hsx hs4)
   repeat still_step
   refine wpStill_nil ?_
   rw [← HW2.out]
   refine wpList_put_I rfl (.tmp 32) (.tmp 33) (.tmp 34) 117 rfl Tryz.underlying117 Tryz.underlying2 rfl HMM.out (by unfold maxLen; omega) x rfl hwx (hwV y dd) rfl ?_
   intro w3 hm3 hg3'
   have hg3 := drew_grown hg3'
   have hr3 := (HR1.out.kept (gb_below (r := none) HB2.out) (by simp) (by simp)).kept hg3 (fun e => by have := Option.some.inj e; have := (HR.out.w_ge s).2.2; omega) (fun e => by have := Option.some.inj e; have := (HR.out.w_ge s).2.2; omega)
   have hS3 := ShMaps.putW (v := hwV y dd) HR.out hs4 hsx HM2.out (by have := grow_le nn (stF (overL (wdF g.words g.dead td) FW left) s x); omega) hm3 hg3
   have hs3 := HS2.out.grownI hg3 (fun e => by have := Option.some.inj e; have := (HR.out.w_ge s).1; omega)
   have hl3 := HL2.out.grownI hg3 (fun e => by have := Option.some.inj e; have := (HR.out.w_ge s).2.2; omega)
   have hy3 := HY2.out.grown hg3 (fun e => by have := Option.some.inj e; have := (HR.out.w_ge s).2.2; omega)
   have hk3' := HK2.out.grown hg3 (.inl ⟨(HR.out.w_ge s).2.1, (HR.out.w_ge s).2.2⟩)
   go_frame
   go_wp2_with fail
   go_roundw
   case rel => exact ⟨_, cnt1, M' + 1, hr3, by omega, hS3.sameW (fun i => by rw [← HV.out]; exact overL_step HF.out i), hs3, hl3, hy3, hk3'⟩
   case measure => rw [hr3.left_eq, HRG.out.left_eq]; exact hlt
end Go.Proofs.YtjccnjfdeedneaaGreat
/- What all share: the locks of all stripes. -/
namespace Go.Proofs.YtjccnjfdeedneaaGreat
open Go Go.RowKit Go.Lib Go.MuLone
set_option linter.unusedVariables false
set_option maxRecDepth 100000

def lkW (w : World) (sb : Nat) (m : Int) : World := (((w.setCell ⟨sb, 6, none⟩ (.int .i32 m)).setCell ⟨sb, 10, none⟩ (.int .i32 m)).setCell ⟨sb, 14, none⟩ (.int .i32 m)).setCell ⟨sb, 18, none⟩ (.int .i32 m)
set_option maxHeartbeats 2000000 in
theorem lockAll_any {now ver hold : Int} {cs : Value} {c : Int} {h : ShH} {w : World} (hr : Row w h.sb 123 (shL now ver hold cs c 0 h)) : Calls Tryz.prog 169 #[.pointer (some ⟨h.sb, 0, none⟩)] w fun e w' => e = .returned (.tuple #[]) ∧ w' = lkW w h.sb 1 := by
 have c6 : w.cell? ⟨h.sb, 6, none⟩ = some (.int .i32 0) := hr.cell 6
 have f6 : w.frozen? ⟨h.sb, 6, none⟩ = false := hr.free 6
 have r1 := hr.set 6 (.int .i32 1)
 have c10 : (w.setCell ⟨h.sb, 6, none⟩ (.int .i32 1)).cell? ⟨h.sb, 10, none⟩ = some (.int .i32 0) := r1.cell 10
 have f10 := r1.free 10
 have r2 := r1.set 10 (.int .i32 1)
 have c14 : ((w.setCell ⟨h.sb, 6, none⟩ (.int .i32 1)).setCell ⟨h.sb, 10, none⟩ (.int .i32 1)).cell? ⟨h.sb, 14, none⟩ = some (.int .i32 0) := r2.cell 14
 have f14 := r2.free 14
 have r3 := r2.set 14 (.int .i32 1)
 have c18 : (((w.setCell ⟨h.sb, 6, none⟩ (.int .i32 1)).setCell ⟨h.sb, 10, none⟩ (.int .i32 1)).setCell ⟨h.sb, 14, none⟩ (.int .i32 1)).cell? ⟨h.sb, 18, none⟩ = some (.int .i32 0) := r3.cell 18
 have f18 := r3.free 18
 have L6 := lock_free muLib ⟨h.sb, 6, none⟩ _ c6 f6
 have L10 := lock_free muLib ⟨h.sb, 10, none⟩ _ c10 f10
 have L14 := lock_free muLib ⟨h.sb, 14, none⟩ _ c14 f14
 have L18 := lock_free muLib ⟨h.sb, 18, none⟩ _ c18 f18
 have L6 := Lib.hid L6
 have L10 := Lib.hid L10
 have L14 := Lib.hid L14
 have L18 := Lib.hid L18
 clear hr c6 f6 r1 c10 f10 r2 c14 f14 r3 c18 f18
 go_enter Tryz.func169, Tryz.ntmps169
 go_wp2_with fail
 refine wp_loop_rounds 5 ?_
 rw [rounds_succ]
 go_wp2_with fail
 refine L6.out.mono ?_
 rintro e w1 ⟨rfl, rfl⟩
 go_wp2_with fail
 rw [rounds_succ]
 go_wp2_with fail
 refine L10.out.mono ?_
 rintro e w1 ⟨rfl, rfl⟩
 go_wp2_with fail
 rw [rounds_succ]
 go_wp2_with fail
 refine L14.out.mono ?_
 rintro e w1 ⟨rfl, rfl⟩
 go_wp2_with fail
 rw [rounds_succ]
 go_wp2_with fail
 refine L18.out.mono ?_
 rintro e w1 ⟨rfl, rfl⟩
 go_wp2_with fail
 rw [rounds_succ]
 go_wp2_with fail
 go_returns
 exact ⟨rfl, rfl⟩
end Go.Proofs.YtjccnjfdeedneaaGreat
/- What all share: the locks of all stripes given back, as a deferred call. -/
namespace Go.Proofs.YtjccnjfdeedneaaGreat
open Go Go.RowKit Go.Lib Go.MuLone
set_option linter.unusedVariables false
set_option maxRecDepth 100000

set_option maxHeartbeats 2000000 in
theorem unlockAll_d {now ver hold : Int} {cs : Value} {c : Int} {h : ShH} {w : World} (hr : Row w h.sb 123 (shL now ver hold cs c 1 h)) : CallsD Tryz.prog 170 #[.pointer (some ⟨h.sb, 0, none⟩)] .returning w fun e u' w' => u' = .returning ∧ (e = .returned (.tuple #[]) ∧ w' = lkW w h.sb 0) := by
 have c6 : w.cell? ⟨h.sb, 6, none⟩ = some (.int .i32 1) := hr.cell 6
 have f6 : w.frozen? ⟨h.sb, 6, none⟩ = false := hr.free 6
 have r1 := hr.set 6 (.int .i32 0)
 have c10 : (w.setCell ⟨h.sb, 6, none⟩ (.int .i32 0)).cell? ⟨h.sb, 10, none⟩ = some (.int .i32 1) := r1.cell 10
 have f10 := r1.free 10
 have r2 := r1.set 10 (.int .i32 0)
 have c14 : ((w.setCell ⟨h.sb, 6, none⟩ (.int .i32 0)).setCell ⟨h.sb, 10, none⟩ (.int .i32 0)).cell? ⟨h.sb, 14, none⟩ = some (.int .i32 1) := r2.cell 14
 have f14 := r2.free 14
 have r3 := r2.set 14 (.int .i32 0)
 have c18 : (((w.setCell ⟨h.sb, 6, none⟩ (.int .i32 0)).setCell ⟨h.sb, 10, none⟩ (.int .i32 0)).setCell ⟨h.sb, 14, none⟩ (.int .i32 0)).cell? ⟨h.sb, 18, none⟩ = some (.int .i32 1) := r3.cell 18
 have f18 := r3.free 18
 have L6 := unlock_held muLib ⟨h.sb, 6, none⟩ _ c6 f6
 have L10 := unlock_held muLib ⟨h.sb, 10, none⟩ _ c10 f10
 have L14 := unlock_held muLib ⟨h.sb, 14, none⟩ _ c14 f14
 have L18 := unlock_held muLib ⟨h.sb, 18, none⟩ _ c18 f18
 have L6 := Lib.hid L6
 have L10 := Lib.hid L10
 have L14 := Lib.hid L14
 have L18 := Lib.hid L18
 clear hr c6 f6 r1 c10 f10 r2 c14 f14 r3 c18 f18
 go_enter_d Tryz.func170, Tryz.ntmps170
 go_wp2_with fail
 refine wp_loop_rounds 5 ?_
 rw [rounds_succ]
 go_wp2_with fail
 refine L6.out.mono ?_
 rintro e w1 ⟨rfl, rfl⟩
 go_wp2_with fail
 rw [rounds_succ]
 go_wp2_with fail
 refine L10.out.mono ?_
 rintro e w1 ⟨rfl, rfl⟩
 go_wp2_with fail
 rw [rounds_succ]
 go_wp2_with fail
 refine L14.out.mono ?_
 rintro e w1 ⟨rfl, rfl⟩
 go_wp2_with fail
 rw [rounds_succ]
 go_wp2_with fail
 refine L18.out.mono ?_
 rintro e w1 ⟨rfl, rfl⟩
 go_wp2_with fail
 rw [rounds_succ]
 go_wp2_with fail
 go_end0
 exact ⟨rfl, rfl⟩
end Go.Proofs.YtjccnjfdeedneaaGreat
/- What all share: the time read. -/
namespace Go.Proofs.YtjccnjfdeedneaaGreat
open Go Go.RowKit Go.Lib Go.MuLone
set_option linter.unusedVariables false
set_option maxRecDepth 100000

theorem ld64 (b off : Nat) (v : Int) (w : World) (h : w.cell? ⟨b, off, none⟩ = some (.int .i64 v)) : Calls Tryz.prog 117 #[.pointer (some ⟨b, off, none⟩)] w fun e w' => e = .returned (.int .i64 v) ∧ w' = w := by
 have hx := run_call_load (P := Tryz.prog) Tryz.func176 (by kernel_rfl) (by kernel_rfl) (by kernel_rfl) .i64 (by kernel_rfl) h
 go_enter Tryz.func117, Tryz.ntmps117
 go_wp2_with fail
 go_ret
 exact ⟨rfl, rfl⟩
theorem time_any (sb : Nat) (n : Int) (w : World) (h0 : 0 ≤ n) (h1 : n ≤ 1000000) (h : w.cell? ⟨sb, 0, none⟩ = some (.int .i64 n)) : Calls Tryz.prog 195 #[.pointer (some ⟨sb, 0, none⟩)] w fun e w' => e = .returned (.float .f64 (floatOfInt .f64 n)) ∧ Below w.heap.size w w' := by
 go_enter Tryz.func195, Tryz.ntmps195
 go_wp2_with fail
 refine (ld64 sb 0 n _ h).mono ?_
 rintro e w1 ⟨rfl, hw1⟩
 rw [hw1]
 go_wp2_with fail
 refine (timeOf_at (isB_iff.2 ⟨h0, h1⟩)).mono ?_
 rintro e w2 ⟨rfl, hw2⟩
 rw [hw2]
 clear hw1 hw2
 go_wp2_with fail
 go_ret
 exact ⟨rfl, Below.refl _ _⟩
end Go.Proofs.YtjccnjfdeedneaaGreat
