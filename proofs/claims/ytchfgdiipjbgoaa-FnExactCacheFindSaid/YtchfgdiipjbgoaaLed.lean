/- A ledger: where it lies, and the grant that it is the ledger of. -/
import Derived.Test.YtchfgdiipjbgoaaOpM
import Derived.Test.YtchfgdiipjbgoaaGrImp3
namespace Go.Proofs.Ytchfgdiipjbgoaa
open Go Go.RowKit Go.Lib
set_option linter.unusedVariables false

theorem Row.grownI {w w1 : World} {q : Nat} {E : TypeId} {l : List Value} {r : Option Nat} (h : Row w q E l) (hg : w.grownBy w1 r) (hr : some q ≠ r) : Row w1 q E l := by
  have h1 := hg.block q h.lt hr
  unfold Row at h ⊢
  rw [h1]
  exact h
/-- What a ledger has of a word; dd: the bits of the time from which on it is dead. -/
def hwV (x : Wd) (dd : Nat) : Value := .agg #[.int .i64 x.client, .string x.shade, .float .f64 (floatOfInt .f64 x.till), .bool x.used, .float .f64 dd]
def hkV (x : Ky) : Value := .agg #[.int .i64 x.client, .int .i64 x.fam, .bool x.refresh, .float .f64 (floatOfInt .f64 x.till), .int .i64 x.state]
def hwZ : Value := .agg #[.int .i64 0, .string ByteArray.empty, .float .f64 0, .bool false, .float .f64 0]
def hkZ : Value := .agg #[.int .i64 0, .int .i64 0, .bool false, .float .f64 0, .int .i64 0]
/-- The bits of a word's time of death: of a dead one some time that has been, else what is never due. -/
def ddB (dead : List Int) (td : Int → Int) (n : Int) : Nat := if isDeadB dead n then floatOfInt .f64 (td n) else infB
def wdF (ws : List Wd) (dead : List Int) (td : Int → Int) (i : Int) : Option Value := (findW ws i).map fun x => hwV x (ddB dead td i)
def kyF (ks : List Ky) (i : Int) : Option Value := (findK ks i).map hkV
/-- At lb lies the ledger of g; its maps lie in blocks mw, mk. -/
def LedAt (w : World) (B lb mw mk : Nat) (g : Gr) : Prop := ∃ td : Int → Int, (∀ i, 0 ≤ td i ∧ td i ≤ g.now) ∧ Row w lb 121 [.float .f64 (floatOfInt .f64 g.now), .map (some mw), .map (some mk)] ∧
  IMap Try.prog 2 w mw g.words.length (wdF g.words g.dead td) ∧ IMap Try.prog 2 w mk g.keys.length (kyF g.keys) ∧ B ≤ lb ∧ B ≤ mw ∧ B ≤ mk ∧ lb ≠ mw ∧ lb ≠ mk ∧ mw ≠ mk
theorem LedAt.later {w w' : World} {B lb mw mk : Nat} {g : Gr} (h : LedAt w B lb mw mk g) (hb : Below w.heap.size w w') : LedAt w' B lb mw mk g := by
  obtain ⟨td, h0, h1, h2, h3, h4⟩ := h
  exact ⟨td, h0, h1.below hb h1.lt, h2.later hb, h3.later hb, h4⟩
theorem run_store_float (w : World) (a : Addr) (b : Nat) : (store a (.float .f64 b)).run Try.prog w = stored Try.prog w a (.float .f64 b) .plain := run_store Try.prog w a _ .plain rfl
theorem run_field_dead (c : Int) (s : ByteArray) (t dd : Nat) (u : Bool) (w : World) : (Instr.field 123 (.agg #[.int .i64 c, .string s, .float .f64 t, .bool u, .float .f64 dd]) 4).run Try.prog w = .ok (.float .f64 dd) w := by kernel_rfl
theorem hwZ_zero (w : World) : (zeroValue 123).run Try.prog w = .ok hwZ w := by kernel_rfl
theorem hkZ_zero (w : World) : (zeroValue 127).run Try.prog w = .ok hkZ w := by kernel_rfl
theorem inf_any (w : World) : Calls Try.prog 73 #[.int .i64 1] w fun e w' => e = .returned (.float .f64 infB) ∧ w = w' := by
  have hx : ∀ w, (callFunc 83 #[.int .u64 9218868437227405312]).run Try.prog w = .ok (.value (.float .f64 9218868437227405312)) w := fun w => by kernel_rfl
  go_enter Try.func73, Try.ntmps73
  go_wp2_with fail
  go_ret
  exact ⟨rfl, rfl⟩
theorem never_any (w : World) : Calls Try.prog 62 #[] w fun e w' => e = .returned (.float .f64 infB) ∧ w = w' := by
  go_enter Try.func62, Try.ntmps62
  go_wp2_with (go_at_call 73; refine (inf_any _).mono ?_; rintro e w' ⟨rfl, rfl⟩)
  go_ret
  exact ⟨rfl, rfl⟩
end Go.Proofs.Ytchfgdiipjbgoaa
