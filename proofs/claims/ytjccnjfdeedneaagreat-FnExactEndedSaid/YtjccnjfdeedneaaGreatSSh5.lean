/- What all share: an entry is looked for. -/
import Derived.Test.YtjccnjfdeedneaaGreatSSh4
import Derived.Test.YtjccnjfdeedneaaGreatSStImp
namespace Go.Proofs.YtjccnjfdeedneaaGreat
open Go Go.RowKit Go.Lib Go.MuLone
set_option linter.unusedVariables false
set_option maxRecDepth 100000

def zE : En := ⟨0, 0, 0, 0⟩
def findE (l : List En) (t v : Int) : En := if hasTok l t then (match l[(enIx l t).toNat]? with | some x => if x.ver = v then x else zE | none => zE) else zE
theorem findE_none {l : List En} {t v : Int} (h : hasTok l t = false) : findE l t v = zE := by simp [findE, h]
theorem findE_at {l : List En} {t v : Int} {k : Nat} {x : En} (h : hasTok l t = true) (hi : enIx l t = (k : Nat)) (hx : l[k]? = some x) : findE l t v = if x.ver = v then x else zE := by
 unfold findE
 rw [if_pos h, hi, Int.toNat_natCast, hx]
theorem sizeEn : (Tryz.prog.info? 50).map (·.size) = some 4 := by kernel_rfl
theorem oneEnV (x : En) : (#[.int .i64 x.token, .int .i64 x.client, .int .i64 x.till, .int .i64 x.ver] : Array Value).all (·.oneCell') = true := by simp [Value.oneCell']
theorem ret_en {fn : Func} {p : Tmp} (h : fn.results = #[.cell p 50]) {tmps : Array Value} {w : World} {g : Nat} {x : En} (hp : tmps.getD p undef = .pointer (some ⟨g, 0, none⟩)) (hr : Row w g 50 (enCf x)) :
  (results fn tmps).run Tryz.prog w = .ok (enV x) w := by
 have hu := Tryz.underlying50
 exact results_cell_row h tmps w g 50 (enCf x).toArray (0, 0) _ hp hr hu rfl sizeEn
theorem LIn.of_own {w : World} {base n c : Nat} {q : Option Addr} {l : List En} (ho : w.ownsRow base 50 4 (.slice q n c) l.length (l.flatMap enCf)) : LIn enCf w q l := by
 rcases Nat.eq_zero_or_pos l.length with h0 | h0
 ·exact .inl (List.eq_nil_of_length_eq_zero h0)
 ·obtain ⟨gN, h1, _, _, _, h2⟩ := own_some ho h0
  exact .inr ⟨gN, 0, h1, fun j u hj => by rw [Nat.zero_add]; exact h2 j u hj⟩
end Go.Proofs.YtjccnjfdeedneaaGreat
