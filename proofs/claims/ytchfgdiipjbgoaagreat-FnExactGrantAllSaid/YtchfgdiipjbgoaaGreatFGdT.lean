/- Lists of requests, in cells. GrantAll, as mathematics. -/
import Derived.Test.YtchfgdiipjbgoaaGreatFGdA
import Derived.Test.YtchfgdiipjbgoaaGreatFResR
import Derived.Test.YtchfgdiipjbgoaaGreatFGoD
namespace Go.Proofs.YtchfgdiipjbgoaaGreat
open Go Go.RowKit Go.Lib
set_option linter.unusedVariables false
set_option maxRecDepth 100000

def rqCf (r : RQ) : List Value := [.int .i64 r.no, .int .i64 r.kind, .int .i64 r.client, .int .i64 r.code, .int .i64 r.token, .string r.proof, .int .i64 r.upTo]
theorem rqCf_len (r : RQ) : (rqCf r).length = 7 := rfl
theorem rq_cells {w : World} {b o : Nat} {l : List RQ} (h : LAt rqCf w b o l) {i : Nat} {x : RQ} (hi : l[i]? = some x) :
  w.cell? ⟨b, o + i * 7, none⟩ = some (.int .i64 x.no) ∧ w.cell? ⟨b, o + i * 7 + 1, none⟩ = some (.int .i64 x.kind) ∧ w.cell? ⟨b, o + i * 7 + 2, none⟩ = some (.int .i64 x.client) ∧ w.cell? ⟨b, o + i * 7 + 3, none⟩ = some (.int .i64 x.code) ∧ w.cell? ⟨b, o + i * 7 + 4, none⟩ = some (.int .i64 x.token) ∧ w.cell? ⟨b, o + i * 7 + 5, none⟩ = some (.string x.proof) ∧ w.cell? ⟨b, o + i * 7 + 6, none⟩ = some (.int .i64 x.upTo) := by
 have hr := rangeAt_elem rqCf_len h hi
 exact ⟨hr 0 _ rfl, hr 1 _ rfl, hr 2 _ rfl, hr 3 _ rfl, hr 4 _ rfl, hr 5 _ rfl, hr 6 _ rfl⟩
theorem infoReq : (Tryz.prog.info? 29).map (fun i => (i.zero, i.size, i.bytes)) = some (some (.agg #[.int .i64 0, .int .i64 0, .int .i64 0, .int .i64 0, .int .i64 0, .string ByteArray.empty, .int .i64 0]), 7, 64) := by kernel_rfl
theorem right_small {g : Gr} (h : grantB g = true) : GrSmall g := by
 obtain ⟨_, h1, h2, h3, h4, h5⟩ := gr_facts h
 refine ⟨by omega, by omega, ?_, fun x hx => ?_⟩
 ·have := deadOk_le h3 h5 (fun x hx => (deadOk_up h5 x hx).2)
  omega
 ·obtain ⟨j, hj⟩ := List.getElem?_of_mem hx
  have := (wordsOk_get h3 hj).1.2.2.2.1
  have := (of_decide_eq_true this).2.1
  unfold maxLen
  omega
end Go.Proofs.YtchfgdiipjbgoaaGreat
/- GrantAll, as mathematics. -/
namespace Go.Proofs.YtchfgdiipjbgoaaGreat
open Go Go.RowKit Go.Lib
set_option linter.unusedVariables false
set_option maxRecDepth 100000

/-- One request more. -/
def oneD (a : Gr × RS) (r : RQ) : Gr × RS := if rightB r then doD a.1 r else (a.1, codeR 1)
def allD (g : Gr) (l : List RQ) : Gr × RS := l.foldl oneD (g, codeR 0)
theorem allD_right {g : Gr} (h : grantB g = true) (l : List RQ) : grantB (allD g l).1 = true := by
 unfold allD
 suffices hh : ∀ (l : List RQ) (a : Gr × RS), grantB a.1 = true → grantB (l.foldl oneD a).1 = true from hh l _ h
 intro l
 induction l with
 | nil => intro a ha; exact ha
 | cons r t ih =>
  intro a ha
  rw [List.foldl_cons]
  refine ih _ ?_
  unfold oneD
  split
  ·rename_i hr
   exact done_right ha hr
  ·exact ha
theorem allD_snoc {g : Gr} {l : List RQ} {k : Nat} {r : RQ} (h : l[k]? = some r) : allD g (l.take (k + 1)) = oneD (allD g (l.take k)) r := by
 unfold allD
 rw [List.take_add_one, h, Option.toList_some, List.foldl_append]
 rfl
def gaD (g : Gr) (l : List RQ) : Gr × RS × Int := if 400 < l.length then (zG, codeR 0, 2) else if grantB g then ((allD g l).1, (allD g l).2, 0) else (zG, codeR 0, 1)
/-- A grant that lies first in an answer. -/
def tailO (s : RS) (c : Int) : Tail := ⟨35, [.int .i64 s.code, .int .i64 s.token, .int .i64 s.next, .bool s.yes, .int .i64 c], by decide, by decide, by decide⟩
end Go.Proofs.YtchfgdiipjbgoaaGreat
