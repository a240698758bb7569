/- Draws: a grant, to which some were let in: what is carried along. Draws: a grant, to which some were let in. -/
import Derived.Test.YtchfgdiipjbgoaaGreatFGdT
import Derived.Test.YtchfgdiipjbgoaaGreatFReqR
namespace Go.Proofs.YtchfgdiipjbgoaaGreat
open Go Go.RowKit Go.Lib
set_option linter.unusedVariables false
set_option maxRecDepth 100000

/-- No word goes. -/
theorem done_words (g : Gr) (r : RQ) : g.words.length ≤ (doD g r).1.words.length := by
 unfold doD issueD redeemD refreshD revokeD askD tickD
 repeat' split
 all_goals first
  | exact Nat.le_refl _
  | (show g.words.length ≤ (insW g.words _).length; rw [insW_length]; omega)
  | (show g.words.length ≤ (useW g.words _).length; rw [useW_length]; exact Nat.le_refl _)
theorem SrcAt.upTo {g : Nat} {w w' : World} (h : SrcAt g w) (hk : ∀ k, k ≤ g → w'.heap[k]? = w.heap[k]?) : SrcAt g w' := by
 obtain ⟨a, len, cap, at_, mix, size, hg, ha0, ha1, hl, hm0, hm1, hs0, hs1, hc⟩ := h
 refine ⟨a, len, cap, at_, mix, size, by rw [hk g (Nat.le_refl _)]; exact hg, ha0, ha1, hl, hm0, hm1, hs0, hs1, fun i hi => ?_⟩
 obtain ⟨b, off, z, ha, hb, hcc, h0, h1⟩ := hc i hi
 exact ⟨b, off, z, ha, hb, by rw [World.cell?_of_block (hk b (by omega))]; exact hcc, h0, h1⟩
theorem grown_kept {w W W' : World} {g p X Y : Nat} (h : w.grownBy W (some g)) (hk : Kept W.heap.size p X Y W W') (hp : w.heap.size ≤ p) (hX : w.heap.size ≤ X) (hY : w.heap.size ≤ Y) : w.grownBy W' (some g) :=
 ⟨hk.os.trans h.os, hk.tape.trans h.tape, hk.output.trans h.output, Nat.le_trans h.size hk.size, fun k hlt hne =>
  (hk.block k (Nat.lt_of_lt_of_le hlt h.size) (by omega) (by omega) (by omega)).trans (h.block k hlt hne)⟩
def q1 : RQ := ⟨1, 1, 1, 0, 0, ⟨#[98, 97]⟩, 0⟩
def q2 : RQ := ⟨2, 1, 1, 0, 0, ⟨#[98, 97]⟩, 0⟩
def q3 : RQ := ⟨1, 2, 1, 1, 0, ⟨#[97, 98]⟩, 0⟩
/-- A grant is drawn: it is right, m of its words are sure; the result's cell is still free, the requests lie in b. -/
def DrawG (g b m : Nat) (w wr : World) : Prop := ∃ (k : GH) (gr : Gr), GrAt tailG (w.heap.size + 1) wr (w.heap.size + 1) k gr ∧ grantB gr = true ∧ m ≤ gr.words.length ∧ SrcAt g wr ∧ w.grownBy wr (some g) ∧
 Row wr w.heap.size 27 (grL 0 zH) ∧ Row wr b 29 (rqCf q1 ++ rqCf q2)
theorem GrAt.grown {tl : Tail} {N p g : Nat} {w w' : World} {h : GH} {gr : Gr} (k : GrAt tl N w p h gr) (hg : w.grownBy w' (some g)) (hlt : g < N) : GrAt tl N w' p h gr := by
 have hp := k.place
 have own : ∀ {E s n : Nat} {v : Value} {x : List Value}, w.ownsRow N E s v n x → w'.ownsRow N E s v n x := fun {E s n v x} h => h.kept hg (by
  rcases hb : v.ownBlock with _ | q
  ·exact Or.inl rfl
  ·exact Or.inr (fun e => by have := (h.lt q hb).1; have := Option.some.inj e; omega))
 exact ⟨k.row.grw hg (fun e => by have := Option.some.inj e; omega), own k.words, own k.keys, own k.dead, hp⟩
theorem DrawG.grown {g b m : Nat} {w w1 w2 : World} (h : DrawG g b m w w1) (hg : w1.grownBy w2 (some g)) (hs : SrcAt g w2) (hlt : g < w.heap.size) (hb : w.heap.size < b) : DrawG g b m w w2 := by
 obtain ⟨k, gr, h1, h2, h3, h4, h5, h6, h7⟩ := h
 exact ⟨k, gr, h1.grown hg (by omega), h2, h3, hs, grown_trans h5 hg, h6.grw hg (fun e => by have := Option.some.inj e; omega), h7.grw hg (fun e => by have := Option.some.inj e; omega)⟩
theorem blk_ne {N y q E E' s n m c : Nat} {l x : List Value} {a : Option Addr} {w : World} (hr : Row w y E l) (h : w.ownsRow N E' s (.slice a m c) n x) (hE : E ≠ E') (hq : y ≠ q) : y ≠ blkOf a q := by
 have h1 := row_own_ne hr h hE
 cases a with
 | none => exact hq
 | some z => exact fun e => h1 (by rw [e]; rfl)
/-- One right request more. -/
theorem DrawG.done {g b m' : Nat} {w w1 w2 : World} {k k2 : GH} {gr : Gr} {r : RQ} (h1 : GrAt tailG (w.heap.size + 1) w1 (w.heap.size + 1) k gr) (h2 : grantB gr = true) (h4 : SrcAt g w1) (h5 : w.grownBy w1 (some g))
  (h6 : Row w1 w.heap.size 27 (grL 0 zH)) (h7 : Row w1 b 29 (rqCf q1 ++ rqCf q2)) (hb : w.heap.size + 1 < b) (hr : rightB r = true) (hlt : g < w.heap.size)
  (h : GrAt tailG (w.heap.size + 1) w2 (w.heap.size + 1) k2 (doD gr r).1) (hk : Kept w1.heap.size (w.heap.size + 1) (blkOf k.wp (w.heap.size + 1)) (blkOf k.kp (w.heap.size + 1)) w1 w2) (hm : m' ≤ (doD gr r).1.words.length) : DrawG g b m' w w2 := by
 have hX := blk_ge h1.words h1.place
 have hY := blk_ge h1.keys h1.place
 have hg1 := h4.lt
 have hX2 := blk_ne h7 h1.words (by decide) (show b ≠ w.heap.size + 1 by omega)
 have hY2 := blk_ne h7 h1.keys (by decide) (show b ≠ w.heap.size + 1 by omega)
 exact ⟨k2, _, h, done_right h2 hr, hm, h4.upTo (fun i hi => hk.block i (by omega) (by omega) (by omega) (by omega)), grown_kept h5 hk (by omega) (by omega) (by omega), h6.kept hk h6.lt (by omega) (by omega) (by omega), h7.kept hk h7.lt (by omega) hX2 hY2⟩
theorem q1_right : rightB q1 = true := by decide
theorem q2_right : rightB q2 = true := by decide
theorem q3_right : rightB q3 = true := by decide
theorem zG_right : grantB zG = true := by decide
theorem two_at (j : Nat) (h : j < 2) : ∃ r : RQ, [q1, q2][j]? = some r ∧ rightB r = true := by
 have : j = 0 ∨ j = 1 := by omega
 rcases this with rfl | rfl
 ·exact ⟨_, rfl, q1_right⟩
 ·exact ⟨_, rfl, q2_right⟩
theorem one_word : 1 ≤ (allD zG [q1, q2]).1.words.length := by
 have e : allD zG [q1, q2] = doD (doD zG q1).1 q2 := by
  unfold allD
  rw [List.foldl_cons, List.foldl_cons, List.foldl_nil]
  unfold oneD
  rw [if_pos q1_right, if_pos q2_right]
 rw [e]
 exact Nat.le_trans (by decide) (done_words _ q2)
end Go.Proofs.YtchfgdiipjbgoaaGreat
/- Draws: a grant, to which some were let in. -/
namespace Go.Proofs.YtchfgdiipjbgoaaGreat
open Go Go.RowKit Go.Lib
set_option linter.unusedVariables false
set_option maxRecDepth 100000

def GrantD (g : Nat) (w : World) (e : Ending) (w' : World) : Prop := ∃ (k : GH) (gr : Gr), e = .returned (grV gr.now k) ∧ GrOwn w.heap.size gr k w' ∧ grantB gr = true ∧ 1 ≤ gr.words.length ∧ SrcAt g w' ∧ w.grownBy w' (some g)
def GD1 (g b : Nat) (w : World) (i : Value) (wr : World) : Prop := ∃ (j : Nat) (k : GH), j ≤ 2 ∧ i = .int .i64 j ∧ GrAt tailG (w.heap.size + 1) wr (w.heap.size + 1) k (allD zG ([q1, q2].take j)).1 ∧ SrcAt g wr ∧ w.grownBy wr (some g) ∧
 Row wr w.heap.size 27 (grL 0 zH) ∧ Row wr b 29 (rqCf q1 ++ rqCf q2)
theorem done_rest {g b : Nat} {w w1 w2 : World} {k : GH} {gr : Gr} (h1 : GrAt tailG (w.heap.size + 1) w1 (w.heap.size + 1) k gr) (h4 : SrcAt g w1) (h5 : w.grownBy w1 (some g))
  (h6 : Row w1 w.heap.size 27 (grL 0 zH)) (h7 : Row w1 b 29 (rqCf q1 ++ rqCf q2)) (hb : w.heap.size + 1 < b) (hlt : g < w.heap.size)
  (hk : Kept w1.heap.size (w.heap.size + 1) (blkOf k.wp (w.heap.size + 1)) (blkOf k.kp (w.heap.size + 1)) w1 w2) : SrcAt g w2 ∧ w.grownBy w2 (some g) ∧ Row w2 w.heap.size 27 (grL 0 zH) ∧ Row w2 b 29 (rqCf q1 ++ rqCf q2) := by
 have hX := blk_ge h1.words h1.place
 have hY := blk_ge h1.keys h1.place
 have hg1 := h4.lt
 have hX2 := blk_ne h7 h1.words (by decide) (show b ≠ w.heap.size + 1 by omega)
 have hY2 := blk_ne h7 h1.keys (by decide) (show b ≠ w.heap.size + 1 by omega)
 exact ⟨h4.upTo (fun i hi => hk.block i (by omega) (by omega) (by omega) (by omega)), grown_kept h5 hk (by omega) (by omega) (by omega), h6.kept hk h6.lt (by omega) (by omega) (by omega), h7.kept hk h7.lt (by omega) hX2 hY2⟩
theorem all_one : allD zG ([q1, q2].take 1) = doD zG q1 := by
 show oneD (zG, codeR 0) q1 = _
 unfold oneD
 rw [if_pos q1_right]
theorem all_two : allD zG ([q1, q2].take 2) = doD (doD zG q1).1 q2 := by
 show oneD (oneD (zG, codeR 0) q1) q2 = _
 unfold oneD
 rw [if_pos q1_right, if_pos q2_right]
set_option maxHeartbeats 4000000 in
theorem grantOf_any (g : Nat) (w : World) (hS : SrcAt g w) : Calls Tryz.prog 146 #[.pointer (some ⟨g, 0, none⟩)] w (GrantD g w) := by
 have hlt := hS.lt
 obtain ⟨W, hW⟩ : ∃ W, W = ((w.alloc (.cells #[.int .i64 0, .slice none 0 0, .slice none 0 0, .slice none 0 0] 27)).alloc (.cells #[.int .i64 0, .slice none 0 0, .slice none 0 0, .slice none 0 0] 27)).alloc (.cells #[.int .i64 1, .int .i64 1, .int .i64 1, .int .i64 0, .int .i64 0, .string { data := #[98, 97] }, .int .i64 0, .int .i64 2, .int .i64 1, .int .i64 1, .int .i64 0, .int .i64 0, .string { data := #[98, 97] }, .int .i64 0] 29) := ⟨_, rfl⟩
 have hb0 : Below w.heap.size w W := by rw [hW]; go_grown
 have r0 : Row W w.heap.size 27 (grL 0 zH) := by
  rw [hW]
  exact Row.below (Row.below (heap_alloc_new w _) ((Below.refl _ _).alloc (Nat.le_refl _) _) (by simp)) ((Below.refl _ _).alloc (Nat.le_refl _) _) (by simp; omega)
 have r1 : Row W (w.heap.size + 1) 27 (grL 0 zH ++ tailG.rest) := by
  rw [hW]
  have h := heap_alloc_new (w.alloc (.cells #[.int .i64 0, .slice none 0 0, .slice none 0 0, .slice none 0 0] 27)) (.cells #[.int .i64 0, .slice none 0 0, .slice none 0 0, .slice none 0 0] 27)
  rw [World.size_alloc] at h
  exact Row.below h ((Below.refl _ _).alloc (Nat.le_refl _) _) (by simp)
 have r2 : Row W (w.heap.size + 1 + 1) 29 (rqCf q1 ++ rqCf q2) := by
  rw [hW]
  have h := heap_alloc_new ((w.alloc (.cells #[.int .i64 0, .slice none 0 0, .slice none 0 0, .slice none 0 0] 27)).alloc (.cells #[.int .i64 0, .slice none 0 0, .slice none 0 0, .slice none 0 0] 27)) (.cells #[.int .i64 1, .int .i64 1, .int .i64 1, .int .i64 0, .int .i64 0, .string { data := #[98, 97] }, .int .i64 0, .int .i64 2, .int .i64 1, .int .i64 1, .int .i64 0, .int .i64 0, .string { data := #[98, 97] }, .int .i64 0] 29)
  rw [World.size_alloc, World.size_alloc] at h
  exact h
 have ha : GrAt tailG (w.heap.size + 1) W (w.heap.size + 1) zH zG := ⟨r1, own_none _ _ _ 5, own_none _ _ _ 6, own_none _ _ _ 1, Nat.le_refl _⟩
 obtain ⟨b, hb⟩ : ∃ b, b = w.heap.size + 1 + 1 := ⟨_, rfl⟩
 rw [← hb] at r2
 have HBb := Lib.hid hb
 have HW := Lib.hid hW
 have HA := Lib.hid ha
 have R0 := Lib.hid r0
 have R2 := Lib.hid r2
 have HS := Lib.hid (hS.below (hb0.mono (Nat.le_refl _)))
 have HG := Lib.hid (grown_below hb0 (some g))
 clear hS hW hb0 r0 r1 r2 ha hb
 go_enter Tryz.func146, Tryz.ntmps146
 go_wp2_with fail
 rw [← HW.out, ← HBb.out]
 go_loopw [5] (GD1 g b w) (fun i _ => 2 - (RowKit.intOf i).toNat)
 case atStart => exact ⟨0, zH, by omega, rfl, HA.out, HS.out, HG.out, R0.out, R2.out⟩
 case round =>
  obtain ⟨j, k, hj, rfl, hat, hsr, hgr, hz, hq⟩ := hrel
  have HAj := Lib.hid hat
  have HSj := Lib.hid hsr
  have HGj := Lib.hid hgr
  have HZj := Lib.hid hz
  have HQj := Lib.hid hq
  clear hat hsr hgr hz hq
  have hbb : w.heap.size + 1 < b := by have := HBb.out; omega
  by_cases hl2 : j < 2
  ·have hj2 : j = 0 ∨ j = 1 := by omega
   rcases hj2 with rfl | rfl
   ·have c0 : wr.cell? ⟨b, 0, none⟩ = some (.int .i64 1) := HQj.out.cell 0
    have c1 : wr.cell? ⟨b, 0 + 1, none⟩ = some (.int .i64 1) := HQj.out.cell (0 + 1)
    have c2 : wr.cell? ⟨b, 0 + 2, none⟩ = some (.int .i64 1) := HQj.out.cell (0 + 2)
    have c3 : wr.cell? ⟨b, 0 + 3, none⟩ = some (.int .i64 0) := HQj.out.cell (0 + 3)
    have c4 : wr.cell? ⟨b, 0 + 4, none⟩ = some (.int .i64 0) := HQj.out.cell (0 + 4)
    have c5 : wr.cell? ⟨b, 0 + 5, none⟩ = some (.string ⟨#[98, 97]⟩) := HQj.out.cell (0 + 5)
    have c6 : wr.cell? ⟨b, 0 + 6, none⟩ = some (.int .i64 0) := HQj.out.cell (0 + 6)
    go_wp2_with fail
    refine (do_spec q1 HAj.out zG_right q1_right).mono ?_
    rintro e u2 ⟨k2, rfl, hat2, hk2⟩
    have hrest := done_rest HAj.out HSj.out HGj.out HZj.out HQj.out hbb hlt hk2
    have HA2 := Lib.hid hat2
    have HR2 := Lib.hid hrest
    clear hat2 hk2 hrest c0 c1 c2 c3 c4 c5 c6
    go_wp2_with fail
    go_roundw
    case rel => exact ⟨1, k2, by omega, by go_num, by rw [all_one]; exact HA2.out, HR2.out⟩
    case measure => simp [RowKit.intOf]
   ·rw [all_one] at HAj
    have c0 : wr.cell? ⟨b, 7, none⟩ = some (.int .i64 2) := HQj.out.cell 7
    have c1 : wr.cell? ⟨b, 7 + 1, none⟩ = some (.int .i64 1) := HQj.out.cell (7 + 1)
    have c2 : wr.cell? ⟨b, 7 + 2, none⟩ = some (.int .i64 1) := HQj.out.cell (7 + 2)
    have c3 : wr.cell? ⟨b, 7 + 3, none⟩ = some (.int .i64 0) := HQj.out.cell (7 + 3)
    have c4 : wr.cell? ⟨b, 7 + 4, none⟩ = some (.int .i64 0) := HQj.out.cell (7 + 4)
    have c5 : wr.cell? ⟨b, 7 + 5, none⟩ = some (.string ⟨#[98, 97]⟩) := HQj.out.cell (7 + 5)
    have c6 : wr.cell? ⟨b, 7 + 6, none⟩ = some (.int .i64 0) := HQj.out.cell (7 + 6)
    go_wp2_with fail
    refine (do_spec q2 HAj.out (done_right zG_right q1_right) q2_right).mono ?_
    rintro e u2 ⟨k2, rfl, hat2, hk2⟩
    have hrest := done_rest HAj.out HSj.out HGj.out HZj.out HQj.out hbb hlt hk2
    have HA2 := Lib.hid hat2
    have HR2 := Lib.hid hrest
    clear hat2 hk2 hrest c0 c1 c2 c3 c4 c5 c6
    go_wp2_with fail
    go_roundw
    case rel => exact ⟨2, k2, by omega, by go_num, by rw [all_two]; exact HA2.out, HR2.out⟩
    case measure => simp [RowKit.intOf]
  ·have hj2 : j = 2 := by omega
   subst hj2
   go_upto_if 23 with (first | (go_at_call 86; refine (one_any g _ 2 (by omega) HSj.out).mono ?_; rintro e w5 ⟨_, ⟨c, rfl⟩, rfl, hs5, hg5⟩))
   have HX : Hid (DrawG g b 1 w w5) := Lib.hid (DrawG.grown ⟨k, _, HAj.out, by rw [all_two]; exact done_right (done_right zG_right q1_right) q2_right, one_word, HSj.out, HGj.out, HZj.out, HQj.out⟩ hg5 hs5 hlt (by omega))
   clear hs5 hg5 HAj HSj HGj HZj HQj
   go_cut [] (fun wx => DrawG g b 1 w wx)
   case first =>
    cases c with
    | false =>
     go_wp2_with fail
     go_meet
     exact HX.out
    | true =>
     obtain ⟨k5, gr, h1, h2, h3, h4, h5, h6, h7⟩ := HX.out
     have H1 := Lib.hid h1
     have H2 := Lib.hid h2
     have H3 := Lib.hid h3
     have H4 := Lib.hid h4
     have H5 := Lib.hid h5
     have H6 := Lib.hid h6
     have H7 := Lib.hid h7
     clear h1 h2 h3 h4 h5 h6 h7 HX
     go_wp2_with fail
     refine (do_spec q3 H1.out H2.out q3_right).mono ?_
     rintro e u2 ⟨k2, rfl, hat2, hk2⟩
     have HX2 : Hid (DrawG g b 1 w u2) := Lib.hid (DrawG.done H1.out H2.out H4.out H5.out H6.out H7.out hbb q3_right hlt hat2 hk2 (Nat.le_trans H3.out (done_words _ q3)))
     clear hat2 hk2
     go_wp2_with fail
     go_meet
     exact HX2.out
   case rest =>
    have HX1 := Lib.hid hcut
    clear hcut HX
    go_wp2_with fail
    refine (n_any g _ 7 (by omega) HX1.out.choose_spec.choose_spec.2.2.2.1).mono ?_
    rintro e w6 ⟨y, h0, h1, _, rfl, hs6, hg6⟩
    have hy : y < 7 := h1 (by omega)
    have HX6 := Lib.hid (HX1.out.grown hg6 hs6 hlt (by omega))
    clear hs6 hg6 h1 HX1
    go_wp2_with fail
    go_loopw [6] (fun i wr => ∃ n : Nat, n ≤ 7 ∧ i = .int .i64 n ∧ DrawG g b 1 w wr) (fun i _ => (RowKit.intOf i).toNat)
    case atStart =>
     obtain ⟨n, rfl⟩ := Int.eq_ofNat_of_zero_le h0
     exact ⟨n, by omega, rfl, HX6.out⟩
    case round =>
     obtain ⟨n, hn, rfl, hd⟩ := hrel
     have HDj := Lib.hid hd
     clear hd HX6 h0 hy
     by_cases hn0 : 0 < n
     ·go_wp2_with fail
      refine (n_any g _ 5 (by omega) HDj.out.choose_spec.choose_spec.2.2.2.1).mono ?_
      rintro e w7 ⟨z, z0, z1, _, rfl, hs7, hg7⟩
      have hz5 : z < 5 := z1 (by omega)
      have ez : IntKind.i64.wrap ((2 : Int) + z) = 2 + z := by rw [IntKind.wrap_i64]; omega
      have HD7 := Lib.hid (HDj.out.grown hg7 hs7 hlt (by omega))
      clear hs7 hg7 z1
      go_wp2_with fail
      refine (reqR_any g (2 + z) _ ⟨by omega, by omega⟩ HD7.out.choose_spec.choose_spec.2.2.2.1).mono ?_
      rintro e w8 ⟨_, ⟨r, hr64, hrR, rfl⟩, rfl, hs8, hg8⟩
      have HD8 := Lib.hid (HD7.out.grown hg8 hs8 hlt (by omega))
      have HR := Lib.hid hrR
      clear hs8 hg8 hr64 hrR ez
      obtain ⟨k5, gr, h1, h2, h3, h4, h5, h6, h7⟩ := HD8.out
      have H1 := Lib.hid h1
      have H2 := Lib.hid h2
      have H3 := Lib.hid h3
      have H4 := Lib.hid h4
      have H5 := Lib.hid h5
      have H6 := Lib.hid h6
      have H7 := Lib.hid h7
      clear h1 h2 h3 h4 h5 h6 h7
      go_wp2_with fail
      refine (do_spec r H1.out H2.out HR.out).mono ?_
      rintro e u2 ⟨k2, rfl, hat2, hk2⟩
      have HX2 : Hid (DrawG g b 1 w u2) := Lib.hid (DrawG.done H1.out H2.out H4.out H5.out H6.out H7.out hbb HR.out hlt hat2 hk2 (Nat.le_trans H3.out (done_words _ r)))
      clear hat2 hk2
      go_wp2_with fail
      go_roundw
      case rel => exact ⟨n - 1, by omega, by go_num, HX2.out⟩
      case measure => simp [RowKit.intOf]; omega
     ·have hn1 : n = 0 := by omega
      subst hn1
      obtain ⟨k5, gr, h1, h2, h3, h4, h5, h6, h7⟩ := HDj.out
      have H1 := Lib.hid h1
      have H2 := Lib.hid h2
      have H3 := Lib.hid h3
      have H4 := Lib.hid h4
      have H5 := Lib.hid h5
      have H6 := Lib.hid h6
      have H7 := Lib.hid h7
      clear h1 h2 h3 h4 h5 h6 h7
      have y0 : wr.cell? ⟨w.heap.size + 1, 0, none⟩ = some (.int .i64 gr.now) := H1.out.row.cell 0
      have y1 : wr.cell? ⟨w.heap.size + 1, 1, none⟩ = some (.slice k5.wp k5.wn k5.wc) := H1.out.row.cell 1
      have y2 : wr.cell? ⟨w.heap.size + 1, 2, none⟩ = some (.slice k5.kp k5.kn k5.kc) := H1.out.row.cell 2
      have y3 : wr.cell? ⟨w.heap.size + 1, 3, none⟩ = some (.slice k5.dp k5.dn k5.dc) := H1.out.row.cell 3
      go_wp2_with (refine Stop.out (p := wpList _ _ _ [{ dst := none, op := .store 27 (.tmp 2) (.tmp 38), type := _, pos := _, after := _, guard := _ }] _ _) ?_)
      constructor
      refine wpList_store_to rfl 27 (.tmp 2) (.tmp 38) rfl w.heap.size 0 #[.int .i64 gr.now, .slice k5.wp k5.wn k5.wc, .slice k5.kp k5.kn k5.kc, .slice k5.dp k5.dn k5.dc] rfl rfl (H6.out.there 0 4 (by show 0 + 4 ≤ 4; omega)) sizeGrantZ (oneGrantZ gr.now k5) ?_
      intro Z hZ
      have hk7 : Kept wr.heap.size w.heap.size w.heap.size w.heap.size wr Z := by rw [hZ]; exact Kept.setCells (.inl rfl) _ 0 (Kept.refl _ _ _ _ _)
      have Z1 : Row Z w.heap.size 27 (grL gr.now k5) := by rw [hZ]; exact H6.out.setCells _ 0
      have HOz := own_move (M := w.heap.size) ⟨H1.out.words, H1.out.keys, H1.out.dead⟩ hk7 (by omega) (by omega)
      have hgs := H4.out.lt
      have hz6 := H6.out.lt
      have HSz := H4.out.upTo (fun i hi => hk7.block i (by omega) (by omega) (by omega) (by omega))
      have HGz := grown_kept H5.out hk7 (by omega) (by omega) (by omega)
      clear hZ hk7 y0 y1 y2 y3
      go_wp2_with fail
      refine bodyPost_ret (ret_grant rfl rfl Z1) rfl ?_
      exact ⟨k5, gr, rfl, HOz, H2.out, H3.out, HSz, HGz⟩
end Go.Proofs.YtchfgdiipjbgoaaGreat
