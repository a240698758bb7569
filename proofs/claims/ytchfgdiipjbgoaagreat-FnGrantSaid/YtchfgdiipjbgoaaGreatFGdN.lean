/- The promise of grants: its calls, as it meets them. The promise of grants: what comes of it, as mathematics. -/
import Derived.Test.YtchfgdiipjbgoaaGreatFDrG3
import Derived.Test.YtchfgdiipjbgoaaGreatFDrG2
import Derived.Test.YtchfgdiipjbgoaaGreatFLwG
import Derived.Test.YtchfgdiipjbgoaaGreatFGdR
import Derived.Test.YtchfgdiipjbgoaaGreatFFgM
import Derived.Test.YtchfgdiipjbgoaaGreatFGdS
import Derived.Test.YtchfgdiipjbgoaaGreatFSpGA
import Derived.Test.YtchfgdiipjbgoaaGreatFSpGD
namespace Go.Proofs.YtchfgdiipjbgoaaGreat
open Go Go.RowKit Go.Lib
set_option linter.unusedVariables false
set_option maxRecDepth 100000

theorem own_isIn {N : Nat} {w : World} {h : GH} {g : Gr} (k : GrOwn N g h w) : GrIn w h g := by
 refine ⟨⟨own_len k.1, own_len k.2.1, own_len k.2.2⟩, ?_, ?_, ?_⟩
 ·rcases Nat.eq_zero_or_pos g.words.length with h0 | h0
  ·exact .inl (List.eq_nil_of_length_eq_zero h0)
  ·obtain ⟨gN, h1, _, _, _, h2⟩ := own_some k.1 h0
   exact .inr ⟨gN, 0, h1, fun j u hj => by rw [Nat.zero_add]; exact h2 j u hj⟩
 ·rcases Nat.eq_zero_or_pos g.keys.length with h0 | h0
  ·exact .inl (List.eq_nil_of_length_eq_zero h0)
  ·obtain ⟨gN, h1, _, _, _, h2⟩ := own_some k.2.1 h0
   exact .inr ⟨gN, 0, h1, fun j u hj => by rw [Nat.zero_add]; exact h2 j u hj⟩
 ·rcases Nat.eq_zero_or_pos g.dead.length with h0 | h0
  ·exact .inl (List.eq_nil_of_length_eq_zero h0)
  ·obtain ⟨gN, h1, _, _, _, h2⟩ := own_some k.2.2 h0
   exact .inr ⟨gN, 0, h1, fun j u hj => by rw [Nat.zero_add]; exact h2 j u hj⟩
theorem own_srcs {N : Nat} {w : World} {h : GH} {g : Gr} (k : GrOwn N g h w) : SrcG w h g := by
 have e1 := own_len k.1
 have e2 := own_len k.2.1
 have e3 := own_len k.2.2
 exact ⟨Src.of_own k.1, Src.of_own k.2.1, Src.of_own k.2.2⟩
def Made (G : Gr) (s : RS) (c : Int) (w : World) (e : Ending) (w' : World) : Prop := ∃ k : GH, e = .returned (goV G.now k s c) ∧ GrOwn 0 G k w' ∧ Below w.heap.size w w'
theorem gdo_i {g G : Gr} {h : GH} {r : RQ} {s : RS} {c : Int} {w : World} (hD : gdD g r = (G, s, c)) (ho : GrOwn 0 g h w) (hwf : GrWf g) (hs : GrSmall g) (hp : r.proof.size ≤ maxLen) : Calls Tryz.prog 13 #[grV g.now h, rqV r] w (Made G s c w) := by
 have hh := gdo_impl g h r w (own_isIn ho) hwf hs hp
 rw [hD] at hh
 exact hh.mono fun e w' ⟨k, h1, h2, h3⟩ => ⟨k, h1, own3_dn h2 (Nat.zero_le _), h3⟩
theorem gdo_s {g G : Gr} {h : GH} {r : RQ} {s : RS} {c : Int} {w : World} (hD : gdD g r = (G, s, c)) (ho : GrOwn 0 g h w) (hs : GrSmall g) (hp : r.proof.size ≤ maxLen) : Calls Tryz.prog 18 #[grV g.now h, rqV r] w (Made G s c w) := by
 have hh := gdo_spec g h r w (own_isIn ho) (own_srcs ho) hs hp
 rw [hD] at hh
 exact hh.mono fun e w' ⟨k, h1, h2, h3⟩ => ⟨k, h1, own3_dn h2 (Nat.zero_le _), h3⟩
theorem ga_i {g G : Gr} {h : GH} {l : List RQ} {n : Nat} {q : Option Addr} {cap : Nat} {s : RS} {c : Int} {w : World} (hD : gaD g l = (G, s, c)) (hn : n = l.length) (ho : GrOwn 0 g h w) (hwf : GrWf g) (hs : GrSmall g) (hl : LIn rqCf w q l) (hll : l.length ≤ 10) (hp : ∀ r ∈ l, r.proof.size ≤ maxLen) : Calls Tryz.prog 15 #[grV g.now h, .slice q n cap] w (Made G s c w) := by
 subst hn
 have hh := ga_impl g h q cap l w (own_isIn ho) hwf hs hl (by omega) hp
 rw [hD] at hh
 exact hh.mono fun e w' ⟨k, h1, h2, h3⟩ => ⟨k, h1, own3_dn h2 (Nat.zero_le _), h3⟩
theorem ga_s {g G : Gr} {h : GH} {l : List RQ} {n : Nat} {q : Option Addr} {cap : Nat} {s : RS} {c : Int} {w : World} (hD : gaD g l = (G, s, c)) (hn : n = l.length) (ho : GrOwn 0 g h w) (hs : GrSmall g) (hl : LIn rqCf w q l) (hll : l.length ≤ 10) (hp : ∀ r ∈ l, r.proof.size ≤ maxLen) : Calls Tryz.prog 19 #[grV g.now h, .slice q n cap] w (Made G s c w) := by
 subst hn
 have hh := ga_spec g h q cap l w (own_isIn ho) (own_srcs ho) hs hl (by omega) hp
 rw [hD] at hh
 exact hh.mono fun e w' ⟨k, h1, h2, h3⟩ => ⟨k, h1, own3_dn h2 (Nat.zero_le _), h3⟩
/-- What an answer is: right, if its code is OK; short and of 64 bits in any case. -/
theorem gd_good {g G : Gr} {r : RQ} {s : RS} {c : Int} (h : gdD g r = (G, s, c)) : GrSmall G ∧ GrWf G ∧ (c = 0 → grantB G = true ∧ grantB g = true ∧ rightB r = true ∧ doD g r = (G, s)) := by
 unfold gdD at h
 split at h
 ·rename_i hb
  simp only [Bool.and_eq_true] at hb
  simp only [Prod.mk.injEq] at h
  have hr : grantB G = true := by rw [← h.1]; exact done_right hb.1 hb.2
  exact ⟨right_small hr, right_wf hr, fun _ => ⟨hr, hb.1, hb.2, by rw [← h.1, ← h.2.1]⟩⟩
 ·simp only [Prod.mk.injEq] at h
  rw [← h.1]
  refine ⟨right_small zG_right, right_wf zG_right, fun h0 => ?_⟩
  omega
theorem ga_good {g G : Gr} {l : List RQ} {s : RS} {c : Int} (hl : l.length ≤ 10) (h : gaD g l = (G, s, c)) : GrSmall G ∧ GrWf G ∧ (c = 0 → grantB G = true) ∧ (grantB g = true → c = 0 ∧ G = (allD g l).1 ∧ grantB G = true) := by
 unfold gaD at h
 rw [if_neg (by omega)] at h
 split at h
 ·rename_i hb
  simp only [Prod.mk.injEq] at h
  have hr : grantB G = true := by rw [← h.1]; exact allD_right hb l
  exact ⟨right_small hr, right_wf hr, fun _ => hr, fun _ => ⟨h.2.2.symm, h.1.symm, hr⟩⟩
 ·rename_i hb
  simp only [Prod.mk.injEq] at h
  rw [← h.1]
  exact ⟨right_small zG_right, right_wf zG_right, fun h0 => by omega, fun hg => absurd hg hb⟩
/-- The promise's variables: where they lie, and what lies there. -/
structure Fg (w W : World) (q5 q6 q7 q8 q10 q11 b : Nat) (kg kx kh ky ko : GH) (g Gx h Gy o : Gr) (r : RQ) (sx sy : RS) (cx cy : Int) (l : List RQ) : Prop where
 r5 : Row W q5 27 (grL g.now kg)
 r6 : Row W q6 29 (rqL r)
 r7 : Row W q7 35 (goL Gx.now kx sx cx)
 r8 : Row W q8 27 (grL h.now kh)
 r10 : Row W q10 35 (goL Gy.now ky sy cy)
 r11 : Row W q11 27 (grL o.now ko)
 o5 : GrOwn 0 g kg W
 o7 : GrOwn 0 Gx kx W
 o8 : GrOwn 0 h kh W
 o10 : GrOwn 0 Gy ky W
 o11 : GrOwn 0 o ko W
 la : LAt rqCf W b 0 l
 bel : Below w.heap.size w W
section
variable {w W W' : World} {q5 q6 q7 q8 q10 q11 b : Nat} {kg kx kh ky ko : GH} {g Gx h Gy o : Gr} {r : RQ} {sx sy : RS} {cx cy : Int} {l : List RQ}
theorem Fg.later (f : Fg w W q5 q6 q7 q8 q10 q11 b kg kx kh ky ko g Gx h Gy o r sx sy cx cy l) (hb : Below W.heap.size W W') : Fg w W' q5 q6 q7 q8 q10 q11 b kg kx kh ky ko g Gx h Gy o r sx sy cx cy l :=
 ⟨f.r5.below hb f.r5.lt, f.r6.below hb f.r6.lt, f.r7.below hb f.r7.lt, f.r8.below hb f.r8.lt, f.r10.below hb f.r10.lt, f.r11.below hb f.r11.lt, f.o5.later hb, f.o7.later hb, f.o8.later hb, f.o10.later hb, f.o11.later hb, f.la.later hb, f.bel.trans (hb.mono f.bel.size)⟩
end
end Go.Proofs.YtchfgdiipjbgoaaGreat
/- The promise of grants: what comes of it, as mathematics. -/
namespace Go.Proofs.YtchfgdiipjbgoaaGreat
open Go Go.RowKit Go.Lib
set_option linter.unusedVariables false
set_option maxRecDepth 100000

theorem no98 {r : RQ} (h : rightB r = true) : rightB { r with no := 98 } = true := by
 unfold rightB at h ⊢
 simp only [Bool.and_eq_true] at h ⊢
 exact ⟨⟨by decide, h.1.2⟩, h.2⟩
theorem gd_right {g : Gr} {r : RQ} (hg : grantB g = true) (hr : rightB r = true) : gdD g r = ((doD g r).1, (doD g r).2, 0) := by simp [gdD, hg, hr]
theorem fg_math {g Gx : Gr} {r : RQ} {sx : RS} (hg : grantB g = true) (hr : rightB r = true) (hdo : doD g r = (Gx, sx)) (hGx : grantB Gx = true) (hS : sx.code = 0) (hK : r.kind = 2 ∨ r.kind = 3) (hT : Gx.now ≤ 999000) :
  sx.token = 10 * r.no + 1 ∧ sx.next = 10 * r.no + 2 ∧ (1 ≤ r.no ∧ r.no ≤ 99) ∧
  (∀ G s c, gdD Gx { r with no := 98 } = (G, s, c) → Gx.keys.length ≤ 38 → s.code = 7 ∨ (s.code = 10 ∧ opensB G sx.token r.client = false ∧ opensB G sx.next r.client = false)) ∧
  opensB Gx sx.token r.client = true ∧
  (∀ G s c, gdD Gx ⟨97, 6, 0, 0, 0, ⟨#[]⟩, 60⟩ = (G, s, c) → opensB G sx.token r.client = true) ∧
  (∀ G s c, gdD Gx ⟨97, 6, 0, 0, 0, ⟨#[]⟩, 61⟩ = (G, s, c) → opensB G sx.token r.client = false) ∧
  (∀ G s c, gdD Gx ⟨97, 4, r.client, 0, sx.token, ⟨#[]⟩, 0⟩ = (G, s, c) → opensB G sx.token r.client = false) := by
 obtain ⟨hn, _⟩ := rq_facts hr
 obtain ⟨fam, hsv, hag⟩ : ∃ fam, Served g r (doD g r) fam ∧ Again (doD g r) { r with no := 98 } fam := by
  rcases hK with h2 | h3
  ·exact ⟨_, served_redeem h2 (by rw [hdo]; exact hS) 98⟩
  ·exact served_refresh h3 (by rw [hdo]; exact hS) hn.1 98
 rw [hdo] at hsv hag
 have hnow : Gx.now = g.now := hsv.now
 have h0 : 0 ≤ g.now := (gr_facts hg).1.1
 have hres : sx = giveR r := hsv.resp
 have et : sx.token = 10 * r.no + 1 := by rw [hres]; rfl
 have en : sx.next = 10 * r.no + 2 := by rw [hres]; rfl
 have hso := served_opens hsv (by omega)
 rw [et, en]
 refine ⟨rfl, rfl, hn, fun G s c hD hlen => ?_, ?_, fun G s c hD => ?_, fun G s c hD => ?_, fun G s c hD => ?_⟩
 ·rw [gd_right hGx (no98 hr)] at hD
  simp only [Prod.mk.injEq] at hD
  obtain ⟨h1, h2, h3⟩ := hD
  by_cases hroom : roomC Gx { r with no := 98 } = 0
  ·right
   have h4 := hag hroom
   rw [h4] at h1 h2
   rw [← h1, ← h2]
   refine ⟨rfl, ?_, ?_⟩
   ·unfold opensB; rw [hso.2.1]; simp
   ·unfold opensB; rw [hso.2.2]; simp
  ·left
   have hcode : roomC Gx { r with no := 98 } = 7 := by
    unfold roomC at hroom ⊢
    rw [if_neg (by omega)] at hroom ⊢
    split at hroom
    ·rename_i hh; rw [if_pos hh]
    ·exact absurd rfl hroom
   rw [← h2]
   rcases hK with hk | hk
   ·have hd : doD Gx { r with no := 98 } = redeemD Gx { r with no := 98 } := by unfold doD; rw [if_neg (show ¬ r.kind = 1 by omega), if_pos (show r.kind = 2 from hk)]
    rw [hd]; unfold redeemD; rw [if_neg hroom]; exact hcode
   ·have hd : doD Gx { r with no := 98 } = refreshD Gx { r with no := 98 } := by unfold doD; rw [if_neg (show ¬ r.kind = 1 by omega), if_neg (show ¬ r.kind = 2 by omega), if_pos (show r.kind = 3 from hk)]
    rw [hd]; unfold refreshD; rw [if_neg hroom]; exact hcode
 ·unfold opensB; rw [hGx, hso.1]; rfl
 ·have hr6 : rightB ⟨97, 6, 0, 0, 0, ⟨#[]⟩, 60⟩ = true := by kernel_rfl
  rw [gd_right hGx hr6] at hD
  simp only [Prod.mk.injEq] at hD
  have hgr := done_right hGx hr6
  have hl := served_late (t := ⟨97, 6, 0, 0, 0, ⟨#[]⟩, 60⟩) hsv (by omega) h0 rfl (.inl rfl)
  unfold opensB
  rw [← hD.1, hgr, hl]
  rfl
 ·have hr6 : rightB ⟨97, 6, 0, 0, 0, ⟨#[]⟩, 61⟩ = true := by kernel_rfl
  rw [gd_right hGx hr6] at hD
  simp only [Prod.mk.injEq] at hD
  have hl := served_late (t := ⟨97, 6, 0, 0, 0, ⟨#[]⟩, 61⟩) hsv (by omega) h0 rfl (.inr rfl)
  unfold opensB
  rw [← hD.1, hl]
  simp
 ·by_cases hr4 : rightB ⟨97, 4, r.client, 0, 10 * r.no + 1, ⟨#[]⟩, 0⟩ = true
  ·rw [gd_right hGx hr4] at hD
   simp only [Prod.mk.injEq] at hD
   have hl := served_revoked (t := ⟨97, 4, r.client, 0, 10 * r.no + 1, ⟨#[]⟩, 0⟩) hsv rfl rfl rfl
   unfold opensB
   rw [← hD.1, hl]
   simp
  ·have hz : gdD Gx ⟨97, 4, r.client, 0, 10 * r.no + 1, ⟨#[]⟩, 0⟩ = (zG, codeR 0, 1) := by simp [gdD, hr4]
   rw [hz] at hD
   simp only [Prod.mk.injEq] at hD
   rw [← hD.1]
   rfl
end Go.Proofs.YtchfgdiipjbgoaaGreat
