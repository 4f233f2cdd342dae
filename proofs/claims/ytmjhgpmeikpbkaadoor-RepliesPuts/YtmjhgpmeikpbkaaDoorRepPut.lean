/- 'Put': a reply as bytes of its own, or the error; nothing that was there turns. -/
import Derived.Test.YtmjhgpmeikpbkaaDoorHowMath
import Derived.Test.YtmjhgpmeikpbkaaDoorRepPutK
import Derived.Deep.WholeRow
import Derived.Deep.RegionHeld3
import Derived.Deep.Cut
namespace Go.Proofs.YtmjhgpmeikpbkaaDoor
set_option linter.unusedVariables false
open Go.RowKit Go.Maps

/-- The row of a How, or none's. -/
def rr (h : Int) : Int := if h ∈ hows then h else 999

theorem zeroR (w : World) : (zeroValue 57).run Tryd.prog w = .ok (.agg #[.int .u32 0, .int .u32 0, .int .u32 0, .int .u32 0, .int .i64 0, .int .u32 0, .int .u32 0, .int .u32 0, .int .u32 0, .bool false]) w := by kernel_rfl

theorem look_rows {w : World} {M : Nat} {h : Int} (hown : w.ownsMap Tryd.prog 23 rowR M 7 (Dp hows)) (h0 : 0 ≤ h) (h1 : h ≤ 4294967295) :
    (Instr.lookup 59 (.map (some M)) (.int .u32 h) true).run Tryd.prog w = .ok (.tuple #[rowV (rr h), .bool (decide (h ∈ hows))]) w := by
  obtain ⟨v, ps, hrun, hv⟩ := hown.look_ok lawA Tryd.underlying59 (zeroR w) rowR_z (keyA h0 h1)
  rw [hrun, has_Dp]
  obtain ⟨a, ha, rfl, hy⟩ := rowR_inv hv
  rw [atKey_Dp] at hy
  have : a = rr h := by
    unfold rr
    split at hy
    · rename_i hh
      rw [if_pos hh]
      simp only [Prod.mk.injEq, DataW.lit.injEq, Lit.int.injEq, true_and] at hy
      exact hy.1.symm
    · rename_i hh
      rw [if_neg hh]
      simp only [Prod.mk.injEq, DataW.lit.injEq, Lit.int.injEq, true_and] at hy
      exact hy.1.symm
  rw [this]

/-- May a reply be, by its row? -/
theorem may_iff {h l g : Int} {n : Nat} (hl : U l) (hg : U g) : (decide (h ∈ hows) && mayB (rr h) l g n) = decide (May h l g n) := by
  have l0 := hl.lo
  have l1 := hl.hi
  have g0 := hg.lo
  have g1 := hg.hi
  by_cases hh : h ∈ hows
  · rw [decide_eq_true hh, Bool.true_and, rr, if_pos hh]
    simp only [hows, List.mem_cons, List.not_mem_nil, or_false] at hh
    rw [Bool.eq_iff_iff, decide_eq_true_iff]
    simp only [mayB, Bool.and_eq_true, Bool.or_eq_true, decide_eq_true_iff]
    unfold May
    rcases hh with rfl | rfl | rfl | rfl | rfl | rfl | rfl
    all_goals simp only [show ∀ x : Int, lo0 x = if x = 101 then 1 else 0 from fun _ => rfl, show ∀ x : Int, lo1 x = if x = 101 then 7 else if x = 2 ∨ x = 100 then 4294967295 else 0 from fun _ => rfl, show ∀ x : Int, hi1 x = if x = 2 ∨ x = 100 then 4294967295 else 0 from fun _ => rfl, show ∀ x : Int, bod x = (x == 0) from fun _ => rfl]
    all_goals simp
    all_goals omega
  · rw [decide_eq_false hh, Bool.false_and]
    symm
    rw [decide_eq_false_iff_not]
    intro hm
    apply hh
    simp only [hows, List.mem_cons, List.not_mem_nil, or_false]
    unfold May at hm
    omega

theorem ten_store {W : World} {h : Nat} {x0 x1 x2 x3 x4 x5 x6 x7 x8 x9 : Value} {t : TypeId} (hh : W.heap[h]? = some (.cells #[x0, x1, x2, x3, x4, x5, x6, x7, x8, x9] t)) (y0 y1 y2 y3 y4 y5 y6 y7 y8 y9 : Value) :
    ((((((((((W.setCell ⟨h, 0, none⟩ y0).setCell ⟨h, 1, none⟩ y1).setCell ⟨h, 2, none⟩ y2).setCell ⟨h, 3, none⟩ y3).setCell ⟨h, 4, none⟩ y4).setCell ⟨h, 5, none⟩ y5).setCell ⟨h, 6, none⟩ y6).setCell ⟨h, 7, none⟩ y7).setCell ⟨h, 8, none⟩ y8).setCell ⟨h, 9, none⟩ y9).heap[h]? = some (.cells #[y0, y1, y2, y3, y4, y5, y6, y7, y8, y9] t) ∧ W.grownBy ((((((((((W.setCell ⟨h, 0, none⟩ y0).setCell ⟨h, 1, none⟩ y1).setCell ⟨h, 2, none⟩ y2).setCell ⟨h, 3, none⟩ y3).setCell ⟨h, 4, none⟩ y4).setCell ⟨h, 5, none⟩ y5).setCell ⟨h, 6, none⟩ y6).setCell ⟨h, 7, none⟩ y7).setCell ⟨h, 8, none⟩ y8).setCell ⟨h, 9, none⟩ y9) (some h) := by
  have h0 : (W.setCell ⟨h, 0, none⟩ y0).heap[h]? = some (.cells #[y0, x1, x2, x3, x4, x5, x6, x7, x8, x9] t) := setCell_same hh y0
  have h1 : ((W.setCell ⟨h, 0, none⟩ y0).setCell ⟨h, 1, none⟩ y1).heap[h]? = some (.cells #[y0, y1, x2, x3, x4, x5, x6, x7, x8, x9] t) := setCell_same h0 y1
  have h2 : (((W.setCell ⟨h, 0, none⟩ y0).setCell ⟨h, 1, none⟩ y1).setCell ⟨h, 2, none⟩ y2).heap[h]? = some (.cells #[y0, y1, y2, x3, x4, x5, x6, x7, x8, x9] t) := setCell_same h1 y2
  have h3 : ((((W.setCell ⟨h, 0, none⟩ y0).setCell ⟨h, 1, none⟩ y1).setCell ⟨h, 2, none⟩ y2).setCell ⟨h, 3, none⟩ y3).heap[h]? = some (.cells #[y0, y1, y2, y3, x4, x5, x6, x7, x8, x9] t) := setCell_same h2 y3
  have h4 : (((((W.setCell ⟨h, 0, none⟩ y0).setCell ⟨h, 1, none⟩ y1).setCell ⟨h, 2, none⟩ y2).setCell ⟨h, 3, none⟩ y3).setCell ⟨h, 4, none⟩ y4).heap[h]? = some (.cells #[y0, y1, y2, y3, y4, x5, x6, x7, x8, x9] t) := setCell_same h3 y4
  have h5 : ((((((W.setCell ⟨h, 0, none⟩ y0).setCell ⟨h, 1, none⟩ y1).setCell ⟨h, 2, none⟩ y2).setCell ⟨h, 3, none⟩ y3).setCell ⟨h, 4, none⟩ y4).setCell ⟨h, 5, none⟩ y5).heap[h]? = some (.cells #[y0, y1, y2, y3, y4, y5, x6, x7, x8, x9] t) := setCell_same h4 y5
  have h6 : (((((((W.setCell ⟨h, 0, none⟩ y0).setCell ⟨h, 1, none⟩ y1).setCell ⟨h, 2, none⟩ y2).setCell ⟨h, 3, none⟩ y3).setCell ⟨h, 4, none⟩ y4).setCell ⟨h, 5, none⟩ y5).setCell ⟨h, 6, none⟩ y6).heap[h]? = some (.cells #[y0, y1, y2, y3, y4, y5, y6, x7, x8, x9] t) := setCell_same h5 y6
  have h7 : ((((((((W.setCell ⟨h, 0, none⟩ y0).setCell ⟨h, 1, none⟩ y1).setCell ⟨h, 2, none⟩ y2).setCell ⟨h, 3, none⟩ y3).setCell ⟨h, 4, none⟩ y4).setCell ⟨h, 5, none⟩ y5).setCell ⟨h, 6, none⟩ y6).setCell ⟨h, 7, none⟩ y7).heap[h]? = some (.cells #[y0, y1, y2, y3, y4, y5, y6, y7, x8, x9] t) := setCell_same h6 y7
  have h8 : (((((((((W.setCell ⟨h, 0, none⟩ y0).setCell ⟨h, 1, none⟩ y1).setCell ⟨h, 2, none⟩ y2).setCell ⟨h, 3, none⟩ y3).setCell ⟨h, 4, none⟩ y4).setCell ⟨h, 5, none⟩ y5).setCell ⟨h, 6, none⟩ y6).setCell ⟨h, 7, none⟩ y7).setCell ⟨h, 8, none⟩ y8).heap[h]? = some (.cells #[y0, y1, y2, y3, y4, y5, y6, y7, y8, x9] t) := setCell_same h7 y8
  have h9 : ((((((((((W.setCell ⟨h, 0, none⟩ y0).setCell ⟨h, 1, none⟩ y1).setCell ⟨h, 2, none⟩ y2).setCell ⟨h, 3, none⟩ y3).setCell ⟨h, 4, none⟩ y4).setCell ⟨h, 5, none⟩ y5).setCell ⟨h, 6, none⟩ y6).setCell ⟨h, 7, none⟩ y7).setCell ⟨h, 8, none⟩ y8).setCell ⟨h, 9, none⟩ y9).heap[h]? = some (.cells #[y0, y1, y2, y3, y4, y5, y6, y7, y8, y9] t) := setCell_same h8 y9
  have g : ∀ (V : World) (k : Nat) (v : Value), V.grownBy (V.setCell ⟨h, k, none⟩ v) (some h) := fun V k v => ⟨by simp [World.setCell], by simp [World.setCell], by simp [World.setCell], by simp [World.setCell], fun k hk hne => Below.heap_setCell _ _ _ _ (fun e => hne (by rw [e]))⟩
  have tr : ∀ {a b c : World}, a.grownBy b (some h) → b.grownBy c (some h) → a.grownBy c (some h) := fun p q => p.andThen q (fun j hj => .inr hj)
  exact ⟨h9, (tr (tr (tr (tr (tr (tr (tr (tr (tr (g _ 0 _) (g _ 1 _)) (g _ 2 _)) (g _ 3 _)) (g _ 4 _)) (g _ 5 _)) (g _ 6 _)) (g _ 7 _)) (g _ 8 _)) (g _ 9 _))⟩

/-- What is known behind the look-up of a row. -/
structure PutSt (w : World) (x h l g : Int) (ba : Option Addr) (bl bc : Nat) (bs : List Int) (R : Nat) (W : World) : Prop where
  below : Below w.heap.size w W
  rep : W.heap[w.heap.size]? = some (.cells #[.int .u32 x, .int .u32 h, .int .u32 l, .int .u32 g, .slice ba bl bc] 26)
  row : W.heap[R]? = some (.cells #[.int .u32 (fx0 (rr h)), .int .u32 (fx1 (rr h)), .int .u32 0, .int .u32 (fx3 (rr h)), .int .i64 (mny (rr h)), .int .u32 (lo0 (rr h)), .int .u32 (lo1 (rr h)), .int .u32 0, .int .u32 (hi1 (rr h)), .bool (bod (rr h))] 57)
  lt : w.heap.size < R

set_option maxRecDepth 100000 in
set_option maxHeartbeats 1000000 in
theorem rput_any (x h l g : Int) (ba : Option Addr) (bl bc : Nat) (bs : List Int) (w : World) (hx : U x) (hh : U h) (hl : U l) (hg : U g) (hA : Any w) (hz : bs.length = bl) (hb : Byt bs) (hs : Seg w ba bs) (hn : ba = none → bl = 0 ∧ bc = 0) (hm : bl ≤ 1000000) :
    Calls Tryd.prog 10 #[.agg #[.int .u32 x, .int .u32 h, .int .u32 l, .int .u32 g, .slice ba bl bc]] w fun e w' => ∃ v, e = .returned (.tuple #[v, .int .i64 (rputE h l g bl)]) ∧ w'.ownsRow w.heap.size 5 1 v (rputZ x h l g bs).length ((rputZ x h l g bs).map (Value.int .u8)) ∧ Below w.heap.size w w' := by
  have hB : Below w.heap.size w (w.alloc (.cells #[.int .u32 x, .int .u32 h, .int .u32 l, .int .u32 g, .slice ba bl bc] 26)) := (Below.refl _ _).alloc (Nat.le_refl _) _
  have k1 := heap_alloc_last w (.cells #[.int .u32 x, .int .u32 h, .int .u32 l, .int .u32 g, .slice ba bl bc] 26)
  have hsz : w.heap.size < (w.alloc (.cells #[.int .u32 x, .int .u32 h, .int .u32 l, .int .u32 g, .slice ba bl bc] 26)).heap.size := by simp
  go_enter Tryd.func10, Tryd.ntmps10
  go_wp2_with fail
  have hs2 := hs.below hB
  have hA2 := hA.below hB
  generalize w.alloc (.cells #[.int .u32 x, .int .u32 h, .int .u32 l, .int .u32 g, .slice ba bl bc] 26) = W at *
  go_cut [4, 5] from 7 (fun s4 s5 wx => ∃ R, s4 = .pointer (some ⟨R, 0, none⟩) ∧ s5 = .bool (decide (h ∈ hows)) ∧ PutSt w x h l g ba bl bc bs R wx)
  case first =>
    obtain ⟨b, hbb⟩ : ∃ b, b = w.heap.size := ⟨_, rfl⟩
    rw [← hbb] at k1 hsz hB ⊢
    have HH : Hid (b = w.heap.size) := hbb
    clear hbb
    have hbW : Below W.heap.size W W.drew := ⟨rfl, rfl, rfl, Nat.le_refl _, fun _ _ => rfl⟩
    have hbA : ∀ o, Below W.heap.size W (W.alloc o).drew := fun o => ((Below.refl _ W).alloc (Nat.le_refl _) o).trans ⟨rfl, rfl, rfl, Nat.le_refl _, fun _ _ => rfl⟩
    have k1d := (hbW.block _ (by omega)).trans k1
    have k1e := fun o => ((hbA o).block _ hsz).trans k1
    have hA3 := hA2.below hbW
    have hA4 := fun o => hA2.below (hbA o)
    have S1 := (five_at k1d).2.1
    have T1 := fun o => (five_at (k1e o)).2.1
    have hM : ∀ o, (W.alloc o).drew.heap.size = W.heap.size + 1 := fun o => by simp [World.drew]
    go_region_held3 (fun w' => w'.cell? ⟨b, 1, none⟩ = some (.int .u32 h)) (first | with_reducible exact S1 | with_reducible exact T1 _ | with_reducible exact S2 | with_reducible exact S3 _ | with_reducible exact S4) (first
      | (go_at_call 25; refine (rows_any _ hA3).mono ?_; rintro e w2 ⟨rfl, hown, hb2⟩; have k1a := (hb2.block b hsz).trans k1d; have S2 := (five_at k1a).2.1; have k1b := fun o => ((MapKept.heap_alloc w2 o).2 b (Array.getElem?_eq_some_iff.1 k1a).1).trans k1a; have S3 := fun o => (five_at (k1b o)).2.1; have hlk : (Instr.lookup 59 (.map (some W.heap.size)) (.int .u32 h) true).run Tryd.prog w2 = .ok (.tuple #[rowV (rr h), .bool (decide (h ∈ hows))]) w2 := look_rows hown hh.lo hh.hi; have hlkA : ∀ o, (Instr.lookup 59 (.map (some W.heap.size)) (.int .u32 h) true).run Tryd.prog (w2.alloc o) = .ok (.tuple #[rowV (rr h), .bool (decide (h ∈ hows))]) (w2.alloc o) := fun o => look_rows (hown.alloc o) hh.lo hh.hi)
      | (go_at_call 25; refine (rows_any _ (hA4 _)).mono ?_; rintro e w2 ⟨rfl, hown, hb2⟩; rw [hM] at hown hb2; have k1a := (hb2.block b (by omega)).trans (k1e _); have S2 := (five_at k1a).2.1; have kR := (hb2.block W.heap.size (by omega)).trans (show (W.alloc _).drew.heap[W.heap.size]? = _ from heap_alloc_last W _); obtain ⟨z0, z1, z2, z3, z4, z5, z6, z7, z8, z9⟩ := ten_at kR; have fz : ∀ i, w2.frozen? ⟨W.heap.size, i, none⟩ = false := fun i => by simp [World.frozen?, kR]
         obtain ⟨kR', hgR⟩ := ten_store kR (.int .u32 (fx0 (rr h))) (.int .u32 (fx1 (rr h))) (.int .u32 0) (.int .u32 (fx3 (rr h))) (.int .i64 (mny (rr h))) (.int .u32 (lo0 (rr h))) (.int .u32 (lo1 (rr h))) (.int .u32 0) (.int .u32 (hi1 (rr h))) (.bool (bod (rr h)))
         have S4 := (five_at ((hgR.block b (Array.getElem?_eq_some_iff.1 k1a).1 (fun e => by injection e with e; omega)).trans k1a)).2.1
         have hlk : (Instr.lookup 59 (.map (some (W.heap.size + 1))) (.int .u32 h) true).run Tryd.prog w2 = .ok (.tuple #[rowV (rr h), .bool (decide (h ∈ hows))]) w2 := look_rows hown hh.lo hh.hi))
    -- the ends of the three orders
    all_goals have ew := HH.out
    all_goals subst ew
    · have q2 : Below W.heap.size W w2 := hbW.trans hb2
      have qw : Below w.heap.size w w2 := hB.trans (q2.mono (Nat.le_of_lt hsz))
      have hle := qw.size
      have hlt := (Array.getElem?_eq_some_iff.1 k1a).1
      have hE : PutSt w x h l g ba bl bc bs w2.heap.size (w2.alloc _) := ⟨qw.alloc hle _, k1b _, heap_alloc_last w2 _, hlt⟩
      go_wp2_with fail
      go_meet
      case rel => exact ⟨_, rfl, rfl, hE⟩
    · have q2 : Below W.heap.size W w2 := hbW.trans hb2
      have qw : Below w.heap.size w w2 := hB.trans (q2.mono (Nat.le_of_lt hsz))
      have hle := qw.size
      have hlt := (Array.getElem?_eq_some_iff.1 k1a).1
      have hE : PutSt w x h l g ba bl bc bs w2.heap.size (w2.alloc _) := ⟨qw.alloc hle _, k1b _, heap_alloc_last w2 _, hlt⟩
      go_wp2_with fail
      go_meet
      case rel => exact ⟨_, rfl, rfl, hE⟩
    · have q2 : Below W.heap.size W w2 := (hbA _).trans (hb2.mono (by omega))
      have qw : Below w.heap.size w w2 := hB.trans (q2.mono (Nat.le_of_lt hsz))
      have hE : PutSt w x h l g ba bl bc bs W.heap.size _ := ⟨qw.grown hgR qw.size (fun k e => by cases e; omega), (hgR.block _ (Array.getElem?_eq_some_iff.1 k1a).1 (fun e => by injection e with e; omega)).trans k1a, kR', hsz⟩
      clear S4 kR' hgR z0 z1 z2 z3 z4 z5 z6 z7 z8 z9 fz
      generalize ((((((((((w2.setCell ⟨W.heap.size, 0, none⟩ (.int .u32 (fx0 (rr h)))).setCell ⟨W.heap.size, 1, none⟩ (.int .u32 (fx1 (rr h)))).setCell ⟨W.heap.size, 2, none⟩ (.int .u32 0)).setCell ⟨W.heap.size, 3, none⟩ (.int .u32 (fx3 (rr h)))).setCell ⟨W.heap.size, 4, none⟩ (.int .i64 (mny (rr h)))).setCell ⟨W.heap.size, 5, none⟩ (.int .u32 (lo0 (rr h)))).setCell ⟨W.heap.size, 6, none⟩ (.int .u32 (lo1 (rr h)))).setCell ⟨W.heap.size, 7, none⟩ (.int .u32 0)).setCell ⟨W.heap.size, 8, none⟩ (.int .u32 (hi1 (rr h)))).setCell ⟨W.heap.size, 9, none⟩ (.bool (bod (rr h)))) = w9 at *
      go_wp2_with fail
      go_meet
      case rel => exact ⟨_, rfl, rfl, hE⟩
  case rest =>
    obtain ⟨R, rfl, rfl, hP⟩ := hcut
    clear k1 hsz hB hs2 hA2
    obtain ⟨p0, p1, p2, p3, p4⟩ := five_at hP.rep
    have hmi := may_iff (h := h) (n := bl) hl hg
    obtain ⟨i0, hi, hz0, hz1, hz2⟩ := info_parts infoB
    by_cases hin : h ∈ hows
    · rw [decide_eq_true hin, Bool.true_and] at hmi
      rw [decide_eq_true hin]
      by_cases hmB : mayB (rr h) l g bl = true
      · rw [hmB] at hmi
        have hmay : May h l g bl := of_decide_eq_true hmi.symm
        have hrr : rr h = h := by rw [rr, if_pos hin]
        have hmc := may_any (rr h) x h l g ba bl bc wc
        have hrow := hP.row
        rw [hmB] at hmc
        rw [hrr] at hmc hrow
        clear hmi hmB
        have hks : (h = 0 ∨ h = 1 ∨ h = 3 ∨ h = 4) ∨ h = 2 ∨ h = 100 ∨ h = 101 := by
          simp only [hows, List.mem_cons, List.not_mem_nil, or_false] at hin
          omega
        clear hin hrr
        have hb0 : ∀ W, Below w.heap.size w W → ∀ bb, ba = some bb → ∀ j u, (bs.map (Value.int .u8))[j]? = some u → W.cell? (bb.add j) = some u := fun W hW bb e => seg_news (e ▸ hs.below hW)
        rcases hks with hk | rfl | rfl | rfl
        · have f0 : fx0 h = 0 := by rcases hk with rfl | rfl | rfl | rfl <;> decide
          have f1 : fx1 h = 0 := by rcases hk with rfl | rfl | rfl | rfl <;> decide
          have f3 : fx3 h = h := by rcases hk with rfl | rfl | rfl | rfl <;> decide
          have fm : mny h = 4 := by rcases hk with rfl | rfl | rfl | rfl <;> decide
          have fl0 : lo0 h = 0 := by rcases hk with rfl | rfl | rfl | rfl <;> decide
          have fl1 : lo1 h = 0 := by rcases hk with rfl | rfl | rfl | rfl <;> decide
          have fg1 : hi1 h = 0 := by rcases hk with rfl | rfl | rfl | rfl <;> decide
          unfold rowV at hmc
          rw [f0, f1, f3, fm, fl0, fl1, fg1] at hmc hrow
          clear f0 f1 f3 fm fl0 fl1 fg1
          have hQw : ∀ W', Below wc.heap.size wc W' → Pt w #[.int .u32 x, .int .u32 h, .int .u32 l, .int .u32 g, .slice ba bl bc] #[.int .u32 0, .int .u32 0, .int .u32 0, .int .u32 h, .int .i64 4, .int .u32 0, .int .u32 0, .int .u32 0, .int .u32 0, .bool (bod h)] R (.slice none 0 0) 0 [] W' := fun W' hW => ⟨hP.below.trans (hW.mono hP.below.size), box_next hP.rep hW, box_next hrow hW, hP.lt, rfl, ⟨rfl, .inl ⟨rfl, rfl⟩⟩, ⟨by simp [Value.ownBlock], by simp [Value.ownBlock]⟩⟩
          obtain ⟨r0, r1, r2, r3, r4, r5, r6, r7, r8, r9⟩ := ten_at hrow
          have hx1 := hx.lo
          have hx2 := hx.hi
          have hl1 := hl.lo
          have hl2 := hl.hi
          have hg1 := hg.lo
          have hg2 := hg.hi
          have hh1 := hh.lo
          have hh2 := hh.hi
          have hrl : (rowN h l g).length = 4 := by rcases hk with rfl | rfl | rfl | rfl <;> rfl
          by_cases hbig : 65536 < 24 + bl
          · have hE : rputE h l g bl = 3 := by rw [rputE, if_pos hmay, hrl, if_pos (by omega)]
            have hZ : rputZ x h l g bs = [] := by rw [rputZ, hz, hE]; rfl
            clear hmay hrl
            go_wp2_with (first
              | (go_at_call 27; refine (tell_fix4 hQ1 24 rfl (by omega) (by decide) (by decide) (by decide) ⟨by omega, by omega⟩).mono ?_; rintro e w3 ⟨v2, rfl, hQ2⟩; obtain ⟨va2, vc2, rfl, _⟩ := own_val hQ2.own hQ2.len; clear p0 p1 p2 p3 p4 r0 r1 r2 r3 r4 r5 r6 r7 r8 r9; obtain ⟨r0, r1, r2, r3, r4, r5, r6, r7, r8, r9⟩ := ten_at hQ2.row; obtain ⟨p0, p1, p2, p3, p4⟩ := five_at hQ2.rep)
              | (go_at_call 27; refine (tell_two hQ0 x 1 _ 8 rfl (by omega) ⟨by omega, by omega⟩ (by decide)).mono ?_; rintro e w2 ⟨v1, rfl, hQ1⟩; obtain ⟨va1, vc1, rfl, _⟩ := own_val hQ1.own hQ1.len; clear p0 p1 p2 p3 p4 r0 r1 r2 r3 r4 r5 r6 r7 r8 r9; obtain ⟨r0, r1, r2, r3, r4, r5, r6, r7, r8, r9⟩ := ten_at hQ1.row; obtain ⟨p0, p1, p2, p3, p4⟩ := five_at hQ1.rep)
              | (go_at_call 26; refine hmc.mono ?_; rintro e w1 ⟨rfl, hb1⟩; have hQ0 := hQw _ hb1; clear p0 p1 p2 p3 p4 r0 r1 r2 r3 r4 r5 r6 r7 r8 r9; obtain ⟨r0, r1, r2, r3, r4, r5, r6, r7, r8, r9⟩ := ten_at hQ0.row; obtain ⟨p0, p1, p2, p3, p4⟩ := five_at hQ0.rep))
            go_ret2
            try rw [hE, hZ]
            exact ⟨_, rfl, ⟨rfl, .inl ⟨rfl, rfl⟩⟩, hQ2.below⟩
          · have hE : rputE h l g bl = 0 := by rw [rputE, if_pos hmay, hrl, if_neg (by omega)]
            have hZ : rputZ x h l g bs = replyB x h l g bs := by rw [rputZ, hz, hE]; rfl
            clear hmay hrl
            go_wp2_with (first
              | (at_builtin; refine wpList_append_each _ rfl _ _ 24 rfl w.heap.size 5 i0 (.int .u8 0) 1 1 Tryd.underlying24 hi hz0 hz1 hz2 rfl (by decide) (.slice va2 24 vc2) 24 _ rfl hQ2.own ba bl bc (bs.map (Value.int .u8)) rfl hn (by simp [hz]) (hb0 _ hQ2.below) (news_one bs) (by unfold maxLen; omega) (by omega) hQ2.below.size ?_; intro v9 w9 hown9 hg9)
              | (go_at_call 27; refine (tell_fix4 hQ1 24 rfl (by omega) (by decide) (by decide) (by decide) ⟨by omega, by omega⟩).mono ?_; rintro e w3 ⟨v2, rfl, hQ2⟩; obtain ⟨va2, vc2, rfl, _⟩ := own_val hQ2.own hQ2.len; clear p0 p1 p2 p3 p4 r0 r1 r2 r3 r4 r5 r6 r7 r8 r9; obtain ⟨r0, r1, r2, r3, r4, r5, r6, r7, r8, r9⟩ := ten_at hQ2.row; obtain ⟨p0, p1, p2, p3, p4⟩ := five_at hQ2.rep)
              | (go_at_call 27; refine (tell_two hQ0 x 1 _ 8 rfl (by omega) ⟨by omega, by omega⟩ (by decide)).mono ?_; rintro e w2 ⟨v1, rfl, hQ1⟩; obtain ⟨va1, vc1, rfl, _⟩ := own_val hQ1.own hQ1.len; clear p0 p1 p2 p3 p4 r0 r1 r2 r3 r4 r5 r6 r7 r8 r9; obtain ⟨r0, r1, r2, r3, r4, r5, r6, r7, r8, r9⟩ := ten_at hQ1.row; obtain ⟨p0, p1, p2, p3, p4⟩ := five_at hQ1.rep)
              | (go_at_call 26; refine hmc.mono ?_; rintro e w1 ⟨rfl, hb1⟩; have hQ0 := hQw _ hb1; clear p0 p1 p2 p3 p4 r0 r1 r2 r3 r4 r5 r6 r7 r8 r9; obtain ⟨r0, r1, r2, r3, r4, r5, r6, r7, r8, r9⟩ := ten_at hQ0.row; obtain ⟨p0, p1, p2, p3, p4⟩ := five_at hQ0.rep))
            go_ret2
            try rw [hE, hZ]
            refine ⟨_, rfl, ?_, hQ2.below.grown hg9 hQ2.below.size (fun j e => own_low hQ2.own e)⟩
            have hlen := hQ2.len
            have hbytes : replyB x h l g bs = (([] ++ numsB [x, 1]) ++ numsB [0, 0, 0, h]) ++ bs := by
              rcases hk with rfl | rfl | rfl | rfl <;> simp [replyB, rowN, numsB]
            rw [hbytes, List.length_append, hlen, hz, List.map_append]
            exact hown9
        · have f0 : fx0 2 = 0 := by decide
          have f1 : fx1 2 = 0 := by decide
          have f3 : fx3 2 = 2 := by decide
          have fm : mny 2 = 4 := by decide
          have fl0 : lo0 2 = 0 := by decide
          have fl1 : lo1 2 = 4294967295 := by decide
          have fg1 : hi1 2 = 4294967295 := by decide
          have fb : bod 2 = false := by decide
          unfold rowV at hmc
          rw [f0, f1, f3, fm, fl0, fl1, fg1, fb] at hmc hrow
          clear f0 f1 f3 fm fl0 fl1 fg1 fb
          have hQw : ∀ W', Below wc.heap.size wc W' → Pt w #[.int .u32 x, .int .u32 2, .int .u32 l, .int .u32 g, .slice ba bl bc] #[.int .u32 0, .int .u32 0, .int .u32 0, .int .u32 2, .int .i64 4, .int .u32 0, .int .u32 4294967295, .int .u32 0, .int .u32 4294967295, .bool false] R (.slice none 0 0) 0 [] W' := fun W' hW => ⟨hP.below.trans (hW.mono hP.below.size), box_next hP.rep hW, box_next hrow hW, hP.lt, rfl, ⟨rfl, .inl ⟨rfl, rfl⟩⟩, ⟨by simp [Value.ownBlock], by simp [Value.ownBlock]⟩⟩
          obtain ⟨r0, r1, r2, r3, r4, r5, r6, r7, r8, r9⟩ := ten_at hrow
          have hx1 := hx.lo
          have hx2 := hx.hi
          have hl1 := hl.lo
          have hl2 := hl.hi
          have hg1 := hg.lo
          have hg2 := hg.hi
          have hh1 := hh.lo
          have hh2 := hh.hi
          have hrl : (rowN 2 l g).length = 6 := by rfl
          by_cases hbig : 65536 < 32 + bl
          · have hE : rputE 2 l g bl = 3 := by rw [rputE, if_pos hmay, hrl, if_pos (by omega)]
            have hZ : rputZ x 2 l g bs = [] := by rw [rputZ, hz, hE]; rfl
            clear hmay hrl
            go_wp2_with (first
              | (go_at_call 27; refine (tell_one hQ3 g _ 32 rfl (by omega) ⟨by omega, by omega⟩).mono ?_; rintro e w5 ⟨v4, rfl, hQ4⟩; obtain ⟨va4, vc4, rfl, _⟩ := own_val hQ4.own hQ4.len; clear p0 p1 p2 p3 p4 r0 r1 r2 r3 r4 r5 r6 r7 r8 r9; obtain ⟨r0, r1, r2, r3, r4, r5, r6, r7, r8, r9⟩ := ten_at hQ4.row; obtain ⟨p0, p1, p2, p3, p4⟩ := five_at hQ4.rep)
              | (go_at_call 27; refine (tell_one hQ2 l _ 28 rfl (by omega) ⟨by omega, by omega⟩).mono ?_; rintro e w4 ⟨v3, rfl, hQ3⟩; obtain ⟨va3, vc3, rfl, _⟩ := own_val hQ3.own hQ3.len; clear p0 p1 p2 p3 p4 r0 r1 r2 r3 r4 r5 r6 r7 r8 r9; obtain ⟨r0, r1, r2, r3, r4, r5, r6, r7, r8, r9⟩ := ten_at hQ3.row; obtain ⟨p0, p1, p2, p3, p4⟩ := five_at hQ3.rep)
              | (go_at_call 27; refine (tell_fix4 hQ1 24 rfl (by omega) (by decide) (by decide) (by decide) (by decide)).mono ?_; rintro e w3 ⟨v2, rfl, hQ2⟩; obtain ⟨va2, vc2, rfl, _⟩ := own_val hQ2.own hQ2.len; clear p0 p1 p2 p3 p4 r0 r1 r2 r3 r4 r5 r6 r7 r8 r9; obtain ⟨r0, r1, r2, r3, r4, r5, r6, r7, r8, r9⟩ := ten_at hQ2.row; obtain ⟨p0, p1, p2, p3, p4⟩ := five_at hQ2.rep)
              | (go_at_call 27; refine (tell_two hQ0 x 1 _ 8 rfl (by omega) ⟨by omega, by omega⟩ (by decide)).mono ?_; rintro e w2 ⟨v1, rfl, hQ1⟩; obtain ⟨va1, vc1, rfl, _⟩ := own_val hQ1.own hQ1.len; clear p0 p1 p2 p3 p4 r0 r1 r2 r3 r4 r5 r6 r7 r8 r9; obtain ⟨r0, r1, r2, r3, r4, r5, r6, r7, r8, r9⟩ := ten_at hQ1.row; obtain ⟨p0, p1, p2, p3, p4⟩ := five_at hQ1.rep)
              | (go_at_call 26; refine hmc.mono ?_; rintro e w1 ⟨rfl, hb1⟩; have hQ0 := hQw _ hb1; clear p0 p1 p2 p3 p4 r0 r1 r2 r3 r4 r5 r6 r7 r8 r9; obtain ⟨r0, r1, r2, r3, r4, r5, r6, r7, r8, r9⟩ := ten_at hQ0.row; obtain ⟨p0, p1, p2, p3, p4⟩ := five_at hQ0.rep))
            go_ret2
            try rw [hE, hZ]
            exact ⟨_, rfl, ⟨rfl, .inl ⟨rfl, rfl⟩⟩, hQ4.below⟩
          · have hE : rputE 2 l g bl = 0 := by rw [rputE, if_pos hmay, hrl, if_neg (by omega)]
            have hZ : rputZ x 2 l g bs = replyB x 2 l g bs := by rw [rputZ, hz, hE]; rfl
            clear hmay hrl
            go_wp2_with (first
              | (at_builtin; refine wpList_append_each _ rfl _ _ 24 rfl w.heap.size 5 i0 (.int .u8 0) 1 1 Tryd.underlying24 hi hz0 hz1 hz2 rfl (by decide) (.slice va4 32 vc4) 32 _ rfl hQ4.own ba bl bc (bs.map (Value.int .u8)) rfl hn (by simp [hz]) (hb0 _ hQ4.below) (news_one bs) (by unfold maxLen; omega) (by omega) hQ4.below.size ?_; intro v9 w9 hown9 hg9)
              | (go_at_call 27; refine (tell_one hQ3 g _ 32 rfl (by omega) ⟨by omega, by omega⟩).mono ?_; rintro e w5 ⟨v4, rfl, hQ4⟩; obtain ⟨va4, vc4, rfl, _⟩ := own_val hQ4.own hQ4.len; clear p0 p1 p2 p3 p4 r0 r1 r2 r3 r4 r5 r6 r7 r8 r9; obtain ⟨r0, r1, r2, r3, r4, r5, r6, r7, r8, r9⟩ := ten_at hQ4.row; obtain ⟨p0, p1, p2, p3, p4⟩ := five_at hQ4.rep)
              | (go_at_call 27; refine (tell_one hQ2 l _ 28 rfl (by omega) ⟨by omega, by omega⟩).mono ?_; rintro e w4 ⟨v3, rfl, hQ3⟩; obtain ⟨va3, vc3, rfl, _⟩ := own_val hQ3.own hQ3.len; clear p0 p1 p2 p3 p4 r0 r1 r2 r3 r4 r5 r6 r7 r8 r9; obtain ⟨r0, r1, r2, r3, r4, r5, r6, r7, r8, r9⟩ := ten_at hQ3.row; obtain ⟨p0, p1, p2, p3, p4⟩ := five_at hQ3.rep)
              | (go_at_call 27; refine (tell_fix4 hQ1 24 rfl (by omega) (by decide) (by decide) (by decide) (by decide)).mono ?_; rintro e w3 ⟨v2, rfl, hQ2⟩; obtain ⟨va2, vc2, rfl, _⟩ := own_val hQ2.own hQ2.len; clear p0 p1 p2 p3 p4 r0 r1 r2 r3 r4 r5 r6 r7 r8 r9; obtain ⟨r0, r1, r2, r3, r4, r5, r6, r7, r8, r9⟩ := ten_at hQ2.row; obtain ⟨p0, p1, p2, p3, p4⟩ := five_at hQ2.rep)
              | (go_at_call 27; refine (tell_two hQ0 x 1 _ 8 rfl (by omega) ⟨by omega, by omega⟩ (by decide)).mono ?_; rintro e w2 ⟨v1, rfl, hQ1⟩; obtain ⟨va1, vc1, rfl, _⟩ := own_val hQ1.own hQ1.len; clear p0 p1 p2 p3 p4 r0 r1 r2 r3 r4 r5 r6 r7 r8 r9; obtain ⟨r0, r1, r2, r3, r4, r5, r6, r7, r8, r9⟩ := ten_at hQ1.row; obtain ⟨p0, p1, p2, p3, p4⟩ := five_at hQ1.rep)
              | (go_at_call 26; refine hmc.mono ?_; rintro e w1 ⟨rfl, hb1⟩; have hQ0 := hQw _ hb1; clear p0 p1 p2 p3 p4 r0 r1 r2 r3 r4 r5 r6 r7 r8 r9; obtain ⟨r0, r1, r2, r3, r4, r5, r6, r7, r8, r9⟩ := ten_at hQ0.row; obtain ⟨p0, p1, p2, p3, p4⟩ := five_at hQ0.rep))
            go_ret2
            try rw [hE, hZ]
            refine ⟨_, rfl, ?_, hQ4.below.grown hg9 hQ4.below.size (fun j e => own_low hQ4.own e)⟩
            have hlen := hQ4.len
            have hbytes : replyB x 2 l g bs = (((([] ++ numsB [x, 1]) ++ numsB [0, 0, 0, 2]) ++ numsB [l]) ++ numsB [g]) ++ bs := by
              simp [replyB, rowN, numsB]
            rw [hbytes, List.length_append, hlen, hz, List.map_append]
            exact hown9
        · have f0 : fx0 100 = 1 := by decide
          have f1 : fx1 100 = 0 := by decide
          have f3 : fx3 100 = 0 := by decide
          have fm : mny 100 = 2 := by decide
          have fl0 : lo0 100 = 0 := by decide
          have fl1 : lo1 100 = 4294967295 := by decide
          have fg1 : hi1 100 = 4294967295 := by decide
          have fb : bod 100 = false := by decide
          unfold rowV at hmc
          rw [f0, f1, f3, fm, fl0, fl1, fg1, fb] at hmc hrow
          clear f0 f1 f3 fm fl0 fl1 fg1 fb
          have hQw : ∀ W', Below wc.heap.size wc W' → Pt w #[.int .u32 x, .int .u32 100, .int .u32 l, .int .u32 g, .slice ba bl bc] #[.int .u32 1, .int .u32 0, .int .u32 0, .int .u32 0, .int .i64 2, .int .u32 0, .int .u32 4294967295, .int .u32 0, .int .u32 4294967295, .bool false] R (.slice none 0 0) 0 [] W' := fun W' hW => ⟨hP.below.trans (hW.mono hP.below.size), box_next hP.rep hW, box_next hrow hW, hP.lt, rfl, ⟨rfl, .inl ⟨rfl, rfl⟩⟩, ⟨by simp [Value.ownBlock], by simp [Value.ownBlock]⟩⟩
          obtain ⟨r0, r1, r2, r3, r4, r5, r6, r7, r8, r9⟩ := ten_at hrow
          have hx1 := hx.lo
          have hx2 := hx.hi
          have hl1 := hl.lo
          have hl2 := hl.hi
          have hg1 := hg.lo
          have hg2 := hg.hi
          have hh1 := hh.lo
          have hh2 := hh.hi
          have hrl : (rowN 100 l g).length = 4 := by rfl
          by_cases hbig : 65536 < 24 + bl
          · have hE : rputE 100 l g bl = 3 := by rw [rputE, if_pos hmay, hrl, if_pos (by omega)]
            have hZ : rputZ x 100 l g bs = [] := by rw [rputZ, hz, hE]; rfl
            clear hmay hrl
            go_wp2_with (first
              | (go_at_call 27; refine (tell_one hQ3 g _ 24 rfl (by omega) ⟨by omega, by omega⟩).mono ?_; rintro e w5 ⟨v4, rfl, hQ4⟩; obtain ⟨va4, vc4, rfl, _⟩ := own_val hQ4.own hQ4.len; clear p0 p1 p2 p3 p4 r0 r1 r2 r3 r4 r5 r6 r7 r8 r9; obtain ⟨r0, r1, r2, r3, r4, r5, r6, r7, r8, r9⟩ := ten_at hQ4.row; obtain ⟨p0, p1, p2, p3, p4⟩ := five_at hQ4.rep)
              | (go_at_call 27; refine (tell_one hQ2 l _ 20 rfl (by omega) ⟨by omega, by omega⟩).mono ?_; rintro e w4 ⟨v3, rfl, hQ3⟩; obtain ⟨va3, vc3, rfl, _⟩ := own_val hQ3.own hQ3.len; clear p0 p1 p2 p3 p4 r0 r1 r2 r3 r4 r5 r6 r7 r8 r9; obtain ⟨r0, r1, r2, r3, r4, r5, r6, r7, r8, r9⟩ := ten_at hQ3.row; obtain ⟨p0, p1, p2, p3, p4⟩ := five_at hQ3.rep)
              | (go_at_call 27; refine (tell_fix2 hQ1 16 rfl (by omega) (by decide) (by decide)).mono ?_; rintro e w3 ⟨v2, rfl, hQ2⟩; obtain ⟨va2, vc2, rfl, _⟩ := own_val hQ2.own hQ2.len; clear p0 p1 p2 p3 p4 r0 r1 r2 r3 r4 r5 r6 r7 r8 r9; obtain ⟨r0, r1, r2, r3, r4, r5, r6, r7, r8, r9⟩ := ten_at hQ2.row; obtain ⟨p0, p1, p2, p3, p4⟩ := five_at hQ2.rep)
              | (go_at_call 27; refine (tell_two hQ0 x 1 _ 8 rfl (by omega) ⟨by omega, by omega⟩ (by decide)).mono ?_; rintro e w2 ⟨v1, rfl, hQ1⟩; obtain ⟨va1, vc1, rfl, _⟩ := own_val hQ1.own hQ1.len; clear p0 p1 p2 p3 p4 r0 r1 r2 r3 r4 r5 r6 r7 r8 r9; obtain ⟨r0, r1, r2, r3, r4, r5, r6, r7, r8, r9⟩ := ten_at hQ1.row; obtain ⟨p0, p1, p2, p3, p4⟩ := five_at hQ1.rep)
              | (go_at_call 26; refine hmc.mono ?_; rintro e w1 ⟨rfl, hb1⟩; have hQ0 := hQw _ hb1; clear p0 p1 p2 p3 p4 r0 r1 r2 r3 r4 r5 r6 r7 r8 r9; obtain ⟨r0, r1, r2, r3, r4, r5, r6, r7, r8, r9⟩ := ten_at hQ0.row; obtain ⟨p0, p1, p2, p3, p4⟩ := five_at hQ0.rep))
            go_ret2
            try rw [hE, hZ]
            exact ⟨_, rfl, ⟨rfl, .inl ⟨rfl, rfl⟩⟩, hQ4.below⟩
          · have hE : rputE 100 l g bl = 0 := by rw [rputE, if_pos hmay, hrl, if_neg (by omega)]
            have hZ : rputZ x 100 l g bs = replyB x 100 l g bs := by rw [rputZ, hz, hE]; rfl
            clear hmay hrl
            go_wp2_with (first
              | (at_builtin; refine wpList_append_each _ rfl _ _ 24 rfl w.heap.size 5 i0 (.int .u8 0) 1 1 Tryd.underlying24 hi hz0 hz1 hz2 rfl (by decide) (.slice va4 24 vc4) 24 _ rfl hQ4.own ba bl bc (bs.map (Value.int .u8)) rfl hn (by simp [hz]) (hb0 _ hQ4.below) (news_one bs) (by unfold maxLen; omega) (by omega) hQ4.below.size ?_; intro v9 w9 hown9 hg9)
              | (go_at_call 27; refine (tell_one hQ3 g _ 24 rfl (by omega) ⟨by omega, by omega⟩).mono ?_; rintro e w5 ⟨v4, rfl, hQ4⟩; obtain ⟨va4, vc4, rfl, _⟩ := own_val hQ4.own hQ4.len; clear p0 p1 p2 p3 p4 r0 r1 r2 r3 r4 r5 r6 r7 r8 r9; obtain ⟨r0, r1, r2, r3, r4, r5, r6, r7, r8, r9⟩ := ten_at hQ4.row; obtain ⟨p0, p1, p2, p3, p4⟩ := five_at hQ4.rep)
              | (go_at_call 27; refine (tell_one hQ2 l _ 20 rfl (by omega) ⟨by omega, by omega⟩).mono ?_; rintro e w4 ⟨v3, rfl, hQ3⟩; obtain ⟨va3, vc3, rfl, _⟩ := own_val hQ3.own hQ3.len; clear p0 p1 p2 p3 p4 r0 r1 r2 r3 r4 r5 r6 r7 r8 r9; obtain ⟨r0, r1, r2, r3, r4, r5, r6, r7, r8, r9⟩ := ten_at hQ3.row; obtain ⟨p0, p1, p2, p3, p4⟩ := five_at hQ3.rep)
              | (go_at_call 27; refine (tell_fix2 hQ1 16 rfl (by omega) (by decide) (by decide)).mono ?_; rintro e w3 ⟨v2, rfl, hQ2⟩; obtain ⟨va2, vc2, rfl, _⟩ := own_val hQ2.own hQ2.len; clear p0 p1 p2 p3 p4 r0 r1 r2 r3 r4 r5 r6 r7 r8 r9; obtain ⟨r0, r1, r2, r3, r4, r5, r6, r7, r8, r9⟩ := ten_at hQ2.row; obtain ⟨p0, p1, p2, p3, p4⟩ := five_at hQ2.rep)
              | (go_at_call 27; refine (tell_two hQ0 x 1 _ 8 rfl (by omega) ⟨by omega, by omega⟩ (by decide)).mono ?_; rintro e w2 ⟨v1, rfl, hQ1⟩; obtain ⟨va1, vc1, rfl, _⟩ := own_val hQ1.own hQ1.len; clear p0 p1 p2 p3 p4 r0 r1 r2 r3 r4 r5 r6 r7 r8 r9; obtain ⟨r0, r1, r2, r3, r4, r5, r6, r7, r8, r9⟩ := ten_at hQ1.row; obtain ⟨p0, p1, p2, p3, p4⟩ := five_at hQ1.rep)
              | (go_at_call 26; refine hmc.mono ?_; rintro e w1 ⟨rfl, hb1⟩; have hQ0 := hQw _ hb1; clear p0 p1 p2 p3 p4 r0 r1 r2 r3 r4 r5 r6 r7 r8 r9; obtain ⟨r0, r1, r2, r3, r4, r5, r6, r7, r8, r9⟩ := ten_at hQ0.row; obtain ⟨p0, p1, p2, p3, p4⟩ := five_at hQ0.rep))
            go_ret2
            try rw [hE, hZ]
            refine ⟨_, rfl, ?_, hQ4.below.grown hg9 hQ4.below.size (fun j e => own_low hQ4.own e)⟩
            have hlen := hQ4.len
            have hbytes : replyB x 100 l g bs = (((([] ++ numsB [x, 1]) ++ numsB [1, 0]) ++ numsB [l]) ++ numsB [g]) ++ bs := by
              simp [replyB, rowN, numsB]
            rw [hbytes, List.length_append, hlen, hz, List.map_append]
            exact hown9
        · have f0 : fx0 101 = 1 := by decide
          have f1 : fx1 101 = 1 := by decide
          have f3 : fx3 101 = 0 := by decide
          have fm : mny 101 = 2 := by decide
          have fl0 : lo0 101 = 1 := by decide
          have fl1 : lo1 101 = 7 := by decide
          have fg1 : hi1 101 = 0 := by decide
          have fb : bod 101 = false := by decide
          unfold rowV at hmc
          rw [f0, f1, f3, fm, fl0, fl1, fg1, fb] at hmc hrow
          clear f0 f1 f3 fm fl0 fl1 fg1 fb
          have hQw : ∀ W', Below wc.heap.size wc W' → Pt w #[.int .u32 x, .int .u32 101, .int .u32 l, .int .u32 g, .slice ba bl bc] #[.int .u32 1, .int .u32 1, .int .u32 0, .int .u32 0, .int .i64 2, .int .u32 1, .int .u32 7, .int .u32 0, .int .u32 0, .bool false] R (.slice none 0 0) 0 [] W' := fun W' hW => ⟨hP.below.trans (hW.mono hP.below.size), box_next hP.rep hW, box_next hrow hW, hP.lt, rfl, ⟨rfl, .inl ⟨rfl, rfl⟩⟩, ⟨by simp [Value.ownBlock], by simp [Value.ownBlock]⟩⟩
          obtain ⟨r0, r1, r2, r3, r4, r5, r6, r7, r8, r9⟩ := ten_at hrow
          have hx1 := hx.lo
          have hx2 := hx.hi
          have hl1 := hl.lo
          have hl2 := hl.hi
          have hg1 := hg.lo
          have hg2 := hg.hi
          have hh1 := hh.lo
          have hh2 := hh.hi
          have hrl : (rowN 101 l g).length = 3 := by rfl
          by_cases hbig : 65536 < 20 + bl
          · have hE : rputE 101 l g bl = 3 := by rw [rputE, if_pos hmay, hrl, if_pos (by omega)]
            have hZ : rputZ x 101 l g bs = [] := by rw [rputZ, hz, hE]; rfl
            clear hmay hrl
            go_wp2_with (first
              | (go_at_call 27; refine (tell_one hQ2 l _ 20 rfl (by omega) ⟨by omega, by omega⟩).mono ?_; rintro e w4 ⟨v3, rfl, hQ3⟩; obtain ⟨va3, vc3, rfl, _⟩ := own_val hQ3.own hQ3.len; clear p0 p1 p2 p3 p4 r0 r1 r2 r3 r4 r5 r6 r7 r8 r9; obtain ⟨r0, r1, r2, r3, r4, r5, r6, r7, r8, r9⟩ := ten_at hQ3.row; obtain ⟨p0, p1, p2, p3, p4⟩ := five_at hQ3.rep)
              | (go_at_call 27; refine (tell_fix2 hQ1 16 rfl (by omega) (by decide) (by decide)).mono ?_; rintro e w3 ⟨v2, rfl, hQ2⟩; obtain ⟨va2, vc2, rfl, _⟩ := own_val hQ2.own hQ2.len; clear p0 p1 p2 p3 p4 r0 r1 r2 r3 r4 r5 r6 r7 r8 r9; obtain ⟨r0, r1, r2, r3, r4, r5, r6, r7, r8, r9⟩ := ten_at hQ2.row; obtain ⟨p0, p1, p2, p3, p4⟩ := five_at hQ2.rep)
              | (go_at_call 27; refine (tell_two hQ0 x 1 _ 8 rfl (by omega) ⟨by omega, by omega⟩ (by decide)).mono ?_; rintro e w2 ⟨v1, rfl, hQ1⟩; obtain ⟨va1, vc1, rfl, _⟩ := own_val hQ1.own hQ1.len; clear p0 p1 p2 p3 p4 r0 r1 r2 r3 r4 r5 r6 r7 r8 r9; obtain ⟨r0, r1, r2, r3, r4, r5, r6, r7, r8, r9⟩ := ten_at hQ1.row; obtain ⟨p0, p1, p2, p3, p4⟩ := five_at hQ1.rep)
              | (go_at_call 26; refine hmc.mono ?_; rintro e w1 ⟨rfl, hb1⟩; have hQ0 := hQw _ hb1; clear p0 p1 p2 p3 p4 r0 r1 r2 r3 r4 r5 r6 r7 r8 r9; obtain ⟨r0, r1, r2, r3, r4, r5, r6, r7, r8, r9⟩ := ten_at hQ0.row; obtain ⟨p0, p1, p2, p3, p4⟩ := five_at hQ0.rep))
            go_ret2
            try rw [hE, hZ]
            exact ⟨_, rfl, ⟨rfl, .inl ⟨rfl, rfl⟩⟩, hQ3.below⟩
          · have hE : rputE 101 l g bl = 0 := by rw [rputE, if_pos hmay, hrl, if_neg (by omega)]
            have hZ : rputZ x 101 l g bs = replyB x 101 l g bs := by rw [rputZ, hz, hE]; rfl
            clear hmay hrl
            go_wp2_with (first
              | (at_builtin; refine wpList_append_each _ rfl _ _ 24 rfl w.heap.size 5 i0 (.int .u8 0) 1 1 Tryd.underlying24 hi hz0 hz1 hz2 rfl (by decide) (.slice va3 20 vc3) 20 _ rfl hQ3.own ba bl bc (bs.map (Value.int .u8)) rfl hn (by simp [hz]) (hb0 _ hQ3.below) (news_one bs) (by unfold maxLen; omega) (by omega) hQ3.below.size ?_; intro v9 w9 hown9 hg9)
              | (go_at_call 27; refine (tell_one hQ2 l _ 20 rfl (by omega) ⟨by omega, by omega⟩).mono ?_; rintro e w4 ⟨v3, rfl, hQ3⟩; obtain ⟨va3, vc3, rfl, _⟩ := own_val hQ3.own hQ3.len; clear p0 p1 p2 p3 p4 r0 r1 r2 r3 r4 r5 r6 r7 r8 r9; obtain ⟨r0, r1, r2, r3, r4, r5, r6, r7, r8, r9⟩ := ten_at hQ3.row; obtain ⟨p0, p1, p2, p3, p4⟩ := five_at hQ3.rep)
              | (go_at_call 27; refine (tell_fix2 hQ1 16 rfl (by omega) (by decide) (by decide)).mono ?_; rintro e w3 ⟨v2, rfl, hQ2⟩; obtain ⟨va2, vc2, rfl, _⟩ := own_val hQ2.own hQ2.len; clear p0 p1 p2 p3 p4 r0 r1 r2 r3 r4 r5 r6 r7 r8 r9; obtain ⟨r0, r1, r2, r3, r4, r5, r6, r7, r8, r9⟩ := ten_at hQ2.row; obtain ⟨p0, p1, p2, p3, p4⟩ := five_at hQ2.rep)
              | (go_at_call 27; refine (tell_two hQ0 x 1 _ 8 rfl (by omega) ⟨by omega, by omega⟩ (by decide)).mono ?_; rintro e w2 ⟨v1, rfl, hQ1⟩; obtain ⟨va1, vc1, rfl, _⟩ := own_val hQ1.own hQ1.len; clear p0 p1 p2 p3 p4 r0 r1 r2 r3 r4 r5 r6 r7 r8 r9; obtain ⟨r0, r1, r2, r3, r4, r5, r6, r7, r8, r9⟩ := ten_at hQ1.row; obtain ⟨p0, p1, p2, p3, p4⟩ := five_at hQ1.rep)
              | (go_at_call 26; refine hmc.mono ?_; rintro e w1 ⟨rfl, hb1⟩; have hQ0 := hQw _ hb1; clear p0 p1 p2 p3 p4 r0 r1 r2 r3 r4 r5 r6 r7 r8 r9; obtain ⟨r0, r1, r2, r3, r4, r5, r6, r7, r8, r9⟩ := ten_at hQ0.row; obtain ⟨p0, p1, p2, p3, p4⟩ := five_at hQ0.rep))
            go_ret2
            try rw [hE, hZ]
            refine ⟨_, rfl, ?_, hQ3.below.grown hg9 hQ3.below.size (fun j e => own_low hQ3.own e)⟩
            have hlen := hQ3.len
            have hbytes : replyB x 101 l g bs = ((([] ++ numsB [x, 1]) ++ numsB [1, 1]) ++ numsB [l]) ++ bs := by
              simp [replyB, rowN, numsB]
            rw [hbytes, List.length_append, hlen, hz, List.map_append]
            exact hown9
      · replace hmB : mayB (rr h) l g bl = false := by simpa using hmB
        rw [hmB] at hmi
        have hmay : ¬ May h l g bl := of_decide_eq_false hmi.symm
        have hmc := may_any (rr h) x h l g ba bl bc wc
        rw [hmB] at hmc
        have hE : rputE h l g bl = 1 := by rw [rputE, if_neg hmay]
        have hZ : rputZ x h l g bs = [] := by rw [rputZ, hz, hE]; rfl
        clear hmay hmi hmB
        obtain ⟨r0, r1, r2, r3, r4, r5, r6, r7, r8, r9⟩ := ten_at hP.row
        go_wp2_with (go_at_call 26; refine hmc.mono ?_; rintro e w1 ⟨rfl, hb1⟩)
        go_ret2
        try rw [hE, hZ]
        exact ⟨_, rfl, ⟨rfl, .inl ⟨rfl, rfl⟩⟩, hP.below.trans (hb1.mono hP.below.size)⟩
    · rw [decide_eq_false hin, Bool.false_and] at hmi
      rw [decide_eq_false hin]
      have hmay : ¬ May h l g bl := of_decide_eq_false hmi.symm
      have hE : rputE h l g bl = 1 := by rw [rputE, if_neg hmay]
      have hZ : rputZ x h l g bs = [] := by rw [rputZ, hz, hE]; rfl
      clear hmay hmi
      go_wp2
      go_ret2
      try rw [hE, hZ]
      exact ⟨_, rfl, ⟨rfl, .inl ⟨rfl, rfl⟩⟩, hP.below⟩
end Go.Proofs.YtmjhgpmeikpbkaaDoor
