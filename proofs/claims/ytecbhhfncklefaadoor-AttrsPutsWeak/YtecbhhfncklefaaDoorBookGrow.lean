/- 'growByte' of a Book: forty marks are put behind each held list of bytes; no list's bytes turn. -/
import Derived.Test.YtecbhhfncklefaaDoorBookFill
import Derived.ArgAppend
namespace Go.Proofs.YtecbhhfncklefaaDoor
set_option linter.unusedVariables false
open Go.RowKit

theorem infoU8 : (Tryd.prog.info? 5).map (fun i => (i.zero, i.size, i.bytes)) = some (some (.int .u8 0), 1, 1) := by kernel_rfl

/-- So many marks. -/
def reps (n : Nat) (m : Int) : List Int := List.replicate n m

theorem reps_len (n : Nat) (m : Int) : (reps n m).length = n := by simp [reps]
theorem reps_snoc (n : Nat) (m : Int) : (reps n m).map (Value.int .u8) ++ [.int .u8 m] = (reps (n + 1) m).map (Value.int .u8) := by simp [reps, List.replicate_succ']
theorem reps_take (n k : Nat) (m : Int) (h : k ≤ n) : (reps n m).take k = reps k m := by simp [reps, List.take_replicate, Nat.min_eq_left h]

theorem seg_grown {w w' : World} {a : Option Addr} {zs : List Int} {row : Option Nat} (h : Seg w a zs) (hg : w.grownBy w' row) (hr : ∀ b off, a = some ⟨b, off, none⟩ → some b ≠ row) : Seg w' a zs := by
  by_cases hz : zs = []
  · exact .inl hz
  · rcases h with h | ⟨b, off, e, hc⟩
    · exact absurd h hz
    · have hl := Seg.lt (.inr ⟨b, off, e, hc⟩) e hz
      exact .inr ⟨b, off, e, fun i hi => (World.cell?_of_block (w := w) (a := ⟨b, off + i, none⟩) (hg.block b hl (hr b off e))).trans (hc i hi)⟩

theorem seg_kept {D : Nat → Prop} {w w' : World} {a : Option Addr} {zs : List Int} (h : Seg w a zs) (hk : Kept D w w') (hr : ∀ b off, a = some ⟨b, off, none⟩ → ¬ D b) : Seg w' a zs := by
  by_cases hz : zs = []
  · exact .inl hz
  · rcases h with h | ⟨b, off, e, hc⟩
    · exact absurd h hz
    · have hl := Seg.lt (.inr ⟨b, off, e, hc⟩) e hz
      exact .inr ⟨b, off, e, fun i hi => (World.cell?_of_block (w := w) (a := ⟨b, off + i, none⟩) (hk.block b hl (hr b off e))).trans (hc i hi)⟩

/-- One more mark behind 'long': what holds then. -/
structure Gr (base : Nat) (W2 : World) (ea : Option Addr) (el ec : Nat) (m : Int) (t : Nat) (u : Value) (wi : World) : Prop where
  own : wi.ownsRow base 5 1 u (el + t) ((reps (el + t) m).map (Value.int .u8))
  seg : Seg wi ea (reps el m)
  kept : Kept (fun b => (Value.slice ea el ec).ownBlock = some b) W2 wi
  form : ∀ b off, ea = some ⟨b, off, none⟩ → off = 0
  new : ∀ b, u.ownBlock = some b → (Value.slice ea el ec).ownBlock = some b ∨ W2.heap.size ≤ b

theorem gr_fits {base : Nat} {W2 wi w2 : World} {ea : Option Addr} {el ec : Nat} {m : Int} {t g uc : Nat} {o : Obj} (h : Gr base W2 ea el ec m t (.slice (some ⟨g, 0, none⟩) (el + t) uc) wi)
    (hown : w2.ownsRow base 5 1 (.slice (some ⟨g, 0, none⟩) (el + t + 1) uc) (el + t + 1) ((reps (el + t) m).map (Value.int .u8) ++ [.int .u8 m])) (hg : (wi.alloc o).grownBy w2 (some g)) :
    Gr base W2 ea el ec m (t + 1) (.slice (some ⟨g, 0, none⟩) (el + t + 1) uc) w2 := by
  rw [reps_snoc] at hown
  refine ⟨hown, ?_, (h.kept.alloc o).grown hg (fun k e => by cases e; exact h.new g rfl), h.form, fun b hb => h.new b (by simpa [Value.ownBlock] using hb)⟩
  have hs := seg_own hown (reps_len _ _)
  by_cases he : ea = some ⟨g, 0, none⟩
  · rw [he]
    have := hs.take el
    rwa [reps_take _ _ _ (by omega)] at this
  · by_cases hz : el = 0
    · subst hz; exact .inl rfl
    · rcases h.seg with hq | ⟨b, off, e, hc⟩
      · exact absurd (congrArg List.length hq) (by rw [reps_len]; simpa using hz)
      · refine seg_grown (h.seg.below ((Below.refl _ _).alloc (Nat.le_refl _) o)) hg (fun b' off' e' heq => ?_)
        have hoff := h.form b' off' e'
        subst hoff
        cases heq
        exact he e'

theorem gr_grows {base : Nat} {W2 wi w2 : World} {ea : Option Addr} {el ec : Nat} {m : Int} {t : Nat} {u v' : Value} {o : Obj} (h : Gr base W2 ea el ec m t u wi) (hbase : base ≤ W2.heap.size)
    (hown : w2.ownsRow (wi.alloc o).heap.size 5 1 v' (el + t + 1) ((reps (el + t) m).map (Value.int .u8) ++ [.int .u8 m])) (hg : (wi.alloc o).grownBy w2 none) :
    Gr base W2 ea el ec m (t + 1) v' w2 := by
  rw [reps_snoc] at hown
  have hsz := h.kept.size
  have hnew : ∀ b, v'.ownBlock = some b → W2.heap.size ≤ b := fun b hb => by have := (own_lt hown hb).1; simp at this; omega
  refine ⟨?_, seg_grown (h.seg.below ((Below.refl _ _).alloc (Nat.le_refl _) o)) hg (by simp), (h.kept.alloc o).grown hg (by simp), h.form, fun b hb => .inr (hnew b hb)⟩
  obtain ⟨h1, h2⟩ := hown
  refine ⟨h1, ?_⟩
  rcases h2 with h2 | ⟨g, cap, cur, hv, hgb, r⟩
  · exact .inl h2
  · exact .inr ⟨g, cap, cur, hv, by have := hnew g (by rw [hv]; rfl); omega, r⟩

theorem own_nil {w : World} {base e : Nat} {n cap : Nat} {xs : List Value} (h : w.ownsRow base e 1 (.slice none n cap) n xs) : n = 0 ∧ cap = 0 := by
  rcases h.2 with ⟨hv, h0⟩ | ⟨g, cap', _, hv, _⟩
  · cases hv; exact ⟨rfl, rfl⟩
  · cases hv

theorem own_addr {w : World} {base e : Nat} {b : Addr} {n cap : Nat} {xs : List Value} (h : w.ownsRow base e 1 (.slice (some b) n cap) n xs) : ∃ g, b = ⟨g, 0, none⟩ := by
  rcases h.2 with ⟨hv, h0⟩ | ⟨g, cap', _, hv, _⟩
  · cases hv
  · cases hv; exact ⟨g, rfl⟩

/-- The cells that a row owns, as an append asks for them. -/
theorem own_olds {w : World} {base e : Nat} {a : Option Addr} {n cap : Nat} {xs : List Value} (h : w.ownsRow base e 1 (.slice a n cap) n xs) (o : Obj) : ∀ b, a = some b → ∀ j u, xs[j]? = some u → (w.alloc o).cell? (b.add j) = some u := by
  intro b hb j u hj
  subst hb
  obtain ⟨g, rfl⟩ := own_addr h
  exact (h.alloc o).cells (g := g) rfl j u hj

/-- The Book's row, with what was put behind each list. -/
def heldU (es : List Ent) (us : Nat → Value) : List (Value × Value × Int) := es.mapIdx fun j e => (e.v, us j, e.num)

theorem heldU_len (es : List Ent) (us : Nat → Value) : (heldU es us).length = es.length := by simp [heldU]
theorem heldU_get (es : List Ent) (us : Nat → Value) (k : Nat) (h : k < es.length) : (heldU es us)[k]'(by rw [heldU_len]; exact h) = (es[k].v, us k, es[k].num) := by simp [heldU]
theorem heldU_set (es : List Ent) (us : Nat → Value) (k : Nat) (h : k < es.length) (u : Value) : (heldU es us).set k (es[k].v, u, es[k].num) = heldU es (fun j => if j = k then u else us j) := by
  refine List.ext_getElem (by simp [heldU]) (fun i h1 h2 => ?_)
  rw [List.getElem_set]
  by_cases hik : k = i
  · subst hik; simp [heldU]
  · rw [if_neg hik]
    simp [heldU, Ne.symm hik]
theorem heldU_none (es : List Ent) : heldU es (fun _ => .slice none 0 0) = es.map held0 := by
  refine List.ext_getElem (by simp [heldU]) (fun i h1 h2 => ?_)
  simp [heldU, held0]

/-- A list that forty marks were put behind. -/
structure Done (base : Nat) (es : List Ent) (i : Nat) (wr : World) (e : Ent) (u : Value) : Prop where
  own : wr.ownsRow base 5 1 u (e.len + 40) ((reps (e.len + 40) (markOf e.num)).map (Value.int .u8))
  seg : Seg wr e.a (reps e.len (markOf e.num))
  block : ∀ b off, e.a = some ⟨b, off, none⟩ → e.v.ownBlock = some b
  apart : ∀ (m : Nat) (hm : m < es.length), i ≤ m → ∀ b, u.ownBlock = some b → es[m].v.ownBlock ≠ some b

/-- How far the growing has come. -/
structure GrowInv (base : Nat) (vb : Value) (W : World) (es : List Ent) (us : Nat → Value) (i : Nat) (wr : World) : Prop where
  row : wr.ownsRow base 91 3 vb es.length (flat3 (heldU es us))
  todo : ∀ (j : Nat) (hj : j < es.length), i ≤ j → wr.ownsRow base 5 1 es[j].v es[j].len (es[j].marks.map (Value.int .u8))
  fin : ∀ (j : Nat) (hj : j < es.length), j < i → Done base es i wr es[j] (us j)
  kept : Kept (fun k => InLists es k ∨ vb.ownBlock = some k) W wr
  unset : ∀ j, i ≤ j → us j = .slice none 0 0

theorem grow_step {base : Nat} {W wr wi : World} {es : List Ent} {us : Nat → Value} {k gb capb : Nat} {o : Obj} {u : Value} (hk : k < es.length) (hA : Apt es) (hV : ∀ (j : Nat) (hj : j < es.length) (g : Nat), es[j].v.ownBlock = some g → (Value.slice (some ⟨gb, 0, none⟩) es.length capb).ownBlock ≠ some g)
    (h : GrowInv base (.slice (some ⟨gb, 0, none⟩) es.length capb) W es us k wr) (hbase : base ≤ wr.heap.size)
    (hg : Gr base (wr.alloc o) es[k].a es[k].len es[k].cap (markOf es[k].num) 40 u wi) :
    GrowInv base (.slice (some ⟨gb, 0, none⟩) es.length capb) W es (fun j => if j = k then u else us j) (k + 1) (wi.setCell ⟨gb, k * 3 + 1, none⟩ u) := by
  have hek : es[k].v = .slice es[k].a es[k].len es[k].cap := rfl
  have hKi : Kept (fun b => es[k].v.ownBlock = some b) wr wi := ((Kept.refl _ wr).alloc o).trans hg.kept
  have hsz : wr.heap.size ≤ wi.heap.size := hKi.size
  have hrowgb : ∀ j (hj : j < es.length), k ≤ j → es[j].v.ownBlock ≠ some gb := fun j hj hkj hb => own_sep (h.todo j hj hkj) h.row (by decide) hb rfl
  have hrow : wi.ownsRow base 91 3 (.slice (some ⟨gb, 0, none⟩) es.length capb) es.length (flat3 (heldU es us)) := own_kept h.row hKi (fun g hg' e => by
    simp [Value.ownBlock] at hg'; subst hg'; exact hrowgb k hk (Nat.le_refl _) e)
  have hst := (hrow.stored (k * 3 + 1) u).1
  have hset := flat3_set (heldU es us) u k (by rw [heldU_len]; exact hk)
  rw [heldU_get es us k hk] at hset
  rw [hset, heldU_set es us k hk] at hst
  have hKs : Kept (fun b => b = gb) wi (wi.setCell ⟨gb, k * 3 + 1, none⟩ u) := (Kept.refl (fun b => b = gb) wi).setCell (p := ⟨gb, k * 3 + 1, none⟩) (.inl rfl) _
  have hKall : Kept (fun b => b = gb ∨ es[k].v.ownBlock = some b) wr (wi.setCell ⟨gb, k * 3 + 1, none⟩ u) := (hKi.mono (fun _ _ hb => .inr hb)).trans (hKs.mono (fun _ _ hb => .inl hb))
  have hnotgb : ∀ {b e s n : Nat} {v : Value} {xs : List Value}, wi.ownsRow b e s v n xs → e ≠ 91 → v.ownBlock ≠ some gb := fun ho he hb => own_sep ho hrow he hb rfl
  have hown' : (wi.setCell ⟨gb, k * 3 + 1, none⟩ u).ownsRow base 5 1 u (es[k].len + 40) ((reps (es[k].len + 40) (markOf es[k].num)).map (Value.int .u8)) :=
    own_kept hg.own hKs (fun g hgu e => hnotgb hg.own (by decide) (by rw [hgu, e]))
  have hvk : ∀ b off, es[k].a = some ⟨b, off, none⟩ → es[k].v.ownBlock = some b := fun b off e => by rw [hek, e]; rfl
  refine ⟨hst, fun j hj hkj => ?_, fun j hj hjk => ?_, ?_, fun j hj => ?_⟩
  · refine own_kept (h.todo j hj (by omega)) hKall (fun g hgj hD => ?_)
    rcases hD with rfl | hD
    · exact hrowgb j hj (by omega) hgj
    · exact hA j k hj hk (by omega) g hgj hD
  · by_cases hjk' : j = k
    · subst hjk'
      rw [if_pos rfl]
      refine ⟨hown', seg_kept hg.seg hKs (fun b off e hb => ?_), hvk, fun m hm hkm b hb hb2 => ?_⟩
      · subst hb
        exact hrowgb j hk (Nat.le_refl _) (hvk _ _ e)
      · rcases hg.new b hb with h1 | h1
        · exact hA j m hk hm (by omega) b h1 hb2
        · have := (own_lt (h.todo m hm (by omega)) hb2).2
          simp at h1
          omega
    · have hd := h.fin j hj (by omega)
      rw [if_neg hjk']
      have hu : ∀ g, (us j).ownBlock = some g → ¬ (g = gb ∨ es[k].v.ownBlock = some g) := fun g hgu hD => by
        rcases hD with rfl | hD
        · exact own_sep hd.own h.row (by decide) hgu rfl
        · exact hd.apart k hk (Nat.le_refl _) g hgu hD
      refine ⟨own_kept hd.own hKall hu, ?_, hd.block, fun m hm hkm b hb => hd.apart m hm (by omega) b hb⟩
      by_cases hl0 : es[j].len = 0
      · rw [hl0]; exact .inl rfl
      · refine seg_kept hd.seg hKall (fun b off e hD => ?_)
        rcases hD with rfl | hD
        · exact hV j hj b (hd.block b off e) rfl
        · exact hA j k hj hk hjk' b (hd.block b off e) hD
  · exact h.kept.trans (hKall.mono (fun b _ hb => by rcases hb with rfl | hb; exact .inr rfl; exact .inl ⟨k, hk, hb⟩))
  · rw [if_neg (by omega)]
    exact h.unset j (by omega)

theorem gr_start {base : Nat} {wr : World} {ea : Option Addr} {el ec : Nat} {m : Int} (o : Obj) (h : wr.ownsRow base 5 1 (.slice ea el ec) el ((reps el m).map (Value.int .u8))) : Gr base (wr.alloc o) ea el ec m 0 (.slice ea el ec) (wr.alloc o) := by
  refine ⟨h.alloc o, ?_, Kept.refl _ _, fun b off e => ?_, fun b hb => .inl hb⟩
  · by_cases h0 : el = 0
    · subst h0; exact .inl rfl
    · obtain ⟨g, rfl⟩ := own_some h (by omega)
      exact seg_own (h.alloc o) (reps_len _ _)
  · subst e
    obtain ⟨g, hg⟩ := own_addr h
    cases hg
    rfl

set_option maxRecDepth 100000 in
set_option maxHeartbeats 4000000 in
theorem grow_any {r : Nat → Value} (B : Nat) (n : Int) (vb : Value) (es : List Ent) (base : Nat) (W : World) (hb : BookAt W B n vb r)
    (hown : W.ownsRow base 91 3 vb es.length (flat3 (es.map held0))) (hL : Lists base W es es.length) (hA : Apt es) (hS : Small es) (hbase : base ≤ W.heap.size) :
    Calls Tryd.prog 48 #[.pointer (some ⟨B, 0, none⟩)] W fun e W' => e = .returned (.tuple #[]) ∧ ∃ us, GrowInv base vb W es us es.length W' := by
  obtain ⟨i0, hi, hz0, hz1, hz2⟩ := info_parts infoU8
  have hsepB : ¬ (InLists es B ∨ vb.ownBlock = some B) := fun h => by
    rcases h with ⟨j, hj, h⟩ | h
    · exact own_not (hL j hj) hb (by decide) h
    · exact own_not hown hb (by decide) h
  have hV0 : ∀ (j : Nat) (hj : j < es.length) (g : Nat), es[j].v.ownBlock = some g → vb.ownBlock ≠ some g := fun j hj g h1 h2 => own_sep hown (hL j hj) (by decide) h2 h1
  have hlen := hS.1
  have hI0 : GrowInv base vb W es (fun _ => .slice none 0 0) 0 W := ⟨by rw [heldU_none]; exact hown, fun j hj _ => by have := hL j hj; rwa [if_pos hj] at this, fun j hj h => absurd h (by omega), Kept.refl _ _, fun _ _ => rfl⟩
  have HV : Hid (∀ (j : Nat) (hj : j < es.length) (g : Nat), es[j].v.ownBlock = some g → vb.ownBlock ≠ some g) := hV0
  have HB : Hid (¬ (InLists es B ∨ vb.ownBlock = some B)) := hsepB
  clear hV0 hsepB
  go_enter Tryd.func48, Tryd.ntmps48
  go_wp2
  go_loopw [2] (fun i wr => ∃ k : Nat, k ≤ es.length ∧ i = .int .i64 k ∧ ∃ us, GrowInv base vb W es us k wr) (fun i _ => es.length - (intOf i).toNat)
  case atStart => exact ⟨0, by omega, rfl, _, hI0⟩
  case round =>
    obtain ⟨k, hk, rfl, us, hI⟩ := hrel
    have hbr := hb.kept hI.kept HB.out
    have c1 := hbr.cell1
    by_cases hlt : k < es.length
    · obtain ⟨gb, capb, rfl⟩ := own3_form hI.row (by omega)
      have hget := flat3_get (heldU es us) k (by rw [heldU_len]; exact hlt)
      rw [heldU_get es us k hlt, hI.unset k (Nat.le_refl _)] at hget
      have d0 := (hI.row.cellAt (k * 3) (by omega)).trans hget.1
      have d1 := (hI.row.cellAt (k * 3 + 1) (by omega)).trans hget.2.1
      have d2 := (hI.row.cellAt (k * 3 + 1 + 1) (by omega)).trans hget.2.2
      have hek := hI.todo k hlt (Nat.le_refl _)
      have hsm := hS.2 k hlt
      clear hget
      obtain ⟨ea, el, ec, en, ex, hE⟩ : ∃ ea el ec en ex, es[k] = ⟨ea, el, ec, en, ex⟩ := ⟨_, _, _, _, _, rfl⟩
      rw [hE] at d0 d1 d2 hek hsm
      have HE : Hid (es[k] = ⟨ea, el, ec, en, ex⟩) := hE
      clear hE
      simp only [Ent.v] at d0 d1 d2 hek
      have hki : (k : Int) < (es.length : Int) := by omega
      have hs1 : el ≤ 1073741824 := hsm.1
      have hs2 : 0 ≤ en := hsm.2.1
      have hs3 : en ≤ 1000000 := hsm.2.2
      clear hsm
      have hG0 := gr_start (.cells #[.slice ea el ec, .slice none 0 0, .int .i64 en] 91) hek
      have hbasew : base ≤ wr.heap.size := by have := hI.kept.size; omega
      have hblk : ∀ b, (Value.slice ea el ec).ownBlock = some b → b < wr.heap.size := fun b hb => (own_lt hek hb).2
      clear hek
      go_wp2
      have q0 : (wr.alloc (.cells #[.slice ea el ec, .slice none 0 0, .int .i64 en] 91)).cell? ⟨wr.heap.size, 2, none⟩ = some (.int .i64 en) := by simp
      obtain ⟨wo, hwo⟩ : ∃ wo : World, wo = wr := ⟨_, rfl⟩
      rw [← hwo] at hI hbr c1 d0 d1 d2 hG0 hbasew q0 hblk
      subst hwo
      have hHlt : wo.heap.size < (wo.alloc (.cells #[.slice ea el ec, .slice none 0 0, .int .i64 en] 91)).heap.size := by simp
      have hneH : (Value.slice ea el ec).ownBlock ≠ some wo.heap.size := fun h => by have := hblk _ h; omega
      have hKw : Kept (fun b => (Value.slice ea el ec).ownBlock = some b) wo (wo.alloc (.cells #[.slice ea el ec, .slice none 0 0, .int .i64 en] 91)) := (Kept.refl _ _).alloc _
      have hbase2 : base ≤ (wo.alloc (.cells #[.slice ea el ec, .slice none 0 0, .int .i64 en] 91)).heap.size := by simp; omega
      obtain ⟨W2, hW2⟩ : ∃ W2, W2 = wo.alloc (.cells #[.slice ea el ec, .slice none 0 0, .int .i64 en] 91) := ⟨_, rfl⟩
      rw [← hW2] at hG0 q0 hHlt hKw hbase2 ⊢
      have HW2 : Hid (W2 = wo.alloc (.cells #[.slice ea el ec, .slice none 0 0, .int .i64 en] 91)) := hW2
      clear hW2 hblk d0 d1 d2 c1
      obtain ⟨H, hH⟩ : ∃ H, H = wo.heap.size := ⟨_, rfl⟩
      rw [← hH] at q0 hHlt hneH ⊢
      clear hH
      go_loopw [4, 5] (fun u j wi => ∃ t : Nat, t ≤ 40 ∧ j = .int .i64 t ∧ ∃ ua uc, u = .slice ua (el + t) uc ∧ Gr base W2 ea el ec (markOf en) t (.slice ua (el + t) uc) wi) (fun _ j _ => 40 - (intOf j).toNat)
      case atStart => exact ⟨0, by omega, rfl, ea, ec, rfl, hG0⟩
      case round =>
        obtain ⟨t, ht, rfl, ua, uc, rfl, hG⟩ := hrel
        by_cases htl : t < 40
        · have r2 : wr.cell? ⟨H, 2, none⟩ = some (.int .i64 en) := (hG.kept.cell (p := ⟨H, 2, none⟩) hHlt hneH).trans q0
          have hbw : base ≤ wr.heap.size := by have := hG.kept.size; omega
          by_cases hfit : el + t + 1 ≤ uc
          · cases ua with
            | none => have := own_nil hG.own; omega
            | some ub =>
              obtain ⟨g, rfl⟩ := own_addr hG.own
              go_wp2_with (first
                | (go_at_call 82; refine (mark_any en _ hs2 hs3).mono ?_; rintro e w' ⟨rfl, rfl⟩)
                | (at_builtin; refine wpList_append_fits _ rfl _ _ 29 rfl base 5 i0 1 Tryd.underlying29 hi hz1 g (el + t) uc _ rfl (hG.own.alloc _) ⟨_, 0, none⟩ 1 1 [.int .u8 (markOf en)] rfl rfl (cell_one_new _ _ _) (by simp [Value.oneCell']) hfit ?_; intro w2 hown2 hgrow2))
              have hG' := gr_fits hG hown2 hgrow2
              go_wp2
              go_roundw
              case rel => exact ⟨t + 1, by omega, by go_num, _, _, rfl, hG'⟩
              case measure => simp [intOf]; omega
          · go_wp2_with (first
              | (go_at_call 82; refine (mark_any en _ hs2 hs3).mono ?_; rintro e w' ⟨rfl, rfl⟩)
              | (at_builtin; refine wpList_append_grows _ rfl _ _ 29 rfl 5 i0 (.int .u8 0) 1 1 Tryd.underlying29 hi hz0 hz1 hz2 rfl (by decide) ua (el + t) uc ((reps (el + t) (markOf en)).map (Value.int .u8)) rfl (fun e => by subst e; exact own_nil hG.own) (by rw [List.length_map, reps_len]; omega) (own_olds hG.own _) ⟨_, 0, none⟩ 1 1 [.int .u8 (markOf en)] rfl rfl (cell_one_new _ _ _) (by simp [Value.oneCell']) (by omega) (by unfold maxLen; omega) (by omega) ?_; intro v' w2 hown2 hgrow2))
            have hG' := gr_grows hG hbase2 hown2 hgrow2
            obtain ⟨ua', uc', rfl⟩ := own_form hown2
            go_wp2
            go_roundw
            case rel => exact ⟨t + 1, by omega, by go_num, _, _, rfl, hG'⟩
            case measure => simp [intOf]; omega
        · obtain rfl : t = 40 := by omega
          have hKi := hKw.trans hG.kept
          have hB2 : BookAt wr B n (.slice (some ⟨gb, 0, none⟩) es.length capb) r := hbr.kept hKi (fun h => HB.out (.inl ⟨k, hlt, by rw [HE.out]; exact h⟩))
          have hnext := grow_step (o := (.cells #[.slice ea el ec, .slice none 0 0, .int .i64 en] 91)) hlt hA HV.out hI hbasew (by rw [HE.out, ← HW2.out]; exact hG)
          have c1 := hB2.cell1
          have hrow2 := own_kept hI.row hKi (fun g hg e => HV.out k hlt g (by rw [HE.out]; exact e) hg)
          have hget2 := flat3_get (heldU es us) k (by rw [heldU_len]; exact hlt)
          have d1 := (hrow2.cellAt (k * 3 + 1) (by omega)).trans hget2.2.1
          have f1 := hrow2.frozenAt (k * 3 + 1)
          clear hget2 hrow2
          go_wp2
          go_roundw
          case rel => exact ⟨k + 1, by omega, by go_num, _, hnext⟩
          case measure => simp [intOf]; omega
    · obtain rfl : k = es.length := by omega
      obtain ⟨av, cv, rfl⟩ := own_form hI.row
      go_wp2
      go_end0
      exact ⟨rfl, us, hI⟩
end Go.Proofs.YtecbhhfncklefaaDoor
