/- The walk of 'HandlesSpoils': true for any handle that may be, any change of up to four of its bytes; nothing that was there turns. -/
import Derived.Test.YtcpciodcecpibaaHBack
import Derived.Test.YtcpciodcecpibaaSpoilMath
namespace Go.Proofs.Ytcpciodcecpibaa
set_option linter.unusedVariables false
open Go.RowKit

/-- What stays: how the bytes are changed; the handle; its bytes, as they are now. -/
structure Sp (w W : World) (h G : Nat) (m g : Int) (bs zs : List Int) : Prop where
  by5 : W.heap[w.heap.size]? = some (.cells (vz bs).toArray 38)
  h : W.heap[h]? = some (.cells #[.int .i64 m, .int .u32 g] 27)
  own : W.ownsRow w.heap.size 5 1 (.slice (some ⟨G, 0, none⟩) 16 16) 16 (vz zs)
  len : zs.length = 16
  below : Below w.heap.size w W

theorem Sp.next {w W W' : World} {h G : Nat} {m g : Int} {bs zs : List Int} (a : Sp w W h G m g bs zs) (hb : Below W.heap.size W W') : Sp w W' h G m g bs zs :=
  ⟨(hb.block _ (Array.getElem?_eq_some_iff.1 a.by5).1).trans a.by5, (hb.block _ (Array.getElem?_eq_some_iff.1 a.h).1).trans a.h, own_below a.own hb, a.len, a.below.trans (hb.mono a.below.size)⟩

theorem Sp.seg {w W : World} {h G : Nat} {m g : Int} {bs zs : List Int} (a : Sp w W h G m g bs zs) : Seg W (some ⟨G, 0, none⟩) zs := seg_own a.own a.len

/-- One byte is changed. -/
theorem Sp.put {w W : World} {h G : Nat} {m g : Int} {bs zs : List Int} (a : Sp w W h G m g bs zs) (t : Nat) (x : Int) : Sp w (W.setCell ⟨G, t, none⟩ (.int .u8 x)) h G m g bs (zs.set t x) := by
  obtain ⟨h1, h2⟩ := a.own.stored t (.int .u8 x)
  have n1 : some w.heap.size ≠ (Value.slice (some ⟨G, 0, none⟩) 16 16).ownBlock := fun e => own_ne a.own a.by5 (by decide) (by cases e; rfl)
  have n2 : some h ≠ (Value.slice (some ⟨G, 0, none⟩) 16 16).ownBlock := fun e => own_ne a.own a.h (by decide) (by cases e; rfl)
  have hl := own_low (k := G) a.own rfl
  refine ⟨(h2.block _ (Array.getElem?_eq_some_iff.1 a.by5).1 n1).trans a.by5, (h2.block _ (Array.getElem?_eq_some_iff.1 a.h).1 n2).trans a.h, ?_, by rw [List.length_set, a.len], a.below.grown h2 a.below.size (fun k e => by cases e; exact hl)⟩
  unfold vz
  rw [List.map_set]
  exact h1

/-- Nothing has been changed so far. -/
def noneF (bs : List Int) (i : Nat) : Bool := (List.range i).all fun j => bs[j]?.getD 0 == 0

theorem noneF_next (bs : List Int) (i : Nat) : noneF bs (i + 1) = (noneF bs i && (bs[i]?.getD 0 == 0)) := by
  unfold noneF
  rw [List.range_succ, List.all_append]
  simp

theorem spl_step (zs : List Int) (k : Nat) (f : Nat → Int) (i : Nat) : spl zs k f (i + 1) = (spl zs k f i).set (k + i) (x8 (zs[k + i]?.getD 0) (f i)) := rfl

theorem noneF_all {bs : List Int} {n : Nat} (h : noneF bs n = true) : ∀ i, i < n → bs[i]?.getD 0 = 0 := by
  intro i hi
  unfold noneF at h
  rw [List.all_eq_true] at h
  simpa using h i (by simpa using hi)

theorem noneF_some {bs : List Int} {n : Nat} (h : noneF bs n = false) : ∃ i, i < n ∧ bs[i]?.getD 0 ≠ 0 := by
  unfold noneF at h
  rw [List.all_eq_false] at h
  obtain ⟨i, hi, hne⟩ := h
  exact ⟨i, by simpa using hi, by simpa using hne⟩

theorem many_yes {k i : Nat} (h : i < many k) : i < 4 ∧ k + i < 16 ∧ (12 ≤ k ∨ k + i < 12) := by
  unfold many at h
  split at h <;> omega

theorem many_no {k i : Nat} (hk : k < 16) (hi : i ≤ many k) (h : ¬ i < many k) : i = 4 ∨ (i < 4 ∧ k + i = 16) ∨ (i < 4 ∧ k < 12 ∧ k + i = 12) := by
  by_cases hc : 12 ≤ k
  · simp only [many, if_pos hc] at h hi
    omega
  · simp only [many, if_neg hc] at h hi
    omega

set_option maxRecDepth 100000 in
set_option maxHeartbeats 2000000 in
theorem hspoils_walk (n g : Int) (bs : List Int) (w : World) (h0 : 0 ≤ n) (h1 : n ≤ 65535) (h2 : 0 ≤ g) (h3 : g ≤ 4294967295) (h5 : bs.length = 5) (hbs : Byt bs) :
    Calls Try.prog 5 #[.int .u16 n, .int .u32 g, .agg (vz bs).toArray] w fun e w' => e = .returned (.bool true) ∧ Below w.heap.size w w' := by
  have hof := fun w => of_any n g w h0 h1 h2 h3
  have hm : 1 ≤ 1 + n % 1024 ∧ 1 + n % 1024 ≤ 1024 := by omega
  generalize 1 + n % 1024 = m at *
  have hh1 := World.alloc_heap_new w (.cells (vz bs).toArray 38)
  have hb1 : Below w.heap.size w (w.alloc (.cells (vz bs).toArray 38)) := (Below.refl _ _).alloc (Nat.le_refl _) _
  obtain ⟨q, hq⟩ : ∃ q, bs[4]?.getD 0 = q := ⟨_, rfl⟩
  have hqb := hbs 4
  rw [hq] at hqb
  obtain ⟨k, hk, hk16⟩ : ∃ k : Nat, q % 16 = (k : Int) ∧ k < 16 := ⟨(q % 16).toNat, by omega, by omega⟩
  go_enter Try.func5, Try.ntmps5
  go_wp2_with fail
  generalize w.alloc (.cells (vz bs).toArray 38) = W0 at *
  refine (hof W0).mono ?_
  rintro e W1 ⟨G, rfl, hown, hb2⟩
  have S2 : Sp w (W1.alloc (.cells #[.int .i64 m, .int .u32 g] 27)) W1.heap.size G m g bs (hB m g) := by
    have hb3 : Below W1.heap.size W1 (W1.alloc (.cells #[.int .i64 m, .int .u32 g] 27)) := (Below.refl _ _).alloc (Nat.le_refl _) _
    have hb := hb2.trans (hb3.mono hb2.size)
    exact ⟨(hb.block _ (Array.getElem?_eq_some_iff.1 hh1).1).trans hh1, World.alloc_heap_new _ _, own_base (own_below hown hb3) hb1.size, hB_length m g, hb1.trans (hb.mono hb1.size)⟩
  have c4 : (W1.alloc (.cells #[.int .i64 m, .int .u32 g] 27)).cell? ⟨w.heap.size, 4, none⟩ = some (.int .u8 q) := by
    simp only [World.cell?, S2.by5]
    rw [← hq]
    simp [vz, List.getElem?_eq_getElem (show 4 < bs.length by omega)]
  clear hof hh1 hb1 hown hb2 hq
  go_wp2
  simp only [hk]
  clear hk
  go_loopw [10, 12] (fun s i wr => ∃ t : Nat, t ≤ many k ∧ i = .int .i64 t ∧ s = .bool (noneF bs t) ∧ Sp w wr W1.heap.size G m g bs (spl (hB m g) k (fun j => bs[j]?.getD 0) t)) (fun _ i _ => many k - (intOf i).toNat)
  case atStart => exact ⟨0, by omega, rfl, rfl, S2⟩
  case round =>
    obtain ⟨t, ht, rfl, rfl, S⟩ := hrel
    clear S2 c4
    by_cases htl : t < many k
    · obtain ⟨t4, t16, tw⟩ := many_yes htl
      have hz := spl_next (hB m g) k (fun j => bs[j]?.getD 0) t (by rw [hB_length]; omega)
      have hzb := byt_hB m g (k + t)
      have hbb := hbs t
      have hN := noneF_next bs t
      have hst := spl_step (hB m g) k (fun j => bs[j]?.getD 0) t
      have cz : wr.cell? ⟨G, k + t, none⟩ = some (.int .u8 ((hB m g)[k + t]?.getD 0)) := by
        rw [S.own.cellAt (k + t) (by omega), ← hz]
        have : k + t < (spl (hB m g) k (fun j => bs[j]?.getD 0) t).length := by rw [S.len]; omega
        simp [vz, List.getElem?_eq_getElem this]
      have hcb : ∀ W' : World, W'.heap[w.heap.size]? = some (.cells (vz bs).toArray 38) → W'.cell? ⟨w.heap.size, t, none⟩ = some (.int .u8 (bs[t]?.getD 0)) := fun W' hW => by
        simp only [World.cell?, hW]
        simp [vz, List.getElem?_eq_getElem (show t < bs.length by omega)]
      have cb := hcb wr S.by5
      have fz := S.own.frozenAt (k + t)
      have hx : bits .xor .u8 ((hB m g)[k + t]?.getD 0) (bs[t]?.getD 0) = x8 ((hB m g)[k + t]?.getD 0) (bs[t]?.getD 0) := u8_xor _ _ hzb.1 (by omega) hbb.1 (by omega)
      have S3 := (S.put (k + t) (x8 ((hB m g)[k + t]?.getD 0) (bs[t]?.getD 0)))
      rw [← hst] at S3
      clear hz hst
      generalize x8 ((hB m g)[k + t]?.getD 0) (bs[t]?.getD 0) = y at *
      generalize (hB m g)[k + t]?.getD 0 = z at *
      generalize bs[t]?.getD 0 = b at *
      have S3' := S3.next (W' := (wr.setCell ⟨G, k + t, none⟩ (.int .u8 y)).drew) ⟨rfl, rfl, rfl, Nat.le_refl _, fun _ _ => rfl⟩
      rcases tw with tw | tw
      · go_wp2
        go_region
        have cb3 := hcb _ S3'.by5
        generalize (wr.setCell ⟨G, k + t, none⟩ (.int .u8 y)).drew = W4 at *
        clear S S3 cz cb fz hx hcb
        cases hs : noneF bs t with
        | false =>
          rw [hs, Bool.false_and] at hN
          go_wp2
          go_roundw
          case rel => exact ⟨t + 1, by omega, by go_num, by rw [hN], S3'⟩
          case measure => simp [intOf]; omega
        | true =>
          rw [hs, Bool.true_and] at hN
          by_cases hb0 : b = 0
          · subst hb0
            go_wp2
            go_roundw
            case rel => exact ⟨t + 1, by omega, by go_num, by rw [hN]; rfl, S3'⟩
            case measure => simp [intOf]; omega
          · have hbq : (b == 0) = false := by simp [hb0]
            rw [hbq] at hN
            go_wp2
            go_roundw
            case rel => exact ⟨t + 1, by omega, by go_num, by rw [hN], S3'⟩
            case measure => simp [intOf]; omega
      · go_wp2
        go_region
        have cb3 := hcb _ S3'.by5
        generalize (wr.setCell ⟨G, k + t, none⟩ (.int .u8 y)).drew = W4 at *
        clear S S3 cz cb fz hx hcb
        cases hs : noneF bs t with
        | false =>
          rw [hs, Bool.false_and] at hN
          go_wp2
          go_roundw
          case rel => exact ⟨t + 1, by omega, by go_num, by rw [hN], S3'⟩
          case measure => simp [intOf]; omega
        | true =>
          rw [hs, Bool.true_and] at hN
          by_cases hb0 : b = 0
          · subst hb0
            go_wp2
            go_roundw
            case rel => exact ⟨t + 1, by omega, by go_num, by rw [hN]; rfl, S3'⟩
            case measure => simp [intOf]; omega
          · have hbq : (b == 0) = false := by simp [hb0]
            rw [hbq] at hN
            go_wp2
            go_roundw
            case rel => exact ⟨t + 1, by omega, by go_num, by rw [hN], S3'⟩
            case measure => simp [intOf]; omega
    · have htc := many_no hk16 ht htl
      have hS : spl (hB m g) k (fun j => bs[j]?.getD 0) t = spl (hB m g) k (fun j => bs[j]?.getD 0) (many k) := by rw [show t = many k from by omega]
      have hF : noneF bs t = noneF bs (many k) := by rw [show t = many k from by omega]
      rw [hS] at S
      have hbyt := byt_spl (byt_hB m g) k (fun j => bs[j]?.getD 0) hbs (many k)
      have hgt := fun w' hs => hget_any (some ⟨G, 0, none⟩) 16 16 (spl (hB m g) k (fun j => bs[j]?.getD 0) (many k)) w' (by omega) (by omega) (by rw [spl_length, hB_length]) hbyt hs (by simp)
      have hsame : noneF bs (many k) = true → spl (hB m g) k (fun j => bs[j]?.getD 0) (many k) = hB m g := fun h => spl_same (byt_hB m g) k (many k) _ (noneF_all h)
      have hbad : noneF bs (many k) = false → hgok (spl (hB m g) k (fun j => bs[j]?.getD 0) (many k)) = false := fun h => spl_bad k hk16 _ hbs (noneF_some h)
      have hp := hg_put hm.1 hm.2 h2 h3
      rw [hF]
      clear hS hF hbyt
      generalize spl (hB m g) k (fun j => bs[j]?.getD 0) (many k) = zs at *
      cases hs : noneF bs (many k) with
      | true =>
        have hzs := hsame hs
        subst hzs
        rw [hp.1, hp.2.1, hp.2.2] at hgt
        have heq : ∀ w, (binOp .eql 27 (.agg #[.int .i64 m, .int .u32 g]) (.agg #[.int .i64 m, .int .u32 g])).run Try.prog w = .ok (.bool true) w := fun w => by rw [hand_eql]; simp
        clear hs hsame hbad hp
        rcases htc with htc | ⟨ht4, htc⟩ | ⟨ht4, htc, htc'⟩
        · go_wp2_with fail
          refine (hgt _ S.seg).mono ?_
          rintro e W5 ⟨rfl, hb5⟩
          have S6 := (S.next hb5).next ((Below.refl _ _).alloc (Nat.le_refl _) (.cells #[.int .i64 m, .int .u32 g] 27))
          have hh6 := World.alloc_heap_new W5 (.cells #[.int .i64 m, .int .u32 g] 27)
          clear hgt hb5 S
          go_wp2_with fail
          generalize W5.alloc (.cells #[.int .i64 m, .int .u32 g] 27) = W6 at *
          generalize W5.heap.size = h' at *
          refine (alive_any W6).mono ?_
          rintro e W7 ⟨rfl, hb7⟩
          have S7 := S6.next hb7
          have hh7 := (hb7.block _ (Array.getElem?_eq_some_iff.1 hh6).1).trans hh6
          have d0 : W7.cell? ⟨h', 0, none⟩ = some (.int .i64 m) := by simp [World.cell?, hh7]
          have d1 : W7.cell? ⟨h', 1, none⟩ = some (.int .u32 g) := by simp [World.cell?, hh7]
          have c0 : W7.cell? ⟨W1.heap.size, 0, none⟩ = some (.int .i64 m) := by simp [World.cell?, S7.h]
          have c1 : W7.cell? ⟨W1.heap.size, 1, none⟩ = some (.int .u32 g) := by simp [World.cell?, S7.h]
          have hB7 := S7.below
          clear S6 S7 hh6 hh7 hb7
          go_wp2
          go_ret
          exact ⟨rfl, hB7⟩
        · go_wp2_with fail
          refine (hgt _ S.seg).mono ?_
          rintro e W5 ⟨rfl, hb5⟩
          have S6 := (S.next hb5).next ((Below.refl _ _).alloc (Nat.le_refl _) (.cells #[.int .i64 m, .int .u32 g] 27))
          have hh6 := World.alloc_heap_new W5 (.cells #[.int .i64 m, .int .u32 g] 27)
          clear hgt hb5 S
          go_wp2_with fail
          generalize W5.alloc (.cells #[.int .i64 m, .int .u32 g] 27) = W6 at *
          generalize W5.heap.size = h' at *
          refine (alive_any W6).mono ?_
          rintro e W7 ⟨rfl, hb7⟩
          have S7 := S6.next hb7
          have hh7 := (hb7.block _ (Array.getElem?_eq_some_iff.1 hh6).1).trans hh6
          have d0 : W7.cell? ⟨h', 0, none⟩ = some (.int .i64 m) := by simp [World.cell?, hh7]
          have d1 : W7.cell? ⟨h', 1, none⟩ = some (.int .u32 g) := by simp [World.cell?, hh7]
          have c0 : W7.cell? ⟨W1.heap.size, 0, none⟩ = some (.int .i64 m) := by simp [World.cell?, S7.h]
          have c1 : W7.cell? ⟨W1.heap.size, 1, none⟩ = some (.int .u32 g) := by simp [World.cell?, S7.h]
          have hB7 := S7.below
          clear S6 S7 hh6 hh7 hb7
          go_wp2
          go_ret
          exact ⟨rfl, hB7⟩
        · go_wp2_with fail
          refine (hgt _ S.seg).mono ?_
          rintro e W5 ⟨rfl, hb5⟩
          have S6 := (S.next hb5).next ((Below.refl _ _).alloc (Nat.le_refl _) (.cells #[.int .i64 m, .int .u32 g] 27))
          have hh6 := World.alloc_heap_new W5 (.cells #[.int .i64 m, .int .u32 g] 27)
          clear hgt hb5 S
          go_wp2_with fail
          generalize W5.alloc (.cells #[.int .i64 m, .int .u32 g] 27) = W6 at *
          generalize W5.heap.size = h' at *
          refine (alive_any W6).mono ?_
          rintro e W7 ⟨rfl, hb7⟩
          have S7 := S6.next hb7
          have hh7 := (hb7.block _ (Array.getElem?_eq_some_iff.1 hh6).1).trans hh6
          have d0 : W7.cell? ⟨h', 0, none⟩ = some (.int .i64 m) := by simp [World.cell?, hh7]
          have d1 : W7.cell? ⟨h', 1, none⟩ = some (.int .u32 g) := by simp [World.cell?, hh7]
          have c0 : W7.cell? ⟨W1.heap.size, 0, none⟩ = some (.int .i64 m) := by simp [World.cell?, S7.h]
          have c1 : W7.cell? ⟨W1.heap.size, 1, none⟩ = some (.int .u32 g) := by simp [World.cell?, S7.h]
          have hB7 := S7.below
          clear S6 S7 hh6 hh7 hb7
          go_wp2
          go_ret
          exact ⟨rfl, hB7⟩
      | false =>
        obtain ⟨r1, r2, r3⟩ := hg_bad (hbad hs)
        rw [r1, r2, r3] at hgt
        have heq : ∀ w, (binOp .eql 27 (.agg #[.int .i64 0, .int .u32 0]) (.agg #[.int .i64 0, .int .u32 0])).run Try.prog w = .ok (.bool true) w := fun w => by rw [hand_eql]; rfl
        clear hs hsame hbad hp r1 r2 r3
        rcases htc with htc | ⟨ht4, htc⟩ | ⟨ht4, htc, htc'⟩
        · go_wp2_with fail
          refine (hgt _ S.seg).mono ?_
          rintro e W5 ⟨rfl, hb5⟩
          have S6 := (S.next hb5).next ((Below.refl _ _).alloc (Nat.le_refl _) (.cells #[.int .i64 0, .int .u32 0] 27))
          have hh6 := World.alloc_heap_new W5 (.cells #[.int .i64 0, .int .u32 0] 27)
          clear hgt hb5 S
          go_wp2_with fail
          generalize W5.alloc (.cells #[.int .i64 0, .int .u32 0] 27) = W6 at *
          generalize W5.heap.size = h' at *
          refine (alive_any W6).mono ?_
          rintro e W7 ⟨rfl, hb7⟩
          have S7 := S6.next hb7
          have hh7 := (hb7.block _ (Array.getElem?_eq_some_iff.1 hh6).1).trans hh6
          have d0 : W7.cell? ⟨h', 0, none⟩ = some (.int .i64 0) := by simp [World.cell?, hh7]
          have d1 : W7.cell? ⟨h', 1, none⟩ = some (.int .u32 0) := by simp [World.cell?, hh7]
          have c0 : W7.cell? ⟨W1.heap.size, 0, none⟩ = some (.int .i64 m) := by simp [World.cell?, S7.h]
          have c1 : W7.cell? ⟨W1.heap.size, 1, none⟩ = some (.int .u32 g) := by simp [World.cell?, S7.h]
          have hB7 := S7.below
          clear S6 S7 hh6 hh7 hb7
          go_wp2
          go_ret
          exact ⟨rfl, hB7⟩
        · go_wp2_with fail
          refine (hgt _ S.seg).mono ?_
          rintro e W5 ⟨rfl, hb5⟩
          have S6 := (S.next hb5).next ((Below.refl _ _).alloc (Nat.le_refl _) (.cells #[.int .i64 0, .int .u32 0] 27))
          have hh6 := World.alloc_heap_new W5 (.cells #[.int .i64 0, .int .u32 0] 27)
          clear hgt hb5 S
          go_wp2_with fail
          generalize W5.alloc (.cells #[.int .i64 0, .int .u32 0] 27) = W6 at *
          generalize W5.heap.size = h' at *
          refine (alive_any W6).mono ?_
          rintro e W7 ⟨rfl, hb7⟩
          have S7 := S6.next hb7
          have hh7 := (hb7.block _ (Array.getElem?_eq_some_iff.1 hh6).1).trans hh6
          have d0 : W7.cell? ⟨h', 0, none⟩ = some (.int .i64 0) := by simp [World.cell?, hh7]
          have d1 : W7.cell? ⟨h', 1, none⟩ = some (.int .u32 0) := by simp [World.cell?, hh7]
          have c0 : W7.cell? ⟨W1.heap.size, 0, none⟩ = some (.int .i64 m) := by simp [World.cell?, S7.h]
          have c1 : W7.cell? ⟨W1.heap.size, 1, none⟩ = some (.int .u32 g) := by simp [World.cell?, S7.h]
          have hB7 := S7.below
          clear S6 S7 hh6 hh7 hb7
          go_wp2
          go_ret
          exact ⟨rfl, hB7⟩
        · go_wp2_with fail
          refine (hgt _ S.seg).mono ?_
          rintro e W5 ⟨rfl, hb5⟩
          have S6 := (S.next hb5).next ((Below.refl _ _).alloc (Nat.le_refl _) (.cells #[.int .i64 0, .int .u32 0] 27))
          have hh6 := World.alloc_heap_new W5 (.cells #[.int .i64 0, .int .u32 0] 27)
          clear hgt hb5 S
          go_wp2_with fail
          generalize W5.alloc (.cells #[.int .i64 0, .int .u32 0] 27) = W6 at *
          generalize W5.heap.size = h' at *
          refine (alive_any W6).mono ?_
          rintro e W7 ⟨rfl, hb7⟩
          have S7 := S6.next hb7
          have hh7 := (hb7.block _ (Array.getElem?_eq_some_iff.1 hh6).1).trans hh6
          have d0 : W7.cell? ⟨h', 0, none⟩ = some (.int .i64 0) := by simp [World.cell?, hh7]
          have d1 : W7.cell? ⟨h', 1, none⟩ = some (.int .u32 0) := by simp [World.cell?, hh7]
          have c0 : W7.cell? ⟨W1.heap.size, 0, none⟩ = some (.int .i64 m) := by simp [World.cell?, S7.h]
          have c1 : W7.cell? ⟨W1.heap.size, 1, none⟩ = some (.int .u32 g) := by simp [World.cell?, S7.h]
          have hB7 := S7.below
          clear S6 S7 hh6 hh7 hb7
          go_wp2
          go_ret
          exact ⟨rfl, hB7⟩
end Go.Proofs.Ytcpciodcecpibaa
