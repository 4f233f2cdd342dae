/- 'Get' of the document: what is told of a node, out of bytes, or the error; nothing that was there turns. -/
import Derived.Test.YtecbhhfncklefaaRefByMx
import Derived.Test.YtecbhhfncklefaaRef4RefRefYesMx
import Derived.Test.YtecbhhfncklefaaCuts
import Derived.Test.YtecbhhfncklefaaLitsTextsMx
import Derived.Test.YtecbhhfncklefaaPCatchGRowTmpCPGetKRowTmp2Mx
import Derived.Laws.BytesArg
import Derived.ChangeKeysEq
namespace Go.Proofs.Ytecbhhfncklefaa
set_option linter.unusedVariables false
set_option linter.unusedSimpArgs false
open Go.RowKit

theorem n4_take {zs : List Int} {k : Nat} (h : k + 4 ≤ 84) : n4 (zs.take 84) k = n4 zs k := by
  unfold n4
  rw [List.drop_take, List.take_take, Nat.min_eq_left (by omega)]
theorem n8_take {zs : List Int} {k : Nat} (h : k + 8 ≤ 84) : n8 (zs.take 84) k = n8 zs k := by
  unfold n8
  rw [List.drop_take, List.take_take, Nat.min_eq_left (by omega)]
theorem raw_take (zs : List Int) : rawOf (zs.take 84) = rawOf zs := by
  simp only [rawOf]
  rw [n4_take (by omega), n4_take (by omega), n4_take (by omega), n4_take (by omega), n4_take (by omega), n8_take (by omega), n8_take (by omega), n8_take (by omega), n8_take (by omega), n8_take (by omega), n4_take (by omega), n4_take (by omega), n4_take (by omega), n4_take (by omega), n4_take (by omega), n4_take (by omega)]

theorem str_alike {xs ys : List Int} (hx : Byt xs) (hy : Byt ys) : ((strOfNums xs).toList == (strOfNums ys).toList) = decide (xs = ys) := by
  by_cases h : xs = ys
  · simp [h]
  · rw [decide_eq_false h, ← beq_toListBytes]
    show ((strOfNums xs).data == (strOfNums ys).data) = false
    exact beq_eq_false_iff_ne.2 fun e => h (str_inj hx hy (ByteArray.ext e))

set_option maxRecDepth 100000 in
set_option maxHeartbeats 400000 in
theorem refnum_at (k : Nat) (b off cap : Nat) (ys : List Int) (w : World) (hk : k + 4 ≤ 84) (hc : 84 ≤ cap) (hm : cap ≤ 9223372036854775807) (hy : ys.length = 84) (hb : Byt ys) (hs : Seg w (some ⟨b, off, none⟩) ys) :
    Calls Try.prog 17 #[.slice (some ⟨b, off, none⟩) 84 cap, .int .i64 (k : Int)] w fun e w' => e = .returned (.int .u32 (n4 ys k)) ∧ w' = w := by
  obtain ⟨a', hcut, hsf⟩ := cut_from hs hy hc k (by omega)
  have hget := refget_any a' (84 - k) (cap - k) (ys.drop k) w (by omega) (by omega) (by rw [List.length_drop, hy]) (byt_tail hb k) hsf
  rw [show getN (ys.drop k) = n4 ys k by unfold getN n4; rw [if_neg (by rw [List.length_drop, hy]; omega)]] at hget
  go_enter Try.func17, Try.ntmps17
  go_wp2_with fail
  refine hget.mono ?_
  rintro e w' ⟨rfl, rfl⟩
  go_wp2
  go_ret
  exact ⟨rfl, rfl⟩
set_option maxRecDepth 100000 in
set_option maxHeartbeats 400000 in
theorem reflong_at (k : Nat) (b off cap : Nat) (ys : List Int) (w : World) (hk : k + 8 ≤ 84) (hc : 84 ≤ cap) (hm : cap ≤ 9223372036854775807) (hy : ys.length = 84) (hb : Byt ys) (hs : Seg w (some ⟨b, off, none⟩) ys) :
    Calls Try.prog 18 #[.slice (some ⟨b, off, none⟩) 84 cap, .int .i64 (k : Int)] w fun e w' => e = .returned (.int .u64 (n8 ys k)) ∧ w' = w := by
  obtain ⟨a', hcut, hsf⟩ := cut_from hs hy hc k (by omega)
  have hget := refgetlong_any a' (84 - k) (cap - k) (ys.drop k) w (by omega) (by omega) (by rw [List.length_drop, hy]) (byt_tail hb k) hsf
  rw [show getM (ys.drop k) = n8 ys k by unfold getM n8; rw [if_neg (by rw [List.length_drop, hy]; omega)]] at hget
  go_enter Try.func18, Try.ntmps18
  go_wp2_with fail
  refine hget.mono ?_
  rintro e w' ⟨rfl, rfl⟩
  go_wp2
  go_ret
  exact ⟨rfl, rfl⟩

/-- What the numbers at their places are: bytes. -/
theorem num_at {zs : List Int} (hb : Byt zs) (k : Nat) : (0 ≤ n4 zs k ∧ n4 zs k ≤ 4294967295) ∧ (0 ≤ n8 zs k ∧ n8 zs k ≤ 18446744073709551615) := by
  refine ⟨num_lt (byt_tail hb k), ?_⟩
  have h := be_nonneg ((zs.drop k).take 8) ((byt_tail hb k).take 8)
  have hl : ((zs.drop k).take 8).length ≤ 8 := by rw [List.length_take]; omega
  have : (256 : Int) ^ ((zs.drop k).take 8).length ≤ 256 ^ 8 := by
    have : ∀ m : Nat, m ≤ 8 → (256 : Int) ^ m ≤ 256 ^ 8 := by decide
    exact this _ hl
  have e8 : (256 : Int) ^ 8 = 18446744073709551616 := by decide
  unfold n8
  omega
theorem atr_in {zs : List Int} (hb : Byt zs) : (ofRaw (rawOf zs)).In :=
  ⟨(num_at hb 0).1, (num_at hb 4).1, (num_at hb 8).1, (num_at hb 12).1, (num_at hb 16).1, (num_at hb 20).2, (num_at hb 28).2, (num_at hb 52).2, (num_at hb 60).1, (num_at hb 64).1, (num_at hb 68).1, (num_at hb 72).1, (num_at hb 76).1, (num_at hb 80).1⟩

/-- The bytes are those of what they tell, just if the numbers that are always the same are so. -/
theorem attr_same {zs : List Int} (hb : Byt zs) (hl : zs.length = 84) : (aB (ofRaw (rawOf zs)) = zs) ↔ midRaw (rawOf zs) = true := by
  have h0 : rawC.enc (rawOf zs) = zs := by
    have ha := rawC.again zs 0 hb (by rw [fix_raw.all zs 0 (by omega)])
    rw [fix_raw.all zs 0 (by omega)] at ha
    have h2 := ha.2.1
    rw [show zs.drop 84 = [] from List.drop_eq_nil_of_le (by omega), List.append_nil] at h2
    exact h2.symm
  have hok : rawC.ok (rawOf zs) := by
    have ha := rawC.again zs 0 hb (by rw [fix_raw.all zs 0 (by omega)])
    rw [fix_raw.all zs 0 (by omega)] at ha
    exact ha.1
  constructor
  · intro h
    have h3 : rawC.enc (ofRaw (rawOf zs)).raw = rawC.enc (rawOf zs) := by rw [h0]; exact h
    have h4 := rawC.inj (raw_ok (atr_in hb)) hok h3
    rw [← h4]
    rfl
  · intro h
    have h3 : (ofRaw (rawOf zs)).raw = rawOf zs := by
      generalize rawOf zs = r at h
      obtain ⟨k, m, l, u, g, s, d, z, o, i, rs, rn, ws, wn, ts, tn⟩ := r
      have h3 : z == 0 && o == 1 := h
      simp only [Bool.and_eq_true, beq_iff_eq] at h3
      obtain ⟨rfl, rfl⟩ := h3
      rfl
    show rawC.enc (ofRaw (rawOf zs)).raw = zs
    rw [h3, h0]

set_option maxRecDepth 100000 in
set_option maxHeartbeats 4000000 in
theorem refaget_any (a : Option Addr) (len cap : Nat) (zs : List Int) (w : World) (hlc : len ≤ cap) (hm : cap ≤ 9223372036854775807) (hz : zs.length = len) (hb : Byt zs) (hs : Seg w a zs) :
    Calls Try.prog 9 #[.slice a len cap] w fun e w' => ∃ v : Atr, v = attrC.gV zs ∧ e = .returned (.tuple #[.agg #[.int .u32 v.kind, .int .u32 v.mode, .int .u32 v.links, .int .u32 v.user, .int .u32 v.group, .int .u64 v.size, .int .u64 v.used, .int .u64 v.id, .int .u32 v.rs, .int .u32 v.rn, .int .u32 v.ws, .int .u32 v.wn, .int .u32 v.ts, .int .u32 v.tn], .int .i64 (attrC.gN zs : Int), .int .i64 (attrC.gE zs)]) ∧ Below w.heap.size w w' := by
  have z1 : (w.alloc (.cells #[.int .u32 0, .int .u32 0, .int .u32 0, .int .u32 0, .int .u32 0, .int .u64 0, .int .u64 0, .int .u64 0, .int .u32 0, .int .u32 0, .int .u32 0, .int .u32 0, .int .u32 0, .int .u32 0] 31)).heap[w.heap.size]? = some (.cells #[.int .u32 0, .int .u32 0, .int .u32 0, .int .u32 0, .int .u32 0, .int .u64 0, .int .u64 0, .int .u64 0, .int .u32 0, .int .u32 0, .int .u32 0, .int .u32 0, .int .u32 0, .int .u32 0] 31) := World.alloc_heap_new w _
  have hB1 : Below w.heap.size w (w.alloc (.cells #[.int .u32 0, .int .u32 0, .int .u32 0, .int .u32 0, .int .u32 0, .int .u64 0, .int .u64 0, .int .u64 0, .int .u32 0, .int .u32 0, .int .u32 0, .int .u32 0, .int .u32 0, .int .u32 0] 31)) := (Below.refl _ _).alloc (Nat.le_refl _) _
  obtain ⟨g1, g2, g3⟩ := attr_got zs 0
  by_cases h84 : len < 84
  · have hE : attrC.gE zs = 4 := g1 (by omega)
    obtain ⟨e1, e2⟩ := attrC.bad (zs := zs) (by rw [hE]; decide)
    rw [hE, e1, e2]
    clear hE e1 e2 g1 g2 g3 hs hb
    go_enter Try.func9, Try.ntmps9
    go_wp2
    exact bodyPost_ret (results_row_tmp2 (p := 2) (u := 3) (v := 4) (ty := 31) rfl _ _ w.heap.size 31 _ (0, 0) _ (by rfl) z1 Try.underlying31 rfl (by kernel_rfl)) rfl ⟨zeroA, rfl, rfl, hB1⟩
  · rcases hs with rfl | ⟨b, off, rfl, hcell⟩
    · simp at hz; omega
    have hs : Seg w (some ⟨b, off, none⟩) zs := .inr ⟨b, off, rfl, hcell⟩
    have hys : (zs.take 84).length = 84 := by rw [List.length_take]; omega
    have hyb := hb.take 84
    have hsy := (hs.take 84).below hB1
    have hraw := raw_take zs
    obtain ⟨ys, hyz⟩ : ∃ ys, zs.take 84 = ys := ⟨_, rfl⟩
    rw [hyz] at hys hyb hsy hraw
    have hsame := attr_same hyb hys
    have hin := atr_in hyb
    have g2' := g2 (by omega)
    have g3' := g3 (by omega)
    rw [← hraw] at g2' g3'
    have hbad : (midRaw (rawOf ys) && amay (ofRaw (rawOf ys))) = false → attrC.gE zs = 5 ∧ attrC.gV zs = zeroA ∧ attrC.gN zs = 0 := fun h => by
      have hE : attrC.gE zs = 5 := g2' h
      obtain ⟨e1, e2⟩ := attrC.bad (zs := zs) (by rw [hE]; decide)
      exact ⟨hE, e1, e2⟩
    have hgood : (midRaw (rawOf ys) && amay (ofRaw (rawOf ys))) = true → attrC.gE zs = 0 ∧ attrC.gV zs = ofRaw (rawOf ys) ∧ attrC.gN zs = 84 := fun h => by
      have hd := g3' h
      have hE : attrC.gE zs = 0 := by show (attrC.dec ⟨zs, 0, 0⟩).2.e = 0; rw [hd]
      exact ⟨hE, by unfold Codec.gV; rw [if_pos hE, hd], by unfold Codec.gN; rw [if_pos hE, hd]⟩
    clear g1 g2 g3 g2' g3' hs hcell hb hraw
    generalize attrC.gE zs = E at *
    generalize attrC.gV zs = V at *
    generalize attrC.gN zs = N at *
    obtain ⟨x, hx⟩ : ∃ x, ofRaw (rawOf ys) = x := ⟨_, rfl⟩
    rw [hx] at hsame hin hbad hgood
    have f0 : n4 ys 0 = x.kind := by rw [← hx]; rfl
    have f1 : n4 ys 4 = x.mode := by rw [← hx]; rfl
    have f2 : n4 ys 8 = x.links := by rw [← hx]; rfl
    have f3 : n4 ys 12 = x.user := by rw [← hx]; rfl
    have f4 : n4 ys 16 = x.group := by rw [← hx]; rfl
    have f5 : n8 ys 20 = x.size := by rw [← hx]; rfl
    have f6 : n8 ys 28 = x.used := by rw [← hx]; rfl
    have f7 : n8 ys 52 = x.id := by rw [← hx]; rfl
    have f8 : n4 ys 60 = x.rs := by rw [← hx]; rfl
    have f9 : n4 ys 64 = x.rn := by rw [← hx]; rfl
    have f10 : n4 ys 68 = x.ws := by rw [← hx]; rfl
    have f11 : n4 ys 72 = x.wn := by rw [← hx]; rfl
    have f12 : n4 ys 76 = x.ts := by rw [← hx]; rfl
    have f13 : n4 ys 80 = x.tn := by rw [← hx]; rfl
    have m0 : ∀ W, Seg W (some ⟨b, off, none⟩) ys → Calls Try.prog 17 #[.slice (some ⟨b, off, none⟩) 84 cap, .int .i64 0] W fun e w' => e = .returned (.int .u32 x.kind) ∧ w' = W := fun W h => by
      have := refnum_at 0 b off cap ys W (by omega) (by omega) hm hys hyb h
      rwa [f0] at this
    have m1 : ∀ W, Seg W (some ⟨b, off, none⟩) ys → Calls Try.prog 17 #[.slice (some ⟨b, off, none⟩) 84 cap, .int .i64 4] W fun e w' => e = .returned (.int .u32 x.mode) ∧ w' = W := fun W h => by
      have := refnum_at 4 b off cap ys W (by omega) (by omega) hm hys hyb h
      rwa [f1] at this
    have m2 : ∀ W, Seg W (some ⟨b, off, none⟩) ys → Calls Try.prog 17 #[.slice (some ⟨b, off, none⟩) 84 cap, .int .i64 8] W fun e w' => e = .returned (.int .u32 x.links) ∧ w' = W := fun W h => by
      have := refnum_at 8 b off cap ys W (by omega) (by omega) hm hys hyb h
      rwa [f2] at this
    have m3 : ∀ W, Seg W (some ⟨b, off, none⟩) ys → Calls Try.prog 17 #[.slice (some ⟨b, off, none⟩) 84 cap, .int .i64 12] W fun e w' => e = .returned (.int .u32 x.user) ∧ w' = W := fun W h => by
      have := refnum_at 12 b off cap ys W (by omega) (by omega) hm hys hyb h
      rwa [f3] at this
    have m4 : ∀ W, Seg W (some ⟨b, off, none⟩) ys → Calls Try.prog 17 #[.slice (some ⟨b, off, none⟩) 84 cap, .int .i64 16] W fun e w' => e = .returned (.int .u32 x.group) ∧ w' = W := fun W h => by
      have := refnum_at 16 b off cap ys W (by omega) (by omega) hm hys hyb h
      rwa [f4] at this
    have m5 : ∀ W, Seg W (some ⟨b, off, none⟩) ys → Calls Try.prog 18 #[.slice (some ⟨b, off, none⟩) 84 cap, .int .i64 20] W fun e w' => e = .returned (.int .u64 x.size) ∧ w' = W := fun W h => by
      have := reflong_at 20 b off cap ys W (by omega) (by omega) hm hys hyb h
      rwa [f5] at this
    have m6 : ∀ W, Seg W (some ⟨b, off, none⟩) ys → Calls Try.prog 18 #[.slice (some ⟨b, off, none⟩) 84 cap, .int .i64 28] W fun e w' => e = .returned (.int .u64 x.used) ∧ w' = W := fun W h => by
      have := reflong_at 28 b off cap ys W (by omega) (by omega) hm hys hyb h
      rwa [f6] at this
    have m7 : ∀ W, Seg W (some ⟨b, off, none⟩) ys → Calls Try.prog 18 #[.slice (some ⟨b, off, none⟩) 84 cap, .int .i64 52] W fun e w' => e = .returned (.int .u64 x.id) ∧ w' = W := fun W h => by
      have := reflong_at 52 b off cap ys W (by omega) (by omega) hm hys hyb h
      rwa [f7] at this
    have m8 : ∀ W, Seg W (some ⟨b, off, none⟩) ys → Calls Try.prog 17 #[.slice (some ⟨b, off, none⟩) 84 cap, .int .i64 60] W fun e w' => e = .returned (.int .u32 x.rs) ∧ w' = W := fun W h => by
      have := refnum_at 60 b off cap ys W (by omega) (by omega) hm hys hyb h
      rwa [f8] at this
    have m9 : ∀ W, Seg W (some ⟨b, off, none⟩) ys → Calls Try.prog 17 #[.slice (some ⟨b, off, none⟩) 84 cap, .int .i64 64] W fun e w' => e = .returned (.int .u32 x.rn) ∧ w' = W := fun W h => by
      have := refnum_at 64 b off cap ys W (by omega) (by omega) hm hys hyb h
      rwa [f9] at this
    have m10 : ∀ W, Seg W (some ⟨b, off, none⟩) ys → Calls Try.prog 17 #[.slice (some ⟨b, off, none⟩) 84 cap, .int .i64 68] W fun e w' => e = .returned (.int .u32 x.ws) ∧ w' = W := fun W h => by
      have := refnum_at 68 b off cap ys W (by omega) (by omega) hm hys hyb h
      rwa [f10] at this
    have m11 : ∀ W, Seg W (some ⟨b, off, none⟩) ys → Calls Try.prog 17 #[.slice (some ⟨b, off, none⟩) 84 cap, .int .i64 72] W fun e w' => e = .returned (.int .u32 x.wn) ∧ w' = W := fun W h => by
      have := refnum_at 72 b off cap ys W (by omega) (by omega) hm hys hyb h
      rwa [f11] at this
    have m12 : ∀ W, Seg W (some ⟨b, off, none⟩) ys → Calls Try.prog 17 #[.slice (some ⟨b, off, none⟩) 84 cap, .int .i64 76] W fun e w' => e = .returned (.int .u32 x.ts) ∧ w' = W := fun W h => by
      have := refnum_at 76 b off cap ys W (by omega) (by omega) hm hys hyb h
      rwa [f12] at this
    have m13 : ∀ W, Seg W (some ⟨b, off, none⟩) ys → Calls Try.prog 17 #[.slice (some ⟨b, off, none⟩) 84 cap, .int .i64 80] W fun e w' => e = .returned (.int .u32 x.tn) ∧ w' = W := fun W h => by
      have := refnum_at 80 b off cap ys W (by omega) (by omega) hm hys hyb h
      rwa [f13] at this
    clear hx f0 f1 f2 f3 f4 f5 f6 f7 f8 f9 f10 f11 f12 f13
    go_enter Try.func9, Try.ntmps9
    go_wp2_with fail
    generalize w.alloc (.cells #[.int .u32 0, .int .u32 0, .int .u32 0, .int .u32 0, .int .u32 0, .int .u64 0, .int .u64 0, .int .u64 0, .int .u32 0, .int .u32 0, .int .u32 0, .int .u32 0, .int .u32 0, .int .u32 0] 31) = W1 at *
    refine (m0 _ (by first | exact hsy | exact hsy.below ((Below.refl _ _).alloc (Nat.le_refl _) _))).mono ?_
    rintro e w' ⟨rfl, hw'⟩
    subst w'
    clear m0
    go_wp2_with fail
    refine (m1 _ (by first | exact hsy | exact hsy.below ((Below.refl _ _).alloc (Nat.le_refl _) _))).mono ?_
    rintro e w' ⟨rfl, hw'⟩
    subst w'
    clear m1
    go_wp2_with fail
    refine (m2 _ (by first | exact hsy | exact hsy.below ((Below.refl _ _).alloc (Nat.le_refl _) _))).mono ?_
    rintro e w' ⟨rfl, hw'⟩
    subst w'
    clear m2
    go_wp2_with fail
    refine (m3 _ (by first | exact hsy | exact hsy.below ((Below.refl _ _).alloc (Nat.le_refl _) _))).mono ?_
    rintro e w' ⟨rfl, hw'⟩
    subst w'
    clear m3
    go_wp2_with fail
    refine (m4 _ (by first | exact hsy | exact hsy.below ((Below.refl _ _).alloc (Nat.le_refl _) _))).mono ?_
    rintro e w' ⟨rfl, hw'⟩
    subst w'
    clear m4
    go_wp2_with fail
    refine (m5 _ (by first | exact hsy | exact hsy.below ((Below.refl _ _).alloc (Nat.le_refl _) _))).mono ?_
    rintro e w' ⟨rfl, hw'⟩
    subst w'
    clear m5
    go_wp2_with fail
    refine (m6 _ (by first | exact hsy | exact hsy.below ((Below.refl _ _).alloc (Nat.le_refl _) _))).mono ?_
    rintro e w' ⟨rfl, hw'⟩
    subst w'
    clear m6
    go_wp2_with fail
    refine (m7 _ (by first | exact hsy | exact hsy.below ((Below.refl _ _).alloc (Nat.le_refl _) _))).mono ?_
    rintro e w' ⟨rfl, hw'⟩
    subst w'
    clear m7
    go_wp2_with fail
    refine (m8 _ (by first | exact hsy | exact hsy.below ((Below.refl _ _).alloc (Nat.le_refl _) _))).mono ?_
    rintro e w' ⟨rfl, hw'⟩
    subst w'
    clear m8
    go_wp2_with fail
    refine (m9 _ (by first | exact hsy | exact hsy.below ((Below.refl _ _).alloc (Nat.le_refl _) _))).mono ?_
    rintro e w' ⟨rfl, hw'⟩
    subst w'
    clear m9
    go_wp2_with fail
    refine (m10 _ (by first | exact hsy | exact hsy.below ((Below.refl _ _).alloc (Nat.le_refl _) _))).mono ?_
    rintro e w' ⟨rfl, hw'⟩
    subst w'
    clear m10
    go_wp2_with fail
    refine (m11 _ (by first | exact hsy | exact hsy.below ((Below.refl _ _).alloc (Nat.le_refl _) _))).mono ?_
    rintro e w' ⟨rfl, hw'⟩
    subst w'
    clear m11
    go_wp2_with fail
    refine (m12 _ (by first | exact hsy | exact hsy.below ((Below.refl _ _).alloc (Nat.le_refl _) _))).mono ?_
    rintro e w' ⟨rfl, hw'⟩
    subst w'
    clear m12
    go_wp2_with fail
    refine (m13 _ (by first | exact hsy | exact hsy.below ((Below.refl _ _).alloc (Nat.le_refl _) _))).mono ?_
    rintro e w' ⟨rfl, hw'⟩
    subst w'
    clear m13
    have a2 := Ap.new W1 x
    have hB2 := hB1.alloc hB1.size (.cells #[.int .u32 x.kind, .int .u32 x.mode, .int .u32 x.links, .int .u32 x.user, .int .u32 x.group, .int .u64 x.size, .int .u64 x.used, .int .u64 x.id, .int .u32 x.rs, .int .u32 x.rn, .int .u32 x.ws, .int .u32 x.wn, .int .u32 x.ts, .int .u32 x.tn] 31)
    have z2 := (((Below.refl W1.heap.size W1).alloc (Nat.le_refl _) (.cells #[.int .u32 x.kind, .int .u32 x.mode, .int .u32 x.links, .int .u32 x.user, .int .u32 x.group, .int .u64 x.size, .int .u64 x.used, .int .u64 x.id, .int .u32 x.rs, .int .u32 x.rn, .int .u32 x.ws, .int .u32 x.wn, .int .u32 x.ts, .int .u32 x.tn] 31)).block _ (Array.getElem?_eq_some_iff.1 z1).1).trans z1
    have hs2 := hsy.below ((Below.refl _ _).alloc (Nat.le_refl _) (.cells #[.int .u32 x.kind, .int .u32 x.mode, .int .u32 x.links, .int .u32 x.user, .int .u32 x.group, .int .u64 x.size, .int .u64 x.used, .int .u64 x.id, .int .u32 x.rs, .int .u32 x.rn, .int .u32 x.ws, .int .u32 x.wn, .int .u32 x.ts, .int .u32 x.tn] 31))
    have k1 := fun W => refmay_any x W
    have k2 := fun W => refbytes_any x W hin
    clear hsy
    go_wp2_with fail
    generalize W1.alloc (.cells #[.int .u32 x.kind, .int .u32 x.mode, .int .u32 x.links, .int .u32 x.user, .int .u32 x.group, .int .u64 x.size, .int .u64 x.used, .int .u64 x.id, .int .u32 x.rs, .int .u32 x.rn, .int .u32 x.ws, .int .u32 x.wn, .int .u32 x.ts, .int .u32 x.tn] 31) = W2 at *
    generalize W1.heap.size = h2 at *
    have hdr : Below W2.heap.size W2 W2.drew := ⟨rfl, rfl, rfl, Nat.le_refl _, fun _ _ => rfl⟩
    have z3 := (hdr.block _ (Array.getElem?_eq_some_iff.1 z2).1).trans z2
    have a3 := a2.next hdr
    have hB3 := hB2.trans (hdr.mono hB2.size)
    have hs3 := hs2.below hdr
    have t3 := seg_text (cap := cap) hs3 hys (by decide)
    have S3 := And.intro t3 a3.c
    clear hB1 z1 z2 a2 hB2 hs2 hdr
    cases hmay : amay x with
    | false =>
      rw [hmay] at k1
      obtain ⟨rfl, rfl, rfl⟩ := hbad (by rw [hmay, Bool.and_false])
      clear hgood hbad hsame k2
      refine wp_region_noPanic ?_
      refine wp_region_held_drew (S := fun w' => (convert 22 9 (.slice (some ⟨b, off, none⟩) 84 cap)).run Try.prog w' = .ok (.string (strOfNums ys)) w' ∧ w'.cell? ⟨h2, 0, none⟩ = some (.int .u32 x.kind) ∧ w'.cell? ⟨h2, 1, none⟩ = some (.int .u32 x.mode) ∧ w'.cell? ⟨h2, 2, none⟩ = some (.int .u32 x.links) ∧ w'.cell? ⟨h2, 3, none⟩ = some (.int .u32 x.user) ∧ w'.cell? ⟨h2, 4, none⟩ = some (.int .u32 x.group) ∧ w'.cell? ⟨h2, 5, none⟩ = some (.int .u64 x.size) ∧ w'.cell? ⟨h2, 6, none⟩ = some (.int .u64 x.used) ∧ w'.cell? ⟨h2, 7, none⟩ = some (.int .u64 x.id) ∧ w'.cell? ⟨h2, 8, none⟩ = some (.int .u32 x.rs) ∧ w'.cell? ⟨h2, 9, none⟩ = some (.int .u32 x.rn) ∧ w'.cell? ⟨h2, 10, none⟩ = some (.int .u32 x.ws) ∧ w'.cell? ⟨h2, 11, none⟩ = some (.int .u32 x.wn) ∧ w'.cell? ⟨h2, 12, none⟩ = some (.int .u32 x.ts) ∧ w'.cell? ⟨h2, 13, none⟩ = some (.int .u32 x.tn)) (by kernel_rfl) (by assumption) (fun hHeld => ?_)
      refine wpAnyH_take (i := 0) (v := ?v0) rfl (by kernel_rfl) (by kernel_rfl) (by kernel_rfl) (fun _ _ _ h => h) (Or.inl ⟨by rfl, ?y0⟩) (by assumption) ?r0
      case y0 => intro w hSw; go_simp; first | done | with_reducible rfl
      simp only [Act.put, List.getElem_toArray, List.getElem_cons_zero, List.getElem_cons_succ, List.setIfInBounds_toArray, List.set_cons_zero, List.set_cons_succ]
      refine wpAnyH_ready (rs := [1]) (by kernel_rfl) (by simp) ?_
      refine AllReadyH.cons rfl (fun K hK => ?_) AllReadyH.nil
      go_simp
      refine (k1 _).mono ?_; rintro e W4 ⟨rfl, hb4⟩; have a4 := a3.next hb4; have hB4 := hB3.trans (hb4.mono hB3.size); have hs4 := hs3.below hb4; have t4 := seg_text (cap := cap) hs4 hys (by decide); have S4 := And.intro t4 a4.c; have z4 := (hb4.block _ (Array.getElem?_eq_some_iff.1 z3).1).trans z3
      go_wp2_with fail
      refine hK.out _ _ (by assumption) (fun hHeld => ?_)
      clear hK K
      try simp only [Act.put, List.getElem_toArray, List.getElem_cons_zero, List.getElem_cons_succ, List.setIfInBounds_toArray, List.set_cons_zero, List.set_cons_succ]
      refine wpAnyH_take (i := 2) (v := ?v2) rfl (by kernel_rfl) (by kernel_rfl) (by kernel_rfl) (fun _ _ _ h => h) (Or.inl ⟨by rfl, ?y2⟩) (by assumption) ?r2
      case y2 => intro w hSw; go_simp; first | done | with_reducible rfl
      simp only [Act.put, List.getElem_toArray, List.getElem_cons_zero, List.getElem_cons_succ, List.setIfInBounds_toArray, List.set_cons_zero, List.set_cons_succ]
      refine wpAnyH_take (i := 3) (v := ?v3) rfl (by kernel_rfl) (by kernel_rfl) (by kernel_rfl) (fun _ _ _ h => h) (Or.inl ⟨by rfl, ?y3⟩) (by assumption) ?r3
      case y3 => intro w hSw; go_simp; first | done | with_reducible rfl
      simp only [Act.put, List.getElem_toArray, List.getElem_cons_zero, List.getElem_cons_succ, List.setIfInBounds_toArray, List.set_cons_zero, List.set_cons_succ]
      refine wpAnyH_take (i := 4) (v := undef) rfl (by kernel_rfl) (by kernel_rfl) (by kernel_rfl) (fun _ _ _ h => h) (Or.inr ⟨by rfl, rfl⟩) (by assumption) ?_
      simp only [Act.put, List.getElem_toArray, List.getElem_cons_zero, List.getElem_cons_succ, List.setIfInBounds_toArray, List.set_cons_zero, List.set_cons_succ]
      refine wpAnyH_take (i := 5) (v := undef) rfl (by kernel_rfl) (by kernel_rfl) (by kernel_rfl) (fun _ _ _ h => h) (Or.inr ⟨by rfl, rfl⟩) (by assumption) ?_
      simp only [Act.put, List.getElem_toArray, List.getElem_cons_zero, List.getElem_cons_succ, List.setIfInBounds_toArray, List.set_cons_zero, List.set_cons_succ]
      refine wpAnyH_take (i := 6) (v := undef) rfl (by kernel_rfl) (by kernel_rfl) (by kernel_rfl) (fun _ _ _ h => h) (Or.inr ⟨by rfl, rfl⟩) (by assumption) ?_
      simp only [Act.put, List.getElem_toArray, List.getElem_cons_zero, List.getElem_cons_succ, List.setIfInBounds_toArray, List.set_cons_zero, List.set_cons_succ]
      refine wpAnyH_take (i := 7) (v := undef) rfl (by kernel_rfl) (by kernel_rfl) (by kernel_rfl) (fun _ _ _ h => h) (Or.inr ⟨by rfl, rfl⟩) (by assumption) ?_
      simp only [Act.put, List.getElem_toArray, List.getElem_cons_zero, List.getElem_cons_succ, List.setIfInBounds_toArray, List.set_cons_zero, List.set_cons_succ]
      refine wpAnyH_take (i := 8) (v := undef) rfl (by kernel_rfl) (by kernel_rfl) (by kernel_rfl) (fun _ _ _ h => h) (Or.inr ⟨by rfl, rfl⟩) (by assumption) ?_
      simp only [Act.put, List.getElem_toArray, List.getElem_cons_zero, List.getElem_cons_succ, List.setIfInBounds_toArray, List.set_cons_zero, List.set_cons_succ]
      refine wpAnyH_take (i := 9) (v := undef) rfl (by kernel_rfl) (by kernel_rfl) (by kernel_rfl) (fun _ _ _ h => h) (Or.inr ⟨by rfl, rfl⟩) (by assumption) ?_
      simp only [Act.put, List.getElem_toArray, List.getElem_cons_zero, List.getElem_cons_succ, List.setIfInBounds_toArray, List.set_cons_zero, List.set_cons_succ]
      refine wpAnyH_take (i := 10) (v := ?v10) rfl (by kernel_rfl) (by kernel_rfl) (by kernel_rfl) (fun _ _ _ h => h) (Or.inl ⟨by rfl, ?y10⟩) (by assumption) ?r10
      case y10 => intro w hSw; go_simp; first | done | with_reducible rfl
      simp only [Act.put, List.getElem_toArray, List.getElem_cons_zero, List.getElem_cons_succ, List.setIfInBounds_toArray, List.set_cons_zero, List.set_cons_succ]
      refine wpAnyH_done (by kernel_rfl) ?_ _
      refine NoPanic.normal ?_
      clear S3 S4 a3 a4 t3 t4 hs3 hs4 hb4 hB3 z3 k1
      go_wp2_with (refine wpList_store_whole rfl _ _ _ rfl w.heap.size _ rfl rfl 31 _ z4 a_info rfl (by simp [Value.oneCell']) ?_; intro W5 hr5 hg5 hs5)
      exact bodyPost_ret (results_row_tmp2 (p := 2) (u := 3) (v := 4) (ty := 31) rfl _ _ w.heap.size 31 _ (0, 0) _ (by rfl) hr5 Try.underlying31 rfl (by kernel_rfl)) rfl ⟨zeroA, rfl, rfl, hB4.grown hg5 hB4.size (fun k e => by cases e; omega)⟩
    | true =>
      rw [hmay] at k1
      have hcmp := str_alike (byt_aB x) hyb
      have hlen := aB_length x
      cases hal : decide (aB x = ys) with
      | false =>
        rw [hal] at hcmp
        have hmid : midRaw (rawOf ys) = false := by
          cases h : midRaw (rawOf ys) with
          | false => rfl
          | true => rw [decide_eq_false_iff_not] at hal; exact absurd (hsame.2 h) hal
        obtain ⟨rfl, rfl, rfl⟩ := hbad (by rw [hmid]; rfl)
        clear hgood hbad hsame hmid hal
        generalize aB x = xs at *
        go_region_held (fun w' => (convert 22 9 (.slice (some ⟨b, off, none⟩) 84 cap)).run Try.prog w' = .ok (.string (strOfNums ys)) w' ∧ w'.cell? ⟨h2, 0, none⟩ = some (.int .u32 x.kind) ∧ w'.cell? ⟨h2, 1, none⟩ = some (.int .u32 x.mode) ∧ w'.cell? ⟨h2, 2, none⟩ = some (.int .u32 x.links) ∧ w'.cell? ⟨h2, 3, none⟩ = some (.int .u32 x.user) ∧ w'.cell? ⟨h2, 4, none⟩ = some (.int .u32 x.group) ∧ w'.cell? ⟨h2, 5, none⟩ = some (.int .u64 x.size) ∧ w'.cell? ⟨h2, 6, none⟩ = some (.int .u64 x.used) ∧ w'.cell? ⟨h2, 7, none⟩ = some (.int .u64 x.id) ∧ w'.cell? ⟨h2, 8, none⟩ = some (.int .u32 x.rs) ∧ w'.cell? ⟨h2, 9, none⟩ = some (.int .u32 x.rn) ∧ w'.cell? ⟨h2, 10, none⟩ = some (.int .u32 x.ws) ∧ w'.cell? ⟨h2, 11, none⟩ = some (.int .u32 x.wn) ∧ w'.cell? ⟨h2, 12, none⟩ = some (.int .u32 x.ts) ∧ w'.cell? ⟨h2, 13, none⟩ = some (.int .u32 x.tn)) (first | with_reducible exact S5 | with_reducible exact S4 | with_reducible exact S3) (first
          | (go_at_call 20; refine (k2 _).mono ?_; rintro e W5 ⟨G, c, rfl, -, -, ho5, hb5⟩; have a5 := a4.next hb5; have hB5 := hB4.trans (hb5.mono hB4.size); have t5 := seg_text (cap := cap) (hs4.below hb5) hys (by decide); have u5 := seg_text (cap := c) (seg_own ho5 hlen) hlen (by decide); have S5 := And.intro t5 a5.c; have z5 := (hb5.block _ (Array.getElem?_eq_some_iff.1 z4).1).trans z4)
          | (go_at_call 19; refine (k1 _).mono ?_; rintro e W4 ⟨rfl, hb4⟩; have a4 := a3.next hb4; have hB4 := hB3.trans (hb4.mono hB3.size); have hs4 := hs3.below hb4; have t4 := seg_text (cap := cap) hs4 hys (by decide); have S4 := And.intro t4 a4.c; have z4 := (hb4.block _ (Array.getElem?_eq_some_iff.1 z3).1).trans z3))
        all_goals
          clear S3 S4 S5 a3 a4 a5 t3 t4 t5 u5 hs3 hs4 hb4 hb5 hB3 hB4 z3 z4 k1 k2 ho5
          go_wp2_with (refine wpList_store_whole rfl _ _ _ rfl w.heap.size _ rfl rfl 31 _ z5 a_info rfl (by simp [Value.oneCell']) ?_; intro W6 hr6 hg6 hs6)
          exact bodyPost_ret (results_row_tmp2 (p := 2) (u := 3) (v := 4) (ty := 31) rfl _ _ w.heap.size 31 _ (0, 0) _ (by rfl) hr6 Try.underlying31 rfl (by kernel_rfl)) rfl ⟨zeroA, rfl, rfl, hB5.grown hg6 hB5.size (fun k e => by cases e; omega)⟩
      | true =>
        rw [hal] at hcmp
        have hmid : midRaw (rawOf ys) = true := hsame.1 (of_decide_eq_true hal)
        obtain ⟨rfl, rfl, rfl⟩ := hgood (by rw [hmid, hmay]; rfl)
        clear hgood hbad hsame hmid hal
        generalize aB V = xs at *
        go_region_held (fun w' => (convert 22 9 (.slice (some ⟨b, off, none⟩) 84 cap)).run Try.prog w' = .ok (.string (strOfNums ys)) w' ∧ w'.cell? ⟨h2, 0, none⟩ = some (.int .u32 V.kind) ∧ w'.cell? ⟨h2, 1, none⟩ = some (.int .u32 V.mode) ∧ w'.cell? ⟨h2, 2, none⟩ = some (.int .u32 V.links) ∧ w'.cell? ⟨h2, 3, none⟩ = some (.int .u32 V.user) ∧ w'.cell? ⟨h2, 4, none⟩ = some (.int .u32 V.group) ∧ w'.cell? ⟨h2, 5, none⟩ = some (.int .u64 V.size) ∧ w'.cell? ⟨h2, 6, none⟩ = some (.int .u64 V.used) ∧ w'.cell? ⟨h2, 7, none⟩ = some (.int .u64 V.id) ∧ w'.cell? ⟨h2, 8, none⟩ = some (.int .u32 V.rs) ∧ w'.cell? ⟨h2, 9, none⟩ = some (.int .u32 V.rn) ∧ w'.cell? ⟨h2, 10, none⟩ = some (.int .u32 V.ws) ∧ w'.cell? ⟨h2, 11, none⟩ = some (.int .u32 V.wn) ∧ w'.cell? ⟨h2, 12, none⟩ = some (.int .u32 V.ts) ∧ w'.cell? ⟨h2, 13, none⟩ = some (.int .u32 V.tn)) (first | with_reducible exact S5 | with_reducible exact S4 | with_reducible exact S3) (first
          | (go_at_call 20; refine (k2 _).mono ?_; rintro e W5 ⟨G, c, rfl, -, -, ho5, hb5⟩; have a5 := a4.next hb5; have hB5 := hB4.trans (hb5.mono hB4.size); have t5 := seg_text (cap := cap) (hs4.below hb5) hys (by decide); have u5 := seg_text (cap := c) (seg_own ho5 hlen) hlen (by decide); have S5 := And.intro t5 a5.c; have z5 := (hb5.block _ (Array.getElem?_eq_some_iff.1 z4).1).trans z4)
          | (go_at_call 19; refine (k1 _).mono ?_; rintro e W4 ⟨rfl, hb4⟩; have a4 := a3.next hb4; have hB4 := hB3.trans (hb4.mono hB3.size); have hs4 := hs3.below hb4; have t4 := seg_text (cap := cap) hs4 hys (by decide); have S4 := And.intro t4 a4.c; have z4 := (hb4.block _ (Array.getElem?_eq_some_iff.1 z3).1).trans z3))
        all_goals
          obtain ⟨c0, c1, c2, c3, c4, c5, c6, c7, c8, c9, c10, c11, c12, c13⟩ := a5.c
          clear S3 S4 S5 a3 a4 a5 t3 t4 t5 u5 hs3 hs4 hb4 hb5 hB3 hB4 z3 z4 k1 k2 ho5
          go_wp2_with (refine wpList_store_whole rfl _ _ _ rfl w.heap.size _ rfl rfl 31 _ z5 a_info rfl (by simp [Value.oneCell']) ?_; intro W6 hr6 hg6 hs6)
          exact bodyPost_ret (results_row_tmp2 (p := 2) (u := 3) (v := 4) (ty := 31) rfl _ _ w.heap.size 31 _ (0, 0) _ (by rfl) hr6 Try.underlying31 rfl (by kernel_rfl)) rfl ⟨V, rfl, rfl, hB5.grown hg6 hB5.size (fun k e => by cases e; omega)⟩
end Go.Proofs.Ytecbhhfncklefaa
