/- 'told' of the program: a handle's bytes as an array; nothing that was there turns. -/
import Derived.Test.YtcpciodcecpibaaDoorHSum
import Derived.Test.YtcpciodcecpibaaDoorPut4
import Derived.Test.YtcpciodcecpibaaDoorBookBase
import Derived.Test.YtcpciodcecpibaaDoorStoreWhole
import Derived.Laws.CopyOwn
import Derived.Laws.Rows
import Derived.Lib.LazyBuf
import Derived.Deep.RegionLaw
import Derived.Deep.RegionHeld3
namespace Go.Proofs.YtcpciodcecpibaaDoor
set_option linter.unusedVariables false
open Go.RowKit

/-- Bytes as cells. -/
def vz (zs : List Int) : List Value := zs.map (Value.int .u8)
theorem vz_length (zs : List Int) : (vz zs).length = zs.length := List.length_map _
theorem vz_one (zs : List Int) : ∀ v ∈ vz zs, v.oneCell' = true := news_one zs

theorem four (x : Int) : ∃ a b c d, bytesOf x 4 = [a, b, c, d] := ⟨_, _, _, _, rfl⟩

theorem vz4 (x : Int) : (vz (bytesOf x 4)).length = 4 := (vz_length _).trans (bytesOf_length x 4)

/-- The array behind each copy. -/
def tt0 : List Int := [119, 104, 114, 102, 0, 0, 0, 0, 0, 0, 0, 0, 0, 0, 0, 0]
def tt1 (n : Int) : List Int := [119, 104, 114, 102] ++ (bytesOf n 4 ++ [0, 0, 0, 0, 0, 0, 0, 0])
def tt2 (n g : Int) : List Int := hd n g ++ [0, 0, 0, 0]
theorem tt1_len (n : Int) : (vz (tt1 n)).length = 16 := by simp [vz_length, tt1, bytesOf_length]
theorem tt2_len (n g : Int) : (vz (tt2 n g)).length = 16 := by simp [vz_length, tt2, hd_length]
theorem tt2_take (n g : Int) : (tt2 n g).take 12 = hd n g := by
  unfold tt2
  rw [List.take_append_of_le_length (by rw [hd_length]; omega), List.take_of_length_le (by rw [hd_length]; omega)]
theorem tt_1 (n : Int) : splice (vz tt0) 4 (vz (bytesOf n 4)) = vz (tt1 n) := by
  obtain ⟨a, b, c, d, e⟩ := four n
  unfold tt1
  rw [e]
  rfl
theorem tt_2 (n g : Int) : splice (vz (tt1 n)) 8 (vz (bytesOf g 4)) = vz (tt2 n g) := by
  obtain ⟨a, b, c, d, e⟩ := four n
  obtain ⟨a', b', c', d', e'⟩ := four g
  unfold tt1 tt2 hd
  rw [e, e']
  rfl
theorem tt_3 (n g : Int) : splice (vz (tt2 n g)) 12 (vz (bytesOf (sumZ (hd n g)) 4)) = vz (hB n g) := by
  unfold tt2 hB
  generalize sumZ (hd n g) = s
  obtain ⟨a, b, c, d, e⟩ := four n
  obtain ⟨a', b', c', d', e'⟩ := four g
  obtain ⟨a2, b2, c2, d2, e2⟩ := four s
  unfold hd
  rw [e, e', e2]
  rfl

theorem text_laid {w : World} {k : Nat} {t : TypeId} (h : w.heap[k]? = some (.cells #[.int .u8 0, .int .u8 0, .int .u8 0, .int .u8 0, .int .u8 0, .int .u8 0, .int .u8 0, .int .u8 0, .int .u8 0, .int .u8 0, .int .u8 0, .int .u8 0, .int .u8 0, .int .u8 0, .int .u8 0, .int .u8 0] t)) :
    (w.setCells k 0 ((⟨#[119, 104, 114, 102]⟩ : ByteArray).data.toList.map fun x => Value.int .u8 (x.toNat : Int))).heap[k]? = some (.cells (vz tt0).toArray t) := by
  have h1 := setCell_same (k := 0) h (.int .u8 119)
  have h2 := setCell_same (k := 1) h1 (.int .u8 104)
  have h3 := setCell_same (k := 2) h2 (.int .u8 114)
  have h4 := setCell_same (k := 3) h3 (.int .u8 102)
  exact h4

/-- Where 'told' stands: the handle, the answer's place, the array. -/
structure Ht (w W : World) (n g : Int) (cur : List Value) : Prop where
  h : W.heap[w.heap.size]? = some (.cells #[.int .i64 n, .int .u32 g] 24)
  res : W.heap[w.heap.size + 1]? = some (.cells #[.int .u8 0, .int .u8 0, .int .u8 0, .int .u8 0, .int .u8 0, .int .u8 0, .int .u8 0, .int .u8 0, .int .u8 0, .int .u8 0, .int .u8 0, .int .u8 0, .int .u8 0, .int .u8 0, .int .u8 0, .int .u8 0] 44)
  all : W.heap[w.heap.size + 2]? = some (.cells cur.toArray 44)
  below : Below w.heap.size w W

theorem Ht.lt {w W : World} {n g : Int} {cur : List Value} (h : Ht w W n g cur) : w.heap.size + 2 < W.heap.size := (Array.getElem?_eq_some_iff.1 h.all).1
theorem Ht.next {w W W' : World} {n g : Int} {cur : List Value} (h : Ht w W n g cur) (hb : Below W.heap.size W W') : Ht w W' n g cur :=
  have hl := h.lt
  ⟨(hb.block _ (by omega)).trans h.h, (hb.block _ (by omega)).trans h.res, (hb.block _ (by omega)).trans h.all, h.below.trans (hb.mono h.below.size)⟩
theorem Ht.far {w W W' : World} {n g : Int} {cur : List Value} {d : Nat} (h : Ht w W n g cur) (hb : Below d W W') (hd : w.heap.size + 2 < d) : Ht w W' n g cur :=
  ⟨(hb.block _ (by omega)).trans h.h, (hb.block _ (by omega)).trans h.res, (hb.block _ hd).trans h.all, h.below.trans (hb.mono (by omega))⟩
theorem Ht.put {w W W' : World} {n g : Int} {cur cur' : List Value} (h : Ht w W n g cur) (hb : Below (w.heap.size + 2) W W') (hc : W'.heap[w.heap.size + 2]? = some (.cells cur'.toArray 44)) : Ht w W' n g cur' :=
  ⟨(hb.block _ (by omega)).trans h.h, (hb.block _ (by omega)).trans h.res, hc, h.below.trans (hb.mono (by omega))⟩
theorem Ht.seg {w W : World} {n g : Int} {zs : List Int} (h : Ht w W n g (vz zs)) : Seg W (some ⟨w.heap.size + 2, 0, none⟩) zs := by
  refine .inr ⟨_, _, rfl, fun i hi => ?_⟩
  simp only [World.cell?, h.all]
  simp [vz, List.getElem?_eq_getElem hi]

/-- Three new blocks. -/
theorem three_new (w : World) (o1 o2 o3 : Obj) : (((w.alloc o1).alloc o2).alloc o3).heap[w.heap.size]? = some o1 ∧ (((w.alloc o1).alloc o2).alloc o3).heap[w.heap.size + 1]? = some o2 ∧
    (((w.alloc o1).alloc o2).alloc o3).heap[w.heap.size + 2]? = some o3 ∧ Below w.heap.size w (((w.alloc o1).alloc o2).alloc o3) ∧ (((w.alloc o1).alloc o2).alloc o3).heap.size = w.heap.size + 3 := by
  have s1 : (w.alloc o1).heap.size = w.heap.size + 1 := by simp
  have s2 : ((w.alloc o1).alloc o2).heap.size = w.heap.size + 2 := by simp
  have b2 : Below (w.alloc o1).heap.size (w.alloc o1) ((w.alloc o1).alloc o2) := (Below.refl _ _).alloc (Nat.le_refl _) _
  have b3 : Below ((w.alloc o1).alloc o2).heap.size ((w.alloc o1).alloc o2) (((w.alloc o1).alloc o2).alloc o3) := (Below.refl _ _).alloc (Nat.le_refl _) _
  refine ⟨?_, ?_, ?_, ((((Below.refl _ _).alloc (Nat.le_refl _) _).trans (b2.mono (by omega))).trans (b3.mono (by omega))), by simp⟩
  · exact (b3.block _ (by omega)).trans ((b2.block _ (by omega)).trans (World.alloc_heap_new w o1))
  · have := World.alloc_heap_new (w.alloc o1) o2
    rw [s1] at this
    exact (b3.block _ (by omega)).trans this
  · have := World.alloc_heap_new ((w.alloc o1).alloc o2) o3
    rwa [s2] at this

theorem ht_start (w : World) (n g : Int) : Ht w (((w.alloc (.cells #[.int .i64 n, .int .u32 g] 24)).alloc (.cells #[.int .u8 0, .int .u8 0, .int .u8 0, .int .u8 0, .int .u8 0, .int .u8 0, .int .u8 0, .int .u8 0, .int .u8 0, .int .u8 0, .int .u8 0, .int .u8 0, .int .u8 0, .int .u8 0, .int .u8 0, .int .u8 0] 44)).alloc (.cells #[.int .u8 0, .int .u8 0, .int .u8 0, .int .u8 0, .int .u8 0, .int .u8 0, .int .u8 0, .int .u8 0, .int .u8 0, .int .u8 0, .int .u8 0, .int .u8 0, .int .u8 0, .int .u8 0, .int .u8 0, .int .u8 0] 44)) n g (#[.int .u8 0, .int .u8 0, .int .u8 0, .int .u8 0, .int .u8 0, .int .u8 0, .int .u8 0, .int .u8 0, .int .u8 0, .int .u8 0, .int .u8 0, .int .u8 0, .int .u8 0, .int .u8 0, .int .u8 0, .int .u8 0] : Array Value).toList :=
  have h := three_new w (.cells #[.int .i64 n, .int .u32 g] 24) (.cells #[.int .u8 0, .int .u8 0, .int .u8 0, .int .u8 0, .int .u8 0, .int .u8 0, .int .u8 0, .int .u8 0, .int .u8 0, .int .u8 0, .int .u8 0, .int .u8 0, .int .u8 0, .int .u8 0, .int .u8 0, .int .u8 0] 44) (.cells #[.int .u8 0, .int .u8 0, .int .u8 0, .int .u8 0, .int .u8 0, .int .u8 0, .int .u8 0, .int .u8 0, .int .u8 0, .int .u8 0, .int .u8 0, .int .u8 0, .int .u8 0, .int .u8 0, .int .u8 0, .int .u8 0] 44)
  ⟨h.1, h.2.1, by rw [Array.toArray_toList]; exact h.2.2.1, h.2.2.2.1⟩

theorem infoT : (Tryd.prog.info? 5).map (·.size) = some 1 := by kernel_rfl
set_option maxRecDepth 100000 in
theorem size_u8 (w : World) : (Go.sizeOf 5).run Tryd.prog w = .ok 1 w := rfl

/-- 'copy(all[:], "whrf")', as a law for the walk: the world behind it is a letter. -/
theorem wpList_copy_whrf {w : World} {ops : Array Oper} {rest : List Oper} {o : Oper} {a : Act} {Q : Exit → Act → World → Prop} (hgd : o.guard = none) (d s : Operand)
    (ho : o.op = .call { callee := .builtin .copy, args := #[d, s], argTypes := #[25, 9] }) (g : Nat) (hd : a.eval d = .slice (some ⟨g, 0, none⟩) 16 16) (hs : a.eval s = .string ⟨#[119, 104, 114, 102]⟩)
    (t : TypeId) (hg : w.heap[g]? = some (.cells #[.int .u8 0, .int .u8 0, .int .u8 0, .int .u8 0, .int .u8 0, .int .u8 0, .int .u8 0, .int .u8 0, .int .u8 0, .int .u8 0, .int .u8 0, .int .u8 0, .int .u8 0, .int .u8 0, .int .u8 0, .int .u8 0] t))
    (h : ∀ w', w'.heap[g]? = some (.cells (vz tt0).toArray t) → Below g w w' → wpList Tryd.prog ops Q rest (a.put o.dst (goInt 4)) w') : wpList Tryd.prog ops Q (o :: rest) a w := by
  have hrun := Go.run_copy_string (P := Tryd.prog) w 25 9 o.type 5 g 0 16 16 ⟨#[119, 104, 114, 102]⟩ Tryd.underlying25 size_u8 (by decide)
    (fun j hj => by
      simp only [World.cell?, hg]
      match j, hj with
      | 0, _ => rfl
      | 1, _ => rfl
      | 2, _ => rfl
      | 3, _ => rfl)
    (fun j hj => by simp [World.frozen?, hg])
  refine wpList_plain hgd fun K hK => ?_
  unfold Oper.wp
  simp [execOp, ho, resolve, invoke, builtin, hd, hs, hrun, Result.andThen]
  exact hK _ _ (h _ (text_laid hg) (Go.below_setCells (Nat.le_refl _) _ _ _ (Below.refl _ _)))

set_option maxRecDepth 100000 in
set_option maxHeartbeats 2000000 in
theorem htold_any (n g : Int) (w : World) (h0 : 1 ≤ n) (h1 : n ≤ 1024) (h2 : 0 ≤ g) (h3 : g ≤ 4294967295) :
    Calls Tryd.prog 10 #[.agg #[.int .i64 n, .int .u32 g]] w fun e w' => e = .returned (.agg (vz (hB n g)).toArray) ∧ Below w.heap.size w w' := by
  have H0 := ht_start w n g
  go_enter Tryd.func10, Tryd.ntmps10
  go_wp2_with (refine wpList_copy_whrf rfl _ _ rfl (w.heap.size + 1 + 1) rfl rfl 44 H0.all ?_; intro W1 hc1 hb1; have H1 := H0.put hb1 hc1; clear hc1 hb1)
  clear H0
  have hcv : IntKind.u32.wrap n = n := by rw [IntKind.wrap_u32']; omega
  have D1 : Below W1.heap.size W1 W1.drew := ⟨rfl, rfl, rfl, Nat.le_refl _, fun _ _ => rfl⟩
  have H1' := H1.next D1
  have hl1 := H1.lt
  have S1 : W1.drew.cell? ⟨w.heap.size, 0, none⟩ = some (.int .i64 n) := by simp [World.cell?, H1'.h]
  go_region_held3 (fun w' => w'.cell? ⟨w.heap.size, 0, none⟩ = some (.int .i64 n)) (first | with_reducible exact S1 | with_reducible exact S2 | with_reducible exact S3) (first
    | (refine step_copy_splice (by rfl) _ _ _ _ (by rfl) 5 Tryd.underlying25 infoT _ _ 12 12 4 4 (by rfl) (by rfl) (w.heap.size + 2) 4 (vz tt0) 44 H2.all (vz (bytesOf n 4)) (vz4 n) (fun _ => ⟨rfl, _, rfl, seg_news (seg_own hown2 (bytesOf_length n 4))⟩) (by rw [vz4 n]; decide) (vz_one _) (w.heap.size + 2) W2 (Below.refl _ _) (Nat.le_refl _) ?_; intro W3 hg3 hb3; have H3 : Ht w W3 n g (vz (tt1 n)) := H2.put hb3 (by rw [← tt_1]; exact hg3.out); have S3 : W3.cell? ⟨w.heap.size, 0, none⟩ = some (.int .i64 n) := by simp [World.cell?, H3.h])
    | (go_at_call 35; refine (Put_any n (by omega) (by omega) _).mono ?_; rintro e W2 ⟨rfl, hown2, hbP2⟩; have H2 := H1'.next hbP2; have S2 : W2.cell? ⟨w.heap.size, 0, none⟩ = some (.int .i64 n) := by simp [World.cell?, H2.h]))
  all_goals
    clear S1 S2 S3 H1 H1' H2 D1 hl1 hown2 hbP2 hb3 hg3 hcv
    go_wp2_with fail
    have D3 : Below W3.heap.size W3 W3.drew := ⟨rfl, rfl, rfl, Nat.le_refl _, fun _ _ => rfl⟩
    have H3' := H3.next D3
    have S1 : W3.drew.cell? ⟨w.heap.size, 1, none⟩ = some (.int .u32 g) := by simp [World.cell?, H3'.h]
    go_region_held3 (fun w' => w'.cell? ⟨w.heap.size, 1, none⟩ = some (.int .u32 g)) (first | with_reducible exact S1 | with_reducible exact S2 | with_reducible exact S3) (first
      | (refine step_copy_splice (by rfl) _ _ _ _ (by rfl) 5 Tryd.underlying25 infoT _ _ 8 8 4 4 (by rfl) (by rfl) (w.heap.size + 2) 8 (vz (tt1 n)) 44 H4.all (vz (bytesOf g 4)) (vz4 g) (fun _ => ⟨rfl, _, rfl, seg_news (seg_own hown4 (bytesOf_length g 4))⟩) (by rw [vz4 g, tt1_len n]; decide) (vz_one _) (w.heap.size + 2) W4 (Below.refl _ _) (Nat.le_refl _) ?_; intro W5 hg5 hb5; have H5 : Ht w W5 n g (vz (tt2 n g)) := H4.put hb5 (by rw [← tt_2]; exact hg5.out); have S3 : W5.cell? ⟨w.heap.size, 1, none⟩ = some (.int .u32 g) := by simp [World.cell?, H5.h])
      | (go_at_call 35; refine (Put_any g (by omega) (by omega) _).mono ?_; rintro e W4 ⟨rfl, hown4, hbP4⟩; have H4 := H3'.next hbP4; have S2 : W4.cell? ⟨w.heap.size, 1, none⟩ = some (.int .u32 g) := by simp [World.cell?, H4.h]))
  all_goals
    clear S1 S2 S3 H3 H3' H4 D3 hown4 hbP4 hb5 hg5
    go_wp2_with fail
    refine (summing_any W5).mono ?_
    rintro e W6 ⟨rfl, rfl⟩
    have hb6 : Below W5.heap.size W5 (W5.alloc (.cells #[.int .u32 4294967295] 22)) := (Below.refl _ _).alloc (Nat.le_refl _) _
    have hl5 := H5.lt
    have H6 := H5.next hb6
    have hx6 := Boxed.new W5 22 (.int .u32 4294967295)
    generalize W5.alloc (.cells #[.int .u32 4294967295] 22) = W6 at *
    clear H5 hb6
    go_wp2_with fail
    have D6 : Below W6.heap.size W6 W6.drew := ⟨rfl, rfl, rfl, Nat.le_refl _, fun _ _ => rfl⟩
    have H7 := H6.next D6
    have hx7 : Boxed W6.drew W5.heap.size 22 (.int .u32 4294967295) := (D6.block _ hx6.lt).trans hx6
    have hs7 : Seg W6.drew (some ⟨w.heap.size + 2, 0, none⟩) (hd n g) := by
      have := H7.seg.take 12
      rwa [tt2_take] at this
    have hsz := sumZ_lt (byt_hd n g)
    have Tr : True := trivial
    go_region_held3 (fun w' => True) (trivial) (first
      | (refine step_copy_splice (by rfl) _ _ _ _ (by rfl) 5 Tryd.underlying25 infoT _ _ 4 4 4 4 (by rfl) (by rfl) (w.heap.size + 2) 12 (vz (tt2 n g)) 44 H9.all (vz (bytesOf (sumZ (hd n g)) 4)) (vz4 _) (fun _ => ⟨rfl, _, rfl, seg_news (seg_own hown9 (bytesOf_length _ 4))⟩) (by rw [vz4, tt2_len n g]; decide) (vz_one _) (w.heap.size + 2) W9 (Below.refl _ _) (Nat.le_refl _) ?_; intro W10 hg10 hb10; have H10 : Ht w W10 n g (vz (hB n g)) := H9.put hb10 (by rw [← tt_3]; exact hg10.out))
      | (go_at_call 35; refine (Put_any (sumZ (hd n g)) (by omega) (by omega) _).mono ?_; rintro e W9 ⟨rfl, hown9, hbP9⟩; have H9 := H8.next hbP9)
      | (go_at_call 55; refine (closed_any W5.heap.size _ 12 16 (hd n g) 4294967295 _ (by omega) hx7 (by omega) (hd_length n g) (byt_hd n g) hs7 (fun b off e => by cases e; exact hl5)).mono ?_; rintro e W8 ⟨rfl, -, hb8⟩; have H8 : Ht w W8 n g (vz (tt2 n g)) := H7.far hb8 hl5))
  all_goals
    clear H6 H7 H8 H9 hx6 hx7 hs7 D6 hown9 hbP9 hb10 hg10 hb8 Tr hsz hl5
    have hlen : (vz (hB n g)).toArray.size = 16 := by rw [List.size_toArray, vz_length, hB_length]
    have hone : (vz (hB n g)).toArray.all (·.oneCell') = true := by
      rw [List.all_toArray, List.all_eq_true]
      exact vz_one _
    go_wp2_with (first
      | (refine wpList_load_row rfl _ _ rfl (w.heap.size + 2) rfl 44 _ (0, 0) _ H10.all Tryd.underlying44 rfl (by rw [hlen]; kernel_rfl) ?_)
      | (refine wpList_store_whole rfl _ _ _ rfl (w.heap.size + 1) _ rfl rfl 44 _ H10.res (by rw [hlen]; kernel_rfl) (by rw [hlen]; rfl) hone ?_; intro W11 hr11 hg11 hs11))
    have hl10 := H10.lt
    refine bodyPost_ret (results_cell_row (p := 2) (ty := 44) rfl _ W11 (w.heap.size + 1) 44 _ (0, 0) _ (by rfl) hr11 Tryd.underlying44 rfl (by rw [hlen]; kernel_rfl)) rfl ⟨rfl, ?_⟩
    exact H10.below.grown hg11 (by omega) (fun k e => by cases e; omega)
end Go.Proofs.YtcpciodcecpibaaDoor
