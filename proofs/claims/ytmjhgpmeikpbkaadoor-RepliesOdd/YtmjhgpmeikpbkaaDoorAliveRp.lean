/- 'alive' of the laws: true; nothing that was there turns. -/
import Derived.Test.YtmjhgpmeikpbkaaDoorIsRp
import Derived.Test.YtmjhgpmeikpbkaaDoorRowLaw
import Derived.Test.YtmjhgpmeikpbkaaDoorLits
import Derived.Lib.SmallJoins
namespace Go.Proofs.YtmjhgpmeikpbkaaDoor
set_option linter.unusedVariables false
open Go.RowKit

theorem rget_eq (a : Option Addr) (len cap : Nat) (zs : List Int) (w : World) (hlc : len ≤ cap) (hm : cap ≤ 9223372036854775807) (hz : zs.length = len) (hb : Byt zs) (hs : Seg w a zs) (hn : a = none → len = 0 ∧ cap = 0) (hA : Any w) (y : RP) (hy : rp zs = y) :
    Calls Tryd.prog 18 #[.slice a len cap] w fun e W' => GotR w y e W' := hy ▸ rget_any a len cap zs w hlc hm hz hb hs hn hA

theorem rput_eq (x h l g : Int) (ba : Option Addr) (bl bc : Nat) (bs : List Int) (w : World) (hx : U x) (hh : U h) (hl : U l) (hg : U g) (hA : Any w) (hz : bs.length = bl) (hb : Byt bs) (hs : Seg w ba bs) (hn : ba = none → bl = 0 ∧ bc = 0) (hm : bl ≤ 1000000) (e0 : Int) (he : rputE h l g bl = e0) :
    Calls Tryd.prog 10 #[.agg #[.int .u32 x, .int .u32 h, .int .u32 l, .int .u32 g, .slice ba bl bc]] w fun e w' => ∃ v, e = .returned (.tuple #[v, .int .i64 e0]) ∧ w'.ownsRow w.heap.size 5 1 v (rputZ x h l g bs).length ((rputZ x h l g bs).map (Value.int .u8)) ∧ Below w.heap.size w w' := he ▸ rput_any x h l g ba bl bc bs w hx hh hl hg hA hz hb hs hn hm

theorem seg_litm_at (w : World) (t : TypeId) (fz : Nat × Nat) (zs : List Int) (g : Nat) (hg : g = w.heap.size) : Seg (w.alloc (.cells (zs.map (Value.int .u8)).toArray t fz)) (some ⟨g, 0, none⟩) zs := by
  subst hg; exact seg_litm w t fz zs

theorem u_lit (n : Nat) (h : n ≤ 4294967295) : U (n : Int) := ⟨by omega, by omega⟩
theorem byt_nil : Byt [] := fun i => by simp
theorem hu_of {gs : List Int} (h : ∀ g ∈ gs, 0 ≤ g ∧ g ≤ 4294967295) : ∀ i : Nat, 0 ≤ gs[i]?.getD 0 ∧ gs[i]?.getD 0 ≤ 4294967295 := fun i => by
  by_cases hi : i < gs.length
  · rw [List.getElem?_eq_getElem hi, Option.getD_some]; exact h _ (List.getElem_mem hi)
  · rw [List.getElem?_eq_none (by omega)]; simp

theorem rpF : rp (numsB [1, 1, 1, 1, 5, 0]) = ⟨5, 0, 0, 0, 0, []⟩ := by kernel_rfl
theorem rpG : rp (numsB [1, 1, 1, 1]) = ⟨4, 0, 0, 0, 0, []⟩ := by kernel_rfl
theorem rpH : rp (numsB [1, 0]) = ⟨5, 0, 0, 0, 0, []⟩ := by kernel_rfl
theorem rbI : numsB [1, 1, 0, 0, 0, 0] ++ [97] = replyB 1 0 0 0 [97] := by kernel_rfl
theorem rbJ : numsB [1, 1, 0, 0, 0, 2, 3, 3] = replyB 1 2 3 3 [] := by kernel_rfl
theorem rbK : numsB [1, 1, 1, 1, 5] = replyB 1 101 5 0 [] := by kernel_rfl

set_option maxRecDepth 100000 in
set_option maxHeartbeats 400000 in
theorem alive_any (w : World) (hA : Any w) : Calls Tryd.prog 22 #[] w fun e w' => e = .returned (.bool true) ∧ Below w.heap.size w w' := by
  obtain ⟨i0, hi, hz0, hz1, hz2⟩ := info_parts infoL
  go_enter Tryd.func22, Tryd.ntmps22
  go_wp2_with fail
  refine (rput_eq 0 101 0 0 none 0 0 [] w ⟨by decide, by decide⟩ ⟨by decide, by decide⟩ ⟨by decide, by decide⟩ ⟨by decide, by decide⟩ hA rfl byt_nil (.inl rfl) (fun _ => ⟨rfl, rfl⟩) (by decide) 1 (by kernel_rfl)).mono ?_
  rintro e w1 ⟨v1, rfl, _, hb1⟩
  have Bw1 := hb1
  go_wp2_with fail
  refine (row_new [1, 1, 1, 1, 5, 0] 6 _ _ w1 (by simp) rfl (by decide) (hu_of (by decide))).mono ?_
  rintro e w2 ⟨af, cf, rfl, hof, hsf, hlf, hmf, hnf, hbf⟩
  have Bw2 := (Bw1).trans (hbf.mono (Bw1).size)
  go_wp2_with fail
  refine (rget_eq af 24 cf (numsB [1, 1, 1, 1, 5, 0]) w2 hlf hmf (numsB_len _) (byt_numsB _) hsf hnf (hA.below Bw2) _ rpF).mono ?_
  rintro e w3 ⟨hgf, vaf, vnf, vcf, rfl, _⟩
  have Bw3 := Bw2.trans (hgf.mono Bw2.size)
  go_wp2_with fail
  refine (row_new [1, 1, 1, 1] 4 _ _ (w3.alloc _) (by simp) rfl (by decide) (hu_of (by decide))).mono ?_
  rintro e w4 ⟨ag, cg, rfl, hog, hsg, hlg, hmg, hng, hbg⟩
  have Bw4 := (Bw3.alloc Bw3.size _).trans (hbg.mono (Bw3.alloc Bw3.size _).size)
  go_wp2_with fail
  refine (rget_eq ag 16 cg (numsB [1, 1, 1, 1]) w4 hlg hmg (numsB_len _) (byt_numsB _) hsg hng (hA.below Bw4) _ rpG).mono ?_
  rintro e w5 ⟨hgg, vag, vng, vcg, rfl, _⟩
  have Bw5 := Bw4.trans (hgg.mono Bw4.size)
  go_wp2_with fail
  refine (row_new [1, 0] 2 _ _ (w5.alloc _) (by simp) rfl (by decide) (hu_of (by decide))).mono ?_
  rintro e w6 ⟨ah, ch, rfl, hoh, hsh, hlh, hmh, hnh, hbh⟩
  have Bw6 := (Bw5.alloc Bw5.size _).trans (hbh.mono (Bw5.alloc Bw5.size _).size)
  go_wp2_with fail
  refine (rget_eq ah 8 ch (numsB [1, 0]) w6 hlh hmh (numsB_len _) (byt_numsB _) hsh hnh (hA.below Bw6) _ rpH).mono ?_
  rintro e w7 ⟨hgh, vah, vnh, vch, rfl, _⟩
  have Bw7 := Bw6.trans (hgh.mono Bw6.size)
  have kc := fun (ob : Obj) (C : Array Value) (n c : Nat) => Go.Joins.run_convert_bytes_const_at (P := Tryd.prog) (w7.alloc ob) 24 5 C n c (w7.heap.size + 1) (by simp) Tryd.underlying24 Tryd.underlying5
  go_wp2_with fail
  refine (row_new [1, 1, 0, 0, 0, 0] 6 _ _ ((w7.alloc _).alloc _) (by simp) rfl (by decide) (hu_of (by decide))).mono ?_
  rintro e w8 ⟨ai, ci, rfl, hoi, hsi, hli, hmi, hni, hbi⟩
  have Bw8 := ((Bw7.alloc Bw7.size _).alloc (Bw7.alloc Bw7.size _).size _).trans (hbi.mono ((Bw7.alloc Bw7.size _).alloc (Bw7.alloc Bw7.size _).size _).size)
  go_wp2_with (at_builtin; refine wpList_append_wanted _ (by rfl) _ _ 24 rfl w.heap.size 5 i0 (.int .u8 0) 1 1 Tryd.underlying24 hi hz0 hz1 hz2 rfl (by decide) (.slice ai 24 ci) 24 _ rfl ((own_base hoi ((Bw7.alloc Bw7.size _).alloc (Bw7.alloc Bw7.size _).size _).size).alloc _) ⟨w8.heap.size, 0, none⟩ 1 1 [.int .u8 97] rfl rfl (cell_one_new _ _ _) (by simp [Value.oneCell']) (by unfold maxLen; omega) (by omega) (by simp; have := Bw8.size; omega) ?_; intro v9 w9 ho9 hg9; have ho9' : w9.ownsRow w.heap.size 5 1 v9 25 ((replyB 1 0 0 0 [97]).map (Value.int .u8)) := (by rw [← rbI, List.map_append]; exact ho9); have hb9 := (hbi.alloc hbi.size (.cells #[.int .u8 97] 5)).grown hg9 (hbi.alloc hbi.size _).size (fun k e => own_low hoi e); obtain ⟨a9, c9, rfl, hs9, hl9, hm9, hn9⟩ := own_val ho9' (by kernel_rfl); have Bw9 := ((Bw7.alloc Bw7.size _).alloc (Bw7.alloc Bw7.size _).size _).trans (hb9.mono ((Bw7.alloc Bw7.size _).alloc (Bw7.alloc Bw7.size _).size _).size); have sg9 := (seg_litm_at (w7.alloc _) 5 _ [97] (w7.heap.size + 1) (by simp)).below hb9)
  refine (is_true 1 0 0 0 (some ⟨w7.heap.size + 1, 0, none⟩) 1 1 [97] a9 25 c9 w9 ⟨by decide, by decide⟩ ⟨by decide, by decide⟩ ⟨by decide, by decide⟩ ⟨by decide, by decide⟩ (hA.below Bw9) rfl (byt_of_all (by decide)) sg9 (by simp) (by kernel_rfl) hl9 hm9 (by kernel_rfl) hs9 hn9).mono ?_
  rintro e w10 ⟨rfl, hb10⟩
  have Bw10 := Bw9.trans (hb10.mono Bw9.size)
  go_wp2_with fail
  refine (row_new [1, 1, 0, 0, 0, 2, 3, 3] 8 _ _ w10 (by simp) rfl (by decide) (hu_of (by decide))).mono ?_
  rintro e w11 ⟨aj, cj, rfl, hoj, hsj, hlj, hmj, hnj, hbj⟩
  have Bw11 := (Bw10).trans (hbj.mono (Bw10).size)
  go_wp2_with fail
  refine (is_true 1 2 3 3 none 0 0 [] aj 32 cj w11 ⟨by decide, by decide⟩ ⟨by decide, by decide⟩ ⟨by decide, by decide⟩ ⟨by decide, by decide⟩ (hA.below Bw11) rfl byt_nil (.inl rfl) (fun _ => ⟨rfl, rfl⟩) (by kernel_rfl) hlj hmj (by kernel_rfl) (rbJ ▸ hsj) hnj).mono ?_
  rintro e w12 ⟨rfl, hb12⟩
  have Bw12 := Bw11.trans (hb12.mono Bw11.size)
  go_wp2_with fail
  refine (row_new [1, 1, 1, 1, 5] 5 _ _ w12 (by simp) rfl (by decide) (hu_of (by decide))).mono ?_
  rintro e w13 ⟨ak, ck, rfl, hok, hsk, hlk, hmk, hnk, hbk⟩
  have Bw13 := (Bw12).trans (hbk.mono (Bw12).size)
  go_wp2_with fail
  refine (is_true 1 101 5 0 none 0 0 [] ak 20 ck w13 ⟨by decide, by decide⟩ ⟨by decide, by decide⟩ ⟨by decide, by decide⟩ ⟨by decide, by decide⟩ (hA.below Bw13) rfl byt_nil (.inl rfl) (fun _ => ⟨rfl, rfl⟩) (by kernel_rfl) hlk hmk (by kernel_rfl) (rbK ▸ hsk) hnk).mono ?_
  rintro e w14 ⟨rfl, hb14⟩
  have Bw14 := Bw13.trans (hb14.mono Bw13.size)
  go_wp2
  go_ret
  exact ⟨rfl, Bw14⟩
end Go.Proofs.YtmjhgpmeikpbkaaDoor
