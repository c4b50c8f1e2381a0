/- heavy; keys of the program's own. -/
import Derived.Test.YtjjgbcjgmjggnaaGreatDoorAuMay
import Derived.Test.YtjjgbcjgmjggnaaGreatDoorWideB
import Derived.Deep.LoopGhost
import Derived.Deep.DeepCutAuto
import Derived.Deep.RegionHeld3
namespace Go.Proofs.YtjjgbcjgmjggnaaGreatDoor
open Go.RowKit
set_option linter.unusedVariables false
set_option maxRecDepth 100000

def hsum (ks : List KE) : Nat := (ks.map fun x => 1 + x.p.sec.length).sum
theorem hsum_step {ks : List KE} {k : Nat} {x : KE} (h : ks[k]? = some x) : hsum (ks.take (k + 1)) = hsum (ks.take k) + (1 + x.p.sec.length) := by
  have hlt := (List.getElem?_eq_some_iff.mp h).1
  have e := (List.getElem?_eq_some_iff.mp h).2
  unfold hsum
  rw [List.take_succ_eq_append_getElem hlt, List.map_append, List.sum_append, e]
  simp
theorem hsum_len (ks : List KE) : ks.length ≤ hsum ks := by
  induction ks with
  | nil => simp
  | cons x r ih => unfold hsum at *; simp only [List.map_cons, List.sum_cons, List.length_cons]; omega
theorem hsum_mem {ks : List KE} : ∀ x ∈ ks, x.p.sec.length ≤ hsum ks := by
  induction ks with
  | nil => intro x hx; cases hx
  | cons y r ih =>
    intro x hx
    have e : hsum (y :: r) = (1 + y.p.sec.length) + hsum r := by simp [hsum]
    rcases List.mem_cons.1 hx with rfl | hx
    · omega
    · have := ih x hx; omega
structure HvEnd (e : Ending) (N : Nat) : Prop where
  out : ∃ B, e = .returned (.bool B) ∧ (B = false → N ≤ 131072)
structure HvR (n0 : Nat) (ks : List KE) (gg : Nat) (s5 s6 : Value) : Prop where
  out : ∃ k : Nat, k ≤ ks.length ∧ ks.length - k ≤ gg ∧ s6 = .int .i64 k ∧ s5 = .int .i64 ((n0 + hsum (ks.take k) : Nat) : Int) ∧ n0 + hsum (ks.take k) ≤ 300000000000000
set_option maxHeartbeats 1000000 in
theorem heavy_any (v vk : Value) (n0 : Nat) (ks : List KE) (w : World) (va : Option Addr) (vc : Nat) (hv : v = .slice va n0 vc) (hn0 : n0 ≤ 140737488355328) (hc : ChainAt w vk ks) (hz : ∀ x ∈ ks, x.p.sec.length ≤ 140737488355328) (hkl : ks.length ≤ 140737488355328) :
    Calls Tryz.prog 4 #[v, vk] w fun e w' => HvEnd e (n0 + hsum ks) ∧ w = w' := by
  subst hv
  obtain ⟨ka, kc, rfl, -⟩ := ValsAt.form hc.vals
  have HC : Hid (ChainAt w (.slice ka ks.length kc) ks) := hc
  have HZ : Hid (∀ x ∈ ks, x.p.sec.length ≤ 140737488355328) := hz
  clear hc hz
  go_enter Tryz.func4, Tryz.ntmps4
  go_wp2_with fail
  go_loopg [5, 6] ks.length (fun gg s5 s6 wr => HvR n0 ks gg s5 s6 ∧ wr = w)
  case atStart => exact ⟨⟨0, by omega, by omega, rfl, by simp [hsum], by simp [hsum]; omega⟩, rfl⟩
  case round =>
    obtain ⟨⟨k, hk, hg, rfl, rfl, hN⟩, rfl⟩ := hrel
    have HSA : Hid (k = ks.length → hsum (ks.take k) = hsum ks) := fun h => by show _ = _; rw [h, List.take_of_length_le (Nat.le_refl _)]
    by_cases hlt : k < ks.length
    · have hlt' : (k : Int) < (ks.length : Int) := by omega
      have hk0 : (0 : Int) ≤ (k : Int) := by omega
      have hkw : wrap64 ((k : Int) + 1) = (k : Int) + 1 := by unfold wrap64; omega
      obtain ⟨x, hx⟩ : ∃ x, ks[k]? = some x := ⟨ks[k], List.getElem?_eq_getElem hlt⟩
      have HST : Hid (hsum (ks.take (k + 1)) = hsum (ks.take k) + (1 + x.p.sec.length)) := hsum_step hx
      have hxl := HZ.out x (List.mem_of_getElem? hx)
      obtain ⟨-, gR, off, cR, eR, hcell⟩ := HC.out.one hx
      cases eR
      have e2 : wr.cell? ⟨gR, off + k * 7 + 2, none⟩ = some (.slice x.a x.p.sec.length x.c) := by rw [Nat.add_assoc]; exact hcell 2 _ rfl
      clear hcell hx HSA
      generalize hsum (ks.take k) = H at *
      by_cases hb : ((n0 + H : Nat) : Int) ≤ 131072
      · have hw1 : wrap64 (((n0 + H : Nat) : Int) + 1) = ((n0 + H : Nat) : Int) + 1 := by unfold wrap64; omega
        have hw2 : wrap64 (((n0 + H : Nat) : Int) + 1 + (x.p.sec.length : Int)) = ((n0 + H : Nat) : Int) + 1 + (x.p.sec.length : Int) := by unfold wrap64; omega
        generalize hNN : n0 + H = NN at *
        have HNN : Hid (n0 + H = NN) := hNN
        clear hNN
        go_wp2_with fail
        go_roundg (ks.length - (k + 1))
        case measure => omega
        case rel => exact ⟨⟨k + 1, by omega, by omega, by go_num, by rw [HST.out]; have := HNN.out; congr 1; omega, by rw [HST.out]; have := HNN.out; omega⟩, rfl⟩
      · have hgt : (131072 : Int) < ((n0 + H : Nat) : Int) := by omega
        generalize n0 + H = NN at *
        go_wp2_with fail
        go_ret
        exact ⟨⟨true, by first | rfl | (simp [hgt]), fun h => by cases h⟩, rfl⟩
    · have hlt' : ¬ ((k : Int) < (ks.length : Int)) := by omega
      have hS := HSA.out (by omega)
      rw [hS]
      generalize hNN : n0 + hsum ks = NN at *
      have HNN : Hid (n0 + hsum ks = NN) := hNN
      clear hNN hS HSA
      by_cases hb : (131072 : Int) < (NN : Int)
      · go_wp2_with fail
        go_ret
        exact ⟨⟨true, by first | rfl | (simp [hb]), fun h => by cases h⟩, rfl⟩
      · go_wp2_with fail
        go_ret
        exact ⟨⟨false, by first | rfl | (simp [hb]), fun _ => by have := HNN.out; omega⟩, rfl⟩
/-- Keys with the same numbers, their secrets in rows of their own with room behind. -/
structure WideKE (w : World) (base : Nat) (x : KE) : Prop where
  out : ∃ g, x.a = some ⟨g, 0, none⟩ ∧ x.c = x.p.sec.length + 64 ∧ base ≤ g ∧ w.heap[g]? = some (.cells (bytesOf (x.p.sec ++ spareMarks x.p.sec.length)).toArray 5 (0, 0))
structure Given (w0 w : World) (v : Value) (ks ls : List KE) : Prop where
  same : pureL ls = pureL ks
  buf : VBuf 61 7 w0 w v ls.length (chainC ls)
  wide : ∀ x ∈ ls, WideKE w w0.heap.size x
  ok : ∀ x ∈ ls, x.p.Ok
  big : ∀ x ∈ ls, x.p.sec.length ≤ 131072
theorem WideKE.keep {F : Nat → Prop} {w w' : World} {base : Nat} {x : KE} (h : WideKE w base x) (t : Touch F w w') (hF : ∀ g cs, w.heap[g]? = some (.cells cs 5 (0, 0)) → ¬ F g) : WideKE w' base x := by
  obtain ⟨g, h1, h2, h3, h4⟩ := h
  exact ⟨g, h1, h2, h3, (t.block g (lt_of_heap h4) (hF g _ h4)).trans h4⟩
theorem Given.keep {w0 w w' : World} {v : Value} {ks ls : List KE} (h : Given w0 w v ks ls) (t : Touch (fun _ => False) w w') : Given w0 w' v ks ls :=
  ⟨h.same, h.buf.keep t, fun x hx => (h.wide x hx).keep t (fun _ _ _ h => h), h.ok, h.big⟩
theorem WideKE.row {w : World} {base : Nat} {x : KE} (h : WideKE w base x) (hb : x.p.sec.length ≤ 131072) : RowAt w x.sv x.p.sec := by
  obtain ⟨g, h1, h2, h3, h4⟩ := h
  refine Or.inr ⟨g, 0, x.c, by unfold KE.sv; rw [h1], by omega, by rw [h2]; unfold maxLen; omega, fun j u hj => ?_⟩
  rw [Nat.zero_add, cell_of_row w g j _ 5 _ h4, List.getElem?_toArray, bytesOf_append, List.getElem?_append_left (List.getElem?_eq_some_iff.mp hj).1]
  exact hj
theorem Given.chain {w0 w : World} {v : Value} {ks ls : List KE} (h : Given w0 w v ks ls) : ChainAt w v ls :=
  ⟨h.buf.vals, fun x hx => ⟨h.ok x hx, ((h.wide x hx).row (h.big x hx)).arg⟩⟩
theorem Given.len {w0 w : World} {v : Value} {ks ls : List KE} (h : Given w0 w v ks ls) : ls.length = ks.length := by
  have := congrArg List.length h.same
  simpa using this
theorem Tryz.infoKey : (Tryz.prog.info? 61).map (fun i => (i.zero, i.size, i.bytes)) = some (some (.agg #[.int .u8 0, .int .u16 0, .slice none 0 0, .int .i64 0, .int .i64 0, .int .i64 0, .int .i64 0]), 7, 64) := by kernel_rfl
/-- append in a region that draws: one new key in a block of its own. -/
theorem step_key_app {ops : Array Oper} {o : Oper} {a : Act} {w : World} {K : Act → World → Prop} {Q : Exit → Act → World → Prop} {E : Prop} (hgd : o.guard = none) (s x : Operand)
    (ho : o.op = .call { callee := .builtin .append, args := #[s, x], argTypes := #[23, 23] })
    (w0 : World) (v : Value) (ls : List KE) (hs : a.eval s = v) (hb : VBuf 61 7 w0 w v ls.length (chainC ls)) (y : KE) (ad : Addr) (hx : a.eval x = .slice (some ad) 1 1) (hy : ∀ j u, y.cells[j]? = some u → w.cell? (ad.add j) = some u) (hl : ls.length ≤ 1000000)
    (h : ∀ v' w', VBuf 61 7 w0 w' v' (ls ++ [y]).length (chainC (ls ++ [y])) → w.grownBy w' v.ownBlock → K (a.put o.dst v') w') :
    if Region.wanted o (yielded ops a.tmps) = true then Oper.wp Tryz.prog o a w K Q else E := by
  have hw : Region.wanted o (yielded ops a.tmps) = true := by simp [Region.wanted, hgd]
  rw [if_pos hw]
  obtain ⟨i0, hi, hz0, hz1, hz2⟩ := info_parts Tryz.infoKey
  obtain ⟨v', w', hr, h2, h3, h4, h5⟩ := run_append_own_at (P := Tryz.prog) w w0.heap.size 23 o.type 61 i0 _ 7 64 Tryz.underlying23 hi hz0 hz1 hz2 rfl (by decide) v ls.length (chainC ls) hb.own ad 1 1 y.cells rfl hy (by intro u hu; simp only [KE.cells, List.mem_cons, List.not_mem_nil, or_false] at hu; rcases hu with rfl | rfl | rfl | rfl | rfl | rfl | rfl <;> rfl) (by unfold maxLen; omega) (by omega) hb.t.size
  unfold Oper.wp execOp
  simp only [ho, resolve, invoke, builtin, Sem.run_bind, Sem.run_pure, Result.andThen_ok, List.map_toArray, List.map_cons, List.map_nil, hs, hx, hr]
  refine h v' w' ⟨?_, hb.t.grown h3 (fun k hk => Or.inr (hb.own.lt k hk).1)⟩ h3
  rw [List.length_append, show chainC (ls ++ [y]) = chainC ls ++ y.cells by simp [chainC]]
  exact h2
/-- Of x the block ob has not turned. -/
structure SnB (ob : Nat) (x w : World) : Prop where
  t : Touch (fun g => g ≠ ob) x w
theorem SnB.start (ob : Nat) (x : World) : SnB ob x x.drew := ⟨(Touch.refl _ _).drew⟩
theorem SnB.trans {ob : Nat} {x w w' : World} (h : SnB ob x w) (t : Touch (fun _ => False) w w') : SnB ob x w' := ⟨h.t.trans' t (fun _ _ h => h.elim)⟩
theorem snB_cell {ob : Nat} {x : World} {i : Nat} {v : Value} (h : x.cell? ⟨ob, i, none⟩ = some v) : ∀ w, SnB ob x w → w.cell? ⟨ob, i, none⟩ = some v := fun w s => (s.t.cell (lt_of_cellA h) (fun h => h rfl)).trans h
theorem own_ty {w : World} {base e k : Nat} {v : Value} {n : Nat} {xs : List Value} (h : w.ownsRow base e k v n xs) {g : Nat} (hg : v.ownBlock = some g) : ∃ cs, w.heap[g]? = some (.cells cs e (0, 0)) := by
  rcases h.2 with ⟨rfl, -⟩ | ⟨g', cap, cur, rfl, -, h2, -⟩
  · cases hg
  · cases hg; exact ⟨_, h2⟩
theorem Given.more {w0 w w' : World} {v v' : Value} {ks ks' ls : List KE} {y : KE} (h : Given w0 w v ks ls) (hy : WideKE w w0.heap.size y) (ho : y.p.Ok) (hb : y.p.sec.length ≤ 131072) (hk : pureL ks' = pureL ks ++ [y.p])
    (hv : VBuf 61 7 w0 w' v' (ls ++ [y]).length (chainC (ls ++ [y]))) (hg : w.grownBy w' v.ownBlock) : Given w0 w' v' ks' (ls ++ [y]) := by
  have t : Touch (fun g => v.ownBlock = some g) w w' := (Touch.refl _ _).grown hg (fun k hk => Or.inl hk)
  have hF : ∀ g cs, w.heap[g]? = some (.cells cs 5 (0, 0)) → ¬ v.ownBlock = some g := fun g cs h1 h2 => by
    obtain ⟨cs', h3⟩ := own_ty h.buf.own h2
    rw [h1] at h3
    cases h3
  refine ⟨by rw [hk, ← h.same]; exact List.map_append, hv, fun x hx => ?_, fun x hx => ?_, fun x hx => ?_⟩
  · rcases List.mem_append.1 hx with hx | hx
    · exact (h.wide x hx).keep t hF
    · rw [List.mem_singleton.1 hx]; exact hy.keep t hF
  · rcases List.mem_append.1 hx with hx | hx
    · exact h.ok x hx
    · rw [List.mem_singleton.1 hx]; exact ho
  · rcases List.mem_append.1 hx with hx | hx
    · exact h.big x hx
    · rw [List.mem_singleton.1 hx]; exact hb
structure GvR (w : World) (ks : List KE) (gg : Nat) (s3 s4 : Value) (wr : World) : Prop where
  out : ∃ (k : Nat) (ls : List KE) (v' : Value), k ≤ ks.length ∧ ks.length - k ≤ gg ∧ s4 = .int .i64 k ∧ s3 = v' ∧ Given w wr v' (ks.take k) ls
set_option maxHeartbeats 2000000 in
theorem given_any (vk : Value) (ks : List KE) (w : World) (hc : ChainAt w vk ks) (hb : hsum ks ≤ 131072) :
    Calls Tryz.prog 7 #[vk] w fun e w' => ∃ u ls, e = .returned u ∧ Given w w' u ks ls := by
  obtain ⟨ka, kc, rfl, -⟩ := ValsAt.form hc.vals
  have HC : Hid (∀ w', Touch (fun _ => False) w w' → ChainAt w' (.slice ka ks.length kc) ks) := fun w' t => hc.keep t
  have hkl : ks.length ≤ 131072 := Nat.le_trans (hsum_len ks) hb
  have HB : Hid (∀ x ∈ ks, x.p.sec.length ≤ 131072) := fun x hx => Nat.le_trans (hsum_mem x hx) hb
  clear hc hb
  go_enter Tryz.func7, Tryz.ntmps7
  go_wp2_with fail
  go_loopg [3, 4, 5] ks.length (fun gg s3 s4 _ wr => GvR w ks gg s3 s4 wr)
  case atStart => exact ⟨0, [], _, by omega, by omega, rfl, rfl, ⟨by simp, VBuf.nil _ _ (Touch.refl _ _), by simp, by simp, by simp⟩⟩
  case round =>
    obtain ⟨k, ls, v', hk, hg, rfl, hv3, gv⟩ := hrel.out
    obtain ⟨sa, sc, es⟩ := gv.buf.form
    subst es
    subst hv3
    have GV : Hid (Given w wr (.slice sa ls.length sc) (ks.take k) ls) := gv
    have hll : ls.length = k := by rw [gv.len, List.length_take]; omega
    clear hrel gv
    by_cases hlt : k < ks.length
    · have hlt' : (k : Int) < (ks.length : Int) := by omega
      have hk0 : (0 : Int) ≤ (k : Int) := by omega
      have hkw : wrap64 ((k : Int) + 1) = (k : Int) + 1 := by unfold wrap64; omega
      obtain ⟨x, hx⟩ : ∃ x, ks[k]? = some x := ⟨ks[k], List.getElem?_eq_getElem hlt⟩
      obtain ⟨ox, gR, off, cR, eR, hcell⟩ := ChainAt.one (HC.out wr GV.out.buf.t) hx
      cases eR
      have e0 : wr.cell? ⟨gR, off + k * 7, none⟩ = some (.int .u8 x.p.id) := by exact hcell 0 _ rfl
      have e1 : wr.cell? ⟨gR, off + k * 7 + 1, none⟩ = some (.int .u16 x.p.kind) := by rw [Nat.add_assoc]; exact hcell 1 _ rfl
      have e2 : wr.cell? ⟨gR, off + k * 7 + 2, none⟩ = some (.slice x.a x.p.sec.length x.c) := by rw [Nat.add_assoc]; exact hcell 2 _ rfl
      have e3 : wr.cell? ⟨gR, off + k * 7 + 3, none⟩ = some (.int .i64 x.p.sf) := by rw [Nat.add_assoc]; exact hcell 3 _ rfl
      have e4 : wr.cell? ⟨gR, off + k * 7 + 4, none⟩ = some (.int .i64 x.p.su) := by rw [Nat.add_assoc]; exact hcell 4 _ rfl
      have e5 : wr.cell? ⟨gR, off + k * 7 + 5, none⟩ = some (.int .i64 x.p.tf) := by rw [Nat.add_assoc]; exact hcell 5 _ rfl
      have e6 : wr.cell? ⟨gR, off + k * 7 + 6, none⟩ = some (.int .i64 x.p.tu) := by rw [Nat.add_assoc]; exact hcell 6 _ rfl
      have hxl := HB.out x (List.mem_of_getElem? hx)
      have HTK : Hid (pureL (ks.take (k + 1)) = pureL (ks.take k) ++ [x.p]) := by
        show _ = _
        have e := (List.getElem?_eq_some_iff.mp hx).2
        rw [List.take_succ_eq_append_getElem hlt, e]; exact List.map_append
      have OX : Hid (x.Ok wr) := ox
      clear hcell hx ox
      go_upto_region 6 with fail
      have r0 := kbox_new wr x.p.id x.p.kind x.a x.p.sec.length x.c x.p.sf x.p.su x.p.tf x.p.tu
      have GVa : Hid (Given w (wr.alloc (.cells #[.int .u8 x.p.id, .int .u16 x.p.kind, .slice x.a x.p.sec.length x.c, .int .i64 x.p.sf, .int .i64 x.p.su, .int .i64 x.p.tf, .int .i64 x.p.tu] 61)) (.slice sa ls.length sc) (ks.take k) ls) := GV.out.keep ((Touch.refl _ _).alloc _)
      have OXa : Hid (x.Ok (wr.alloc (.cells #[.int .u8 x.p.id, .int .u16 x.p.kind, .slice x.a x.p.sec.length x.c, .int .i64 x.p.sf, .int .i64 x.p.su, .int .i64 x.p.tf, .int .i64 x.p.tu] 61))) := OX.out.keep ((Touch.refl _ _).alloc _)
      have HOB : Hid (∀ g, (Value.slice sa ls.length sc).ownBlock = some g → g ≠ wr.heap.size) := fun g hg h => by have := (GV.out.buf.own.lt g hg).2; omega
      generalize wr.alloc (.cells #[.int .u8 x.p.id, .int .u16 x.p.kind, .slice x.a x.p.sec.length x.c, .int .i64 x.p.sf, .int .i64 x.p.su, .int .i64 x.p.tf, .int .i64 x.p.tu] 61) = wa at r0 GVa OXa ⊢
      generalize wr.heap.size = ob at r0 HOB ⊢
      clear e0 e1 e2 e3 e4 e5 e6 GV OX
      have hS : SnB ob wa wa.drew := SnB.start ob wa
      have c0 := snB_cell r0.c0
      have c1 := snB_cell r0.c1
      have c2 := snB_cell r0.c2
      have c3 := snB_cell r0.c3
      have c4 := snB_cell r0.c4
      have c5 := snB_cell r0.c5
      have c6 := snB_cell r0.c6
      refine wp_region_held_drew (S := fun w' => SnB ob wa w') (by kernel_rfl) hS (fun hHeld => ?_)
      refine wpAnyH_take (i := 0) (oi := ⟨some 16, _, _, _, _, _⟩) (v := .slice sa ls.length sc) rfl (by kernel_rfl) (by kernel_rfl) (by kernel_rfl) (fun _ _ _ h => h) (Or.inl ⟨by rfl, fun w hw => by go_simp⟩) (by assumption) ?_
      simp only [Act.put, List.setIfInBounds_toArray, List.set_cons_zero, List.set_cons_succ]
      refine wpAnyH_take (i := 1) (oi := ⟨some 17, _, _, _, _, _⟩) (v := .pointer (some ⟨ob, 0, none⟩)) rfl (by kernel_rfl) (by kernel_rfl) (by kernel_rfl) (fun _ _ _ h => h) (Or.inl ⟨by rfl, fun w hw => by go_simp⟩) (by assumption) ?_
      simp only [Act.put, List.setIfInBounds_toArray, List.set_cons_zero, List.set_cons_succ]
      refine wpAnyH_take (i := 2) (oi := ⟨some 18, _, _, _, _, _⟩) (v := .int .u8 x.p.id) rfl (by kernel_rfl) (by kernel_rfl) (by kernel_rfl) (fun _ _ _ h => h) (Or.inl ⟨by rfl, fun w hw => by go_simp⟩) (by assumption) ?_
      simp only [Act.put, List.setIfInBounds_toArray, List.set_cons_zero, List.set_cons_succ]
      refine wpAnyH_take (i := 3) (oi := ⟨some 19, _, _, _, _, _⟩) (v := .pointer (some ⟨ob, 1, none⟩)) rfl (by kernel_rfl) (by kernel_rfl) (by kernel_rfl) (fun _ _ _ h => h) (Or.inl ⟨by rfl, fun w hw => by go_simp⟩) (by assumption) ?_
      simp only [Act.put, List.setIfInBounds_toArray, List.set_cons_zero, List.set_cons_succ]
      refine wpAnyH_take (i := 4) (oi := ⟨some 20, _, _, _, _, _⟩) (v := .int .u16 x.p.kind) rfl (by kernel_rfl) (by kernel_rfl) (by kernel_rfl) (fun _ _ _ h => h) (Or.inl ⟨by rfl, fun w hw => by go_simp⟩) (by assumption) ?_
      simp only [Act.put, List.setIfInBounds_toArray, List.set_cons_zero, List.set_cons_succ]
      refine wpAnyH_take (i := 5) (oi := ⟨some 21, _, _, _, _, _⟩) (v := .pointer (some ⟨ob, 2, none⟩)) rfl (by kernel_rfl) (by kernel_rfl) (by kernel_rfl) (fun _ _ _ h => h) (Or.inl ⟨by rfl, fun w hw => by go_simp⟩) (by assumption) ?_
      simp only [Act.put, List.setIfInBounds_toArray, List.set_cons_zero, List.set_cons_succ]
      refine wpAnyH_take (i := 6) (oi := ⟨some 22, _, _, _, _, _⟩) (v := .slice x.a x.p.sec.length x.c) rfl (by kernel_rfl) (by kernel_rfl) (by kernel_rfl) (fun _ _ _ h => h) (Or.inl ⟨by rfl, fun w hw => by go_simp⟩) (by assumption) ?_
      simp only [Act.put, List.setIfInBounds_toArray, List.set_cons_zero, List.set_cons_succ]
      refine wpAnyH_take (i := 8) (oi := ⟨some 24, _, _, _, _, _⟩) (v := .pointer (some ⟨ob, 3, none⟩)) rfl (by kernel_rfl) (by kernel_rfl) (by kernel_rfl) (fun _ _ _ h => h) (Or.inl ⟨by rfl, fun w hw => by go_simp⟩) (by assumption) ?_
      simp only [Act.put, List.setIfInBounds_toArray, List.set_cons_zero, List.set_cons_succ]
      refine wpAnyH_take (i := 9) (oi := ⟨some 25, _, _, _, _, _⟩) (v := .int .i64 x.p.sf) rfl (by kernel_rfl) (by kernel_rfl) (by kernel_rfl) (fun _ _ _ h => h) (Or.inl ⟨by rfl, fun w hw => by go_simp⟩) (by assumption) ?_
      simp only [Act.put, List.setIfInBounds_toArray, List.set_cons_zero, List.set_cons_succ]
      refine wpAnyH_take (i := 10) (oi := ⟨some 26, _, _, _, _, _⟩) (v := .pointer (some ⟨ob, 4, none⟩)) rfl (by kernel_rfl) (by kernel_rfl) (by kernel_rfl) (fun _ _ _ h => h) (Or.inl ⟨by rfl, fun w hw => by go_simp⟩) (by assumption) ?_
      simp only [Act.put, List.setIfInBounds_toArray, List.set_cons_zero, List.set_cons_succ]
      refine wpAnyH_take (i := 11) (oi := ⟨some 27, _, _, _, _, _⟩) (v := .int .i64 x.p.su) rfl (by kernel_rfl) (by kernel_rfl) (by kernel_rfl) (fun _ _ _ h => h) (Or.inl ⟨by rfl, fun w hw => by go_simp⟩) (by assumption) ?_
      simp only [Act.put, List.setIfInBounds_toArray, List.set_cons_zero, List.set_cons_succ]
      refine wpAnyH_take (i := 12) (oi := ⟨some 28, _, _, _, _, _⟩) (v := .pointer (some ⟨ob, 5, none⟩)) rfl (by kernel_rfl) (by kernel_rfl) (by kernel_rfl) (fun _ _ _ h => h) (Or.inl ⟨by rfl, fun w hw => by go_simp⟩) (by assumption) ?_
      simp only [Act.put, List.setIfInBounds_toArray, List.set_cons_zero, List.set_cons_succ]
      refine wpAnyH_take (i := 13) (oi := ⟨some 29, _, _, _, _, _⟩) (v := .int .i64 x.p.tf) rfl (by kernel_rfl) (by kernel_rfl) (by kernel_rfl) (fun _ _ _ h => h) (Or.inl ⟨by rfl, fun w hw => by go_simp⟩) (by assumption) ?_
      simp only [Act.put, List.setIfInBounds_toArray, List.set_cons_zero, List.set_cons_succ]
      refine wpAnyH_take (i := 14) (oi := ⟨some 30, _, _, _, _, _⟩) (v := .pointer (some ⟨ob, 6, none⟩)) rfl (by kernel_rfl) (by kernel_rfl) (by kernel_rfl) (fun _ _ _ h => h) (Or.inl ⟨by rfl, fun w hw => by go_simp⟩) (by assumption) ?_
      simp only [Act.put, List.setIfInBounds_toArray, List.set_cons_zero, List.set_cons_succ]
      refine wpAnyH_take (i := 15) (oi := ⟨some 31, _, _, _, _, _⟩) (v := .int .i64 x.p.tu) rfl (by kernel_rfl) (by kernel_rfl) (by kernel_rfl) (fun _ _ _ h => h) (Or.inl ⟨by rfl, fun w hw => by go_simp⟩) (by assumption) ?_
      simp only [Act.put, List.setIfInBounds_toArray, List.set_cons_zero, List.set_cons_succ]
      refine wpAnyH_ready (rs := [7]) (by kernel_rfl) (by simp) ?_
      refine AllReadyH.cons rfl (fun K hK => ?_) AllReadyH.nil
      go_simp
      refine Calls.mono (wide_any _ x.p.sec wa.drew ((OXa.out.arg).keep ((Touch.refl _ _).drew) (fun _ _ h => h)) OXa.out.all.sec (by omega)) ?_
      rintro e w4 ⟨rfl, hb4, t4⟩
      generalize hg4 : wa.drew.heap.size = g4 at hb4
      have GV4 : Hid (Given w w4 (.slice sa ls.length sc) (ks.take k) ls) := GVa.out.keep (((Touch.refl _ _).drew).trans t4)
      have hlow4 : w.heap.size ≤ g4 := by rw [← hg4]; exact GVa.out.buf.t.size
      refine hK.out _ _ (hHeld.trans t4) (fun hHeld => ?_)
      clear hK K
      refine wpAnyH_take (i := 16) (oi := ⟨some 32, _, _, _, _, _⟩) (v := .agg #[.int .u8 x.p.id, .int .u16 x.p.kind, .slice (some ⟨g4, 0, none⟩) x.p.sec.length (x.p.sec.length + 64), .int .i64 x.p.sf, .int .i64 x.p.su, .int .i64 x.p.tf, .int .i64 x.p.tu]) rfl (by kernel_rfl) (by kernel_rfl) (by kernel_rfl) (fun _ _ _ h => h) (Or.inl ⟨by rfl, fun w hw => by go_simp⟩) (by assumption) ?_
      simp only [Act.put, List.setIfInBounds_toArray, List.set_cons_zero, List.set_cons_succ]
      refine wpAnyH_ready (rs := [17]) (by kernel_rfl) (by simp) ?_
      refine AllReadyH.cons rfl (fun K hK => ?_) AllReadyH.nil
      go_simp
      have hgv5 : Given w (w4.alloc (.cells #[.int .u8 x.p.id, .int .u16 x.p.kind, .slice (some ⟨g4, 0, none⟩) x.p.sec.length (x.p.sec.length + 64), .int .i64 x.p.sf, .int .i64 x.p.su, .int .i64 x.p.tf, .int .i64 x.p.tu] 61)) (.slice sa ls.length sc) (ks.take k) ls := GV4.out.keep ((Touch.refl _ _).alloc _)
      have hy5 : WideKE (w4.alloc (.cells #[.int .u8 x.p.id, .int .u16 x.p.kind, .slice (some ⟨g4, 0, none⟩) x.p.sec.length (x.p.sec.length + 64), .int .i64 x.p.sf, .int .i64 x.p.su, .int .i64 x.p.tf, .int .i64 x.p.tu] 61)) w.heap.size ⟨x.p, some ⟨g4, 0, none⟩, x.p.sec.length + 64⟩ := ⟨g4, rfl, rfl, hlow4, ((Touch.refl (fun _ => False) w4).alloc _).heapN hb4⟩
      have hc5 : ∀ (j : Nat) (u : Value), (KE.cells ⟨x.p, some ⟨g4, 0, none⟩, x.p.sec.length + 64⟩)[j]? = some u → (w4.alloc (.cells #[.int .u8 x.p.id, .int .u16 x.p.kind, .slice (some ⟨g4, 0, none⟩) x.p.sec.length (x.p.sec.length + 64), .int .i64 x.p.sf, .int .i64 x.p.su, .int .i64 x.p.tf, .int .i64 x.p.tu] 61)).cell? (Addr.add ⟨w4.heap.size, 0, none⟩ j) = some u := fun j u hj => by
        rw [show (Addr.add ⟨w4.heap.size, 0, none⟩ j) = ⟨w4.heap.size, j, none⟩ by by_cases h : j = 0 <;> simp [Addr.add, h]]
        exact (cell_of_row _ _ j _ _ _ (heap_alloc_new w4 _)).trans (by rw [← hj]; simp only [KE.cells, List.getElem?_toArray])
      have hs5 := hHeld.trans ((Touch.refl (fun _ => False) w4).alloc (.cells #[.int .u8 x.p.id, .int .u16 x.p.kind, .slice (some ⟨g4, 0, none⟩) x.p.sec.length (x.p.sec.length + 64), .int .i64 x.p.sf, .int .i64 x.p.su, .int .i64 x.p.tf, .int .i64 x.p.tu] 61))
      refine hK.out _ _ hs5 (fun _ => ?_)
      clear hK K
      generalize w4.alloc (.cells #[.int .u8 x.p.id, .int .u16 x.p.kind, .slice (some ⟨g4, 0, none⟩) x.p.sec.length (x.p.sec.length + 64), .int .i64 x.p.sf, .int .i64 x.p.su, .int .i64 x.p.tf, .int .i64 x.p.tu] 61) = w5 at hgv5 hy5 hc5 hs5 ⊢
      generalize w4.heap.size = g5 at hc5 ⊢
      have GV5 : Hid (Given w w5 (.slice sa ls.length sc) (ks.take k) ls ∧ WideKE w5 w.heap.size ⟨x.p, some ⟨g4, 0, none⟩, x.p.sec.length + 64⟩) := ⟨hgv5, hy5⟩
      clear hgv5 hy5 GV4 hb4
      refine wpAnyH_ready (rs := [18]) (by kernel_rfl) (by simp) ?_
      refine AllReadyH.cons rfl (fun K hK => ?_) AllReadyH.nil
      refine step_key_app rfl (.tmp 16) (.tmp 33) rfl w (.slice sa ls.length sc) ls (by first | rfl | (rw [hll]; rfl)) GV5.out.1.buf ⟨x.p, some ⟨g4, 0, none⟩, x.p.sec.length + 64⟩ ⟨g5, 0, none⟩ rfl hc5 (by omega) (fun v6 w6 hv6 hg6 => ?_)
      have GV6 : Hid (Given w w6 v6 (ks.take (k + 1)) (ls ++ [⟨x.p, some ⟨g4, 0, none⟩, x.p.sec.length + 64⟩])) := GV5.out.1.more GV5.out.2 OXa.out.all hxl HTK.out hv6 hg6
      simp only [Act.put, List.setIfInBounds_toArray]
      refine hK.out _ _ (⟨hs5.t.grown hg6 (fun g hg => Or.inl (HOB.out g hg))⟩) (fun hHeld => ?_)
      clear hK K hv6 hg6
      refine wpAnyH_take (i := 19) (oi := ⟨some 3, _, _, _, _, _⟩) (v := v6) rfl (by kernel_rfl) (by kernel_rfl) (by kernel_rfl) (fun _ _ _ h => h) (Or.inl ⟨by rfl, fun w hw => by go_simp⟩) (by assumption) ?_
      simp only [Act.put]
      refine wpAnyH_done (by kernel_rfl) ?_ _
      go_wp2_with fail
      go_roundg (ks.length - (k + 1))
      case measure => omega
      case rel => exact ⟨k + 1, _, _, by omega, by omega, by go_num, rfl, GV6.out⟩
    · have hlt' : ¬ ((k : Int) < (ks.length : Int)) := by omega
      have e : ks.take k = ks := List.take_of_length_le (by omega)
      rw [e] at GV
      go_wp2_with fail
      go_ret
      exact ⟨_, rfl, ls, by have e := GV.out; rw [hll] at e; exact e⟩
end Go.Proofs.YtjjgbcjgmjggnaaGreatDoor
