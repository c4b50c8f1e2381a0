/- Package packet's reader: number, small, short, neighbor. -/
import Derived.Test.YtfhkocpnealblaaGreatReader
import Derived.Test.YtfhkocpnealblaaGreatStRd
import Derived.Test.YtfhkocpnealblaaGreatNumber
import Derived.Test.YtfhkocpnealblaaGreatParts
import Derived.Test.YtfhkocpnealblaaGreatOctRd
namespace Go.Proofs.YtfhkocpnealblaaGreat
open Go.RowKit
set_option linter.unusedVariables false
set_option maxRecDepth 100000

/-- The number of n bytes at a place. -/
def nAt (rs : List Int) (p n : Nat) : Int := numOf ((rs.drop p).take n)
theorem nAt_bound {rs : List Int} (hb : ∀ x ∈ rs, 0 ≤ x ∧ x < 256) (p n : Nat) (h : p + n ≤ rs.length) : 0 ≤ nAt rs p n ∧ nAt rs p n < 256 ^ n := by
  have := numOf_bound ((rs.drop p).take n) (fun z hz => hb z (List.mem_of_mem_drop (List.mem_of_mem_take hz)))
  rw [show ((rs.drop p).take n).length = n by simp; omega] at this
  exact this
theorem nAt_one {rs : List Int} {p : Nat} (h : p < rs.length) : nAt rs p 1 = rs.getD p 0 := by
  unfold nAt
  rw [List.drop_eq_getElem_cons h, List.take_succ_cons, List.take_zero]
  simp [numOf, List.getD, h]
/-- Either it is read, or it is given up with 22. -/
structure RP (N : Nat) (w : World) (b : Nat) (rs : List Int) (p n : Nat) (v : Value) (e : Ending) (w' : World) : Prop where
  out : (e = .returned v ∧ p + n ≤ rs.length ∧ Rdr N w' b rs (some (p + n)) ∧ Touch (fun k => k = b) w w') ∨ (e = .panicked (pflawC 22) ∧ rs.length < p + n ∧ Touch (fun k => k = b) w w')
set_option maxHeartbeats 1000000 in
theorem prnum_n (n : Nat) (h1 : 1 ≤ n) (h4 : n ≤ 4) (N b p : Nat) (rs : List Int) (w : World) (h : Rdr N w b rs (some p)) :
    Calls Tryz.prog 77 #[.agg #[.pointer (some ⟨b, 0, none⟩)], .int .i64 (n : Int)] w (RP N w b rs p n (.int .u32 (nAt rs p n))) := by
  have hb := h.lt
  have HN := rnum_r N b n rs (some p) _ (h.keep ((Touch.refl _ _).alloc (.cells #[.pointer (some ⟨b, 0, none⟩)] 100))) h1 h4
  have hne : ¬ w.heap.size = b := by omega
  by_cases hp : p + n ≤ rs.length
  · rw [show numAt rs (some p) n = nAt rs p n by simp [numAt, nAt, hp], show nextAt rs (some p) n = some (p + n) by simp [nextAt, hp]] at HN
    go_enter Tryz.func77, Tryz.ntmps77
    go_wp2_with fail
    refine Calls.mono HN ?_
    rintro e w1 ⟨rfl, r1, t1⟩
    have c1 : w1.cell? ⟨w.heap.size, 0, none⟩ = some (.pointer (some ⟨b, 0, none⟩)) := (t1.cell (p := ⟨w.heap.size, 0, none⟩) (by simp) hne).trans (by simp [go_sem])
    have HE := err_r N b rs (some (p + n)) w1 r1
    rw [if_neg (by simp)] at HE
    have T1 : Hid (Touch (fun k => k = b) w w1) := ((Touch.refl _ w).alloc _).trans t1
    clear t1 HN h
    go_wp2_with fail
    refine Calls.mono HE ?_
    rintro e w2 ⟨rfl, rfl⟩
    go_wp2_with (go_at_call 42; refine (pneed_ok 22 _).mono ?_; rintro e w2 ⟨rfl, rfl⟩)
    go_ret
    exact ⟨Or.inl ⟨rfl, hp, r1, T1.out⟩⟩
  · rw [show numAt rs (some p) n = 0 by simp [numAt, hp], show nextAt rs (some p) n = none by simp [nextAt, hp]] at HN
    go_enter Tryz.func77, Tryz.ntmps77
    go_wp2_with fail
    refine Calls.mono HN ?_
    rintro e w1 ⟨rfl, r1, t1⟩
    have c1 : w1.cell? ⟨w.heap.size, 0, none⟩ = some (.pointer (some ⟨b, 0, none⟩)) := (t1.cell (p := ⟨w.heap.size, 0, none⟩) (by simp) hne).trans (by simp [go_sem])
    have HE := err_r N b rs none w1 r1
    rw [if_pos rfl] at HE
    have T1 : Hid (Touch (fun k => k = b) w w1) := ((Touch.refl _ w).alloc _).trans t1
    clear t1 HN h
    go_wp2_with fail
    refine Calls.mono HE ?_
    rintro e w2 ⟨rfl, rfl⟩
    go_wp2_with (go_at_call 42; refine (pneed_no 22 _).mono ?_; rintro e w2 ⟨rfl, rfl⟩)
    exact ⟨rfl, ⟨Or.inr ⟨rfl, by omega, T1.out⟩⟩⟩
theorem prnum (n : Int) (hn : n = 1 ∨ n = 2 ∨ n = 4) (N b p : Nat) (rs : List Int) (w : World) (h : Rdr N w b rs (some p)) :
    Calls Tryz.prog 77 #[.agg #[.pointer (some ⟨b, 0, none⟩)], .int .i64 n] w (RP N w b rs p n.toNat (.int .u32 (nAt rs p n.toNat))) := by
  rcases hn with rfl | rfl | rfl
  · exact prnum_n 1 (by omega) (by omega) N b p rs w  h
  · exact prnum_n 2 (by omega) (by omega) N b p rs w  h
  · exact prnum_n 4 (by omega) (by omega) N b p rs w  h

set_option maxHeartbeats 1000000 in
theorem prsmall (N b p : Nat) (rs : List Int) (w : World) (h : Rdr N w b rs (some p)) :
    Calls Tryz.prog 75 #[.agg #[.pointer (some ⟨b, 0, none⟩)]] w (RP N w b rs p 1 (.int .u8 (nAt rs p 1))) := by
  have HN := prnum 1 (by omega) N b p rs _ (h.keep ((Touch.refl _ _).alloc (.cells #[.pointer (some ⟨b, 0, none⟩)] 100)))
  go_enter Tryz.func75, Tryz.ntmps75
  go_wp2_with fail
  refine Calls.mono HN ?_
  intro e w1 h1
  rcases h1.out with ⟨rfl, l1, r1, t1⟩ | ⟨rfl, l1, t1⟩
  · have T1 : Hid (Touch (fun k => k = b) w w1) := ((Touch.refl _ w).alloc _).trans t1
    have hw : IntKind.u8.wrap (nAt rs p 1) = nAt rs p 1 := by have := nAt_bound h.byte p 1 l1; simp [IntKind.wrap, IntKind.bits, IntKind.signed]; omega
    clear HN h1 t1
    go_wp2
    go_ret
    exact ⟨Or.inl ⟨rfl, l1, r1, T1.out⟩⟩
  · exact ⟨rfl, ⟨Or.inr ⟨rfl, l1, ((Touch.refl _ w).alloc _).trans t1⟩⟩⟩

set_option maxHeartbeats 1000000 in
theorem prshort (N b p : Nat) (rs : List Int) (w : World) (h : Rdr N w b rs (some p)) :
    Calls Tryz.prog 76 #[.agg #[.pointer (some ⟨b, 0, none⟩)]] w (RP N w b rs p 2 (.int .u16 (nAt rs p 2))) := by
  have HN := prnum 2 (by omega) N b p rs _ (h.keep ((Touch.refl _ _).alloc (.cells #[.pointer (some ⟨b, 0, none⟩)] 100)))
  go_enter Tryz.func76, Tryz.ntmps76
  go_wp2_with fail
  refine Calls.mono HN ?_
  intro e w1 h1
  rcases h1.out with ⟨rfl, l1, r1, t1⟩ | ⟨rfl, l1, t1⟩
  · have T1 : Hid (Touch (fun k => k = b) w w1) := ((Touch.refl _ w).alloc _).trans t1
    have hw : IntKind.u16.wrap (nAt rs p 2) = nAt rs p 2 := by have := nAt_bound h.byte p 2 l1; simp [IntKind.wrap, IntKind.bits, IntKind.signed]; omega
    clear HN h1 t1
    go_wp2
    go_ret
    exact ⟨Or.inl ⟨rfl, l1, r1, T1.out⟩⟩
  · exact ⟨rfl, ⟨Or.inr ⟨rfl, l1, ((Touch.refl _ w).alloc _).trans t1⟩⟩⟩

set_option maxHeartbeats 1000000 in
theorem prnb (N b p : Nat) (rs : List Int) (w : World) (h : Rdr N w b rs (some p)) :
    Calls Tryz.prog 102 #[.agg #[.pointer (some ⟨b, 0, none⟩)]] w (RP N w b rs p 4 (.int .u32 (nAt rs p 4))) := by
  have HN := prnum 4 (by omega) N b p rs _ (h.keep ((Touch.refl _ _).alloc (.cells #[.pointer (some ⟨b, 0, none⟩)] 100)))
  go_enter Tryz.func102, Tryz.ntmps102
  go_wp2_with fail
  refine Calls.mono HN ?_
  intro e w1 h1
  rcases h1.out with ⟨rfl, l1, r1, t1⟩ | ⟨rfl, l1, t1⟩
  · have T1 : Hid (Touch (fun k => k = b) w w1) := ((Touch.refl _ w).alloc _).trans t1
    clear HN h1 t1
    go_wp2
    go_ret
    exact ⟨Or.inl ⟨rfl, l1, r1, T1.out⟩⟩
  · exact ⟨rfl, ⟨Or.inr ⟨rfl, l1, ((Touch.refl _ w).alloc _).trans t1⟩⟩⟩

/-- So many bytes, as new ones. -/
theorem pbytes_n (n : Nat) (N b p : Nat) (rs : List Int) (w : World) (h : Rdr N w b rs (some p)) (hp : p + n ≤ rs.length) (hc : rs.length ≤ 1000000) :
    Calls Tryz.prog 78 #[.pointer (some ⟨b, 0, none⟩), .int .i64 (n : Int)] w fun e w' => ∃ v, e = .returned v ∧ w'.ownsRow w.heap.size 5 1 v ((rs.drop p).take n).length (bytesOf ((rs.drop p).take n)) ∧ Rdr N w' b rs (some (p + n)) ∧ Touch (fun k => k = b) w w' := by
  obtain ⟨rv, p', err, h, hb, ho, ⟨e, rfl⟩ | ⟨e, rfl⟩⟩ := h
  · cases e
    have hs : stepR rs.length p 0 (n : Int) = (p + n, 0, true) := by
      rw [stepR_ok _ _ _ (by omega) (by omega)]
      simp
    refine (rbytes_all b p _ 0 rv rs w h (by omega) (by omega)).mono ?_
    rintro e w' ⟨v, rfl, hown, hr, t⟩
    have hg : gotR rs p 0 (n : Int) = (rs.drop p).take n := by
      simp only [gotR, hs, if_true, Int.toNat_natCast]
    rw [hg] at hown
    rw [hs] at hr
    exact ⟨v, rfl, hown, ⟨rv, _, _, hr, hb, ho, Or.inl ⟨rfl, rfl⟩⟩, t⟩
  · cases e
/-- Of x nothing outside F has turned. -/
structure Onl (F : Nat → Prop) (x w : World) : Prop where
  t : Touch F x w
theorem onl_cell {F : Nat → Prop} {x : World} {p : Addr} {v : Value} (h : x.cell? p = some v) (hf : ¬ F p.block) : ∀ w, Onl F x w → w.cell? p = some v := fun w s => (s.t.cell (lt_of_cellA h) hf).trans h
theorem Onl.step {F G : Nat → Prop} {x w w' : World} (h : Onl F x w) (t : Touch G w w') (hG : ∀ k, G k → F k) : Onl F x w' := ⟨h.t.trans' t (fun i _ g => hG i g)⟩
theorem Onl.keep {F : Nat → Prop} {x w w' : World} (h : Onl F x w) (t : Touch (fun _ => False) w w') : Onl F x w' := h.step t (fun _ f => f.elim)
theorem Onl.set {F : Nat → Prop} {x w : World} (h : Onl F x w) {g : Nat} (hg : F g) (i : Nat) (v : Value) : Onl F x (w.setCell ⟨g, i, none⟩ v) := ⟨Touch.setCell h.t (Or.inl hg) _⟩
end Go.Proofs.YtfhkocpnealblaaGreat

namespace Go.Proofs.YtfhkocpnealblaaGreat
open Go.RowKit
set_option linter.unusedVariables false
set_option maxRecDepth 100000

theorem run_append_keep {P : Program} (w : World) (base : Nat) (t ty e : TypeId) (i : TypeInfo) (z : Value) (size bytes : Nat) (ht : P.underlying t = some (.slice e)) (hi : P.info? e = some i) (hz : i.zero = some z)
    (hsize : i.size = size) (hby : i.bytes = bytes) (hzs : z.cells.size = size) (hsz : 0 < size)
    (v : Value) (n : Nat) (xs : List Value) (hown : w.ownsRow base e size v n xs)
    (a : Addr) (m c : Nat) (news : List Value) (hl : news.length = m * size) (hnews : ∀ j u, news[j]? = some u → w.cell? (a.add j) = some u) (h1 : ∀ u ∈ news, u.oneCell' = true)
    (h63 : n + m ≤ maxLen) (hbytes : (n + m) * bytes ≤ 140737488355328) (hbase : base ≤ w.heap.size) :
    ∃ v' w', (Builtin.append_ #[t, t] ty #[v, .slice (some a) m c]).run P w = .ok v' w' ∧ w'.ownsRow base e size v' (n + m) (xs ++ news) ∧ w'.ownsRow base e size v n xs ∧ w.grownBy w' v.ownBlock ∧
      (v'.ownBlock = v.ownBlock ∨ v'.ownBlock = some w.heap.size) := by
  obtain ⟨v', w', hr, h2, h3, h4, h5⟩ := run_append_own_at (P := P) w base t ty e i z size bytes ht hi hz hsize hby hzs hsz v n xs hown a m c news hl hnews h1 h63 hbytes hbase
  refine ⟨v', w', hr, h2, ?_, h3, h5⟩
  subst hsize
  subst hby
  rcases hown.2 with ⟨rfl, rfl⟩ | ⟨g, cap, cur, rfl, hbg, hg, hnc, hcm, hcs, htake⟩
  · have hx : xs = [] := List.eq_nil_of_length_eq_zero (by simpa using hown.1)
    subst hx
    exact World.ownsRow_nil _ _ _ _
  · by_cases hroom : n + m ≤ cap
    · have hfit : n * i.size + news.length ≤ cur.size := by rw [hl, hcs, ← Nat.add_mul]; exact Nat.mul_le_mul_right _ hroom
      have hr' := run_append_room (P := P) w t ty e i ht hi g n cap cur hg a m c news hl hnews h1 hroom hfit
      rw [hr'] at hr
      obtain ⟨-, rfl⟩ : _ ∧ _ = w' := by simpa using hr
      refine ⟨hown.1, .inr ⟨g, cap, _, rfl, hbg, setRow_heap w g cur _ e _ hg, hnc, hcm, ?_, ?_⟩⟩
      · simp only [List.size_toArray, List.length_append, List.length_take, List.length_drop, Array.length_toList]
        omega
      · rw [htake, ← hown.1]
        exact List.take_left
    · have holds : ∀ j u, xs[j]? = some u → w.cell? ((⟨g, 0, none⟩ : Addr).add j) = some u := hown.cells (g := g) rfl
      have hr' := run_append_grow (P := P) w t ty e i z ht hi hz ⟨g, 0, none⟩ n cap xs hown.1 holds a m c news hl hnews (by omega) (by simp only [maxLen] at h63; omega) (growslice_fits (by omega) hbytes)
      rw [hr'] at hr
      obtain ⟨-, rfl⟩ : _ ∧ _ = w' := by simpa using hr
      exact World.ownsRow.alloc (w := w.drew) hown _

theorem wpList_append_keep {P : Program} (w : World) {ops : Array Oper} {rest : List Oper} {o : Oper} {a : Act} {Q : Exit → Act → World → Prop} (hgd : o.guard = none) (s x : Operand) (t : TypeId)
    (ho : o.op = .call { callee := .builtin .append, args := #[s, x], argTypes := #[t, t] })
    (base : Nat) (e : TypeId) (i : TypeInfo) (z : Value) (size bytes : Nat) (ht : P.underlying t = some (.slice e)) (hi : P.info? e = some i) (hz : i.zero = some z)
    (hsize : i.size = size) (hby : i.bytes = bytes) (hzs : z.cells.size = size) (hsz : 0 < size)
    (v : Value) (n : Nat) (xs : List Value) (hs : a.eval s = v) (hown : w.ownsRow base e size v n xs)
    (ad : Addr) (m c : Nat) (news : List Value) (hx : a.eval x = .slice (some ad) m c) (hl : news.length = m * size) (hnews : ∀ j u, news[j]? = some u → w.cell? (ad.add j) = some u) (h1 : ∀ u ∈ news, u.oneCell' = true)
    (h63 : n + m ≤ maxLen) (hbytes : (n + m) * bytes ≤ 140737488355328) (hbase : base ≤ w.heap.size)
    (h : ∀ v' w', w'.ownsRow base e size v' (n + m) (xs ++ news) → w'.ownsRow base e size v n xs → w.grownBy w' v.ownBlock → (v'.ownBlock = v.ownBlock ∨ v'.ownBlock = some w.heap.size) → wpList P ops Q rest (a.put o.dst v') w') :
    wpList P ops Q (o :: rest) a w := by
  refine wpList_plain hgd fun K hK => ?_
  obtain ⟨v', w', hr, h2, h3, h4, h5⟩ := run_append_keep (P := P) w base t o.type e i z size bytes ht hi hz hsize hby hzs hsz v n xs hown ad m c news hl hnews h1 h63 hbytes hbase
  unfold Oper.wp execOp
  simp only [ho, resolve, invoke, builtin, Sem.run_bind, Sem.run_pure, Result.andThen_ok, List.map_toArray, List.map_cons, List.map_nil, hs, hx, hr]
  exact hK _ _ (h v' w' h2 h3 h4 h5)

/-- What a value that owns a row looks like. -/
theorem own_form {w : World} {base : Nat} {e : TypeId} {size : Nat} {v : Value} {n : Nat} {xs : List Value} (h : w.ownsRow base e size v n xs) : ∃ a c, v = .slice a n c := by
  rcases h.2 with ⟨rfl, rfl⟩ | ⟨g, cap, cur, rfl, _⟩
  · exact ⟨_, _, rfl⟩
  · exact ⟨_, _, rfl⟩
theorem own_base {w : World} {base base' : Nat} {e : TypeId} {size : Nat} {v : Value} {n : Nat} {xs : List Value} (h : w.ownsRow base e size v n xs) (hb : ∀ k, v.ownBlock = some k → base' ≤ k) : w.ownsRow base' e size v n xs := by
  obtain ⟨h1, h2⟩ := h
  refine ⟨h1, ?_⟩
  rcases h2 with h2 | ⟨g, cap, cur, rfl, hg, hh⟩
  · exact Or.inl h2
  · exact Or.inr ⟨g, cap, cur, rfl, hb g rfl, hh⟩
end Go.Proofs.YtfhkocpnealblaaGreat

namespace Go.Proofs.YtfhkocpnealblaaGreat
open Go.RowKit
set_option linter.unusedVariables false
set_option maxRecDepth 100000

/-- What Put does to a writer's bytes and error. -/
def putB (bs : List Int) (most err : Int) (ns : List Int) : List Int := if err = 0 ∧ (bs.length : Int) + ns.length ≤ most then bs ++ ns else bs
def putE (bs : List Int) (most err : Int) (ns : List Int) : Int := if err = 0 then (if (bs.length : Int) + ns.length ≤ most then 0 else 11) else err

/-- Where the row lies then. -/
def Moved (w : World) (v v' : Value) : Prop := v'.ownBlock = v.ownBlock ∨ ∃ g, v'.ownBlock = some g ∧ w.heap.size ≤ g

theorem WrS.setErr {w : World} {b : Nat} {v : Value} {bs : List Int} {most err : Int} (h : WrS w b v bs most err) (q : Int) : WrS (w.setCell ⟨b, 3, none⟩ (.int .i64 q)) b v bs most q := by
  exact ⟨by simp [h.made, go_sem], by simp [h.row, go_sem], by simp [h.most, go_sem], by simp [h.err, go_sem], by simp [h.f1, go_sem], by simp [h.f3, go_sem], own_setCell h.own (Nat.lt_succ_self b) _⟩
theorem WrS.touchErr {w : World} {b : Nat} {v : Value} (q : Value) : Touch (wrF b v) w (w.setCell ⟨b, 3, none⟩ q) := Touch.setCell (F := wrF b v) (p := ⟨b, 3, none⟩) (Touch.refl _ w) (Or.inl (Or.inl rfl)) _

theorem wrefuse_any (b : Nat) (q err : Int) (w : World) (h3 : w.cell? ⟨b, 3, none⟩ = some (.int .i64 err)) (hf : w.frozen? ⟨b, 3, none⟩ = false) :
    Calls Tryz.prog 111 #[.pointer (some ⟨b, 0, none⟩), .int .i64 q] w fun e w' => e = .returned (.pointer (some ⟨b, 0, none⟩)) ∧ w.setCell ⟨b, 3, none⟩ (.int .i64 q) = w' := by
  go_enter Tryz.func111, Tryz.ntmps111
  go_wp2
  go_ret
  exact ⟨rfl, rfl⟩

theorem put_dead (b : Nat) (v : Value) (bs : List Int) (most err : Int) (s : Value) (w : World) (h : WrS w b v bs most err) (he : ¬ err = 0) :
    Calls Tryz.prog 92 #[.pointer (some ⟨b, 0, none⟩), s] w fun e w' => e = .returned (.pointer (some ⟨b, 0, none⟩)) ∧ w = w' := by
  have h0 := h.made
  have h3 := h.err
  have he' : (err == 0) = false := by simpa using he
  go_enter Tryz.func92, Tryz.ntmps92
  go_wp2_with (go_at_call 98; refine (whole_any _ err _ h0 h3).mono ?_; rintro e w' ⟨rfl, rfl⟩)
  go_ret
  exact ⟨rfl, rfl⟩

theorem put_long (b : Nat) (v : Value) (bs : List Int) (most : Int) (a : Option Addr) (m c : Nat) (w : World) (h : WrS w b v bs most 0) (hfit : most < (bs.length : Int) + m) (hcap : bs.length + m ≤ 1099511627776) :
    Calls Tryz.prog 92 #[.pointer (some ⟨b, 0, none⟩), .slice a m c] w fun e w' => e = .returned (.pointer (some ⟨b, 0, none⟩)) ∧ ∃ n, (w.drewN n).setCell ⟨b, 3, none⟩ (.int .i64 11) = w' := by
  have h0 := h.made
  have h1 := h.row
  have h2 := h.most
  have h3 := h.err
  have hf := h.f3
  have hlt := lt_of_cell h0
  obtain ⟨va, vc, rfl⟩ := own_form h.own
  clear h
  go_enter Tryz.func92, Tryz.ntmps92
  go_wp2_with (go_at_call 98; refine (whole_any _ 0 _ h0 h3).mono ?_; rintro e w' ⟨rfl, rfl⟩)
  go_quiet (fail)
  go_wp2_with (go_at_call 111; refine (wrefuse_any _ _ 0 _ (by simpa using h3) (by simpa using hf)).mono ?_; rintro e w' ⟨rfl, rfl⟩)
  go_ret
  exact ⟨rfl, _, rfl⟩

theorem put_all (b : Nat) (v : Value) (bs : List Int) (most err : Int) (ad : Addr) (c : Nat) (ns : List Int) (w : World) (h : WrS w b v bs most err) (hs : ∀ j u, (bytesOf ns)[j]? = some u → w.cell? (ad.add j) = some u) (hcap : bs.length + ns.length ≤ 1099511627776) :
    Calls Tryz.prog 92 #[.pointer (some ⟨b, 0, none⟩), .slice (some ad) ns.length c] w fun e w' => e = .returned (.pointer (some ⟨b, 0, none⟩)) ∧
      ∃ v', WrS w' b v' (putB bs most err ns) most (putE bs most err ns) ∧ Touch (wrF b v) w w' ∧ Moved w v v' := by
  by_cases he : err = 0
  · subst he
    by_cases hfit : (bs.length : Int) + ns.length ≤ most
    · refine (put_ok b v bs most ad c ns w h hs hfit hcap).mono ?_
      rintro e w' ⟨rfl, v', h1, h2, h3⟩
      exact ⟨rfl, v', by simpa [putB, putE, hfit] using h1, h2, h3⟩
    · refine (put_long b v bs most (some ad) ns.length c w h (by omega) hcap).mono ?_
      rintro e w' ⟨rfl, n, rfl⟩
      refine ⟨rfl, v, ?_, ?_, Or.inl rfl⟩
      · simpa [putB, putE, hfit] using (h.drewN n).setErr 11
      · exact ((Touch.refl _ w).drewN n).trans (WrS.touchErr _)
  · refine (put_dead b v bs most err _ w h he).mono ?_
    rintro e w' ⟨rfl, rfl⟩
    exact ⟨rfl, v, by simpa [putB, putE, he] using h, Touch.refl _ _, Or.inl rfl⟩

theorem done_dead (b : Nat) (v : Value) (bs : List Int) (most err : Int) (w : World) (h : WrS w b v bs most err) (he : ¬ err = 0) :
    Calls Tryz.prog 72 #[.pointer (some ⟨b, 0, none⟩)] w fun e w' => e = .returned (.tuple #[.slice none 0 0, .int .i64 err]) ∧ w = w' := by
  have h0 := h.made
  have h3 := h.err
  have he' : (err == 0) = false := by simpa using he
  go_enter Tryz.func72, Tryz.ntmps72
  go_wp2_with (first | (go_at_call 98; refine (whole_any _ err _ h0 h3).mono ?_; rintro e w' ⟨rfl, rfl⟩) | (go_at_call 99; refine (fault_any _ err _ h0 h3).mono ?_; rintro e w' ⟨rfl, rfl⟩))
  go_ret2
  exact ⟨rfl, rfl⟩

theorem write_neg (most : Int) (w : World) (hm : most < 0) :
    Calls Tryz.prog 47 #[.int .i64 most] w fun e w' => e = .returned (.pointer (some ⟨w.heap.size, 0, none⟩)) ∧ WrS w' w.heap.size (.slice none 0 0) [] 0 0 ∧ Touch (fun _ => False) w w' := by
  go_enter Tryz.func47, Tryz.ntmps47
  go_wp2
  go_ret
  refine ⟨rfl, ⟨by simp, by simp, by simp, by simp, by simp, by simp, World.ownsRow_nil _ _ _ _⟩, (Touch.refl _ w).alloc _⟩

theorem spell_dead (b : Nat) (x n err : Int) (f : Value) (w : World) (h0 : w.cell? ⟨b, 0, none⟩ = some (.bool true)) (h3 : w.cell? ⟨b, 3, none⟩ = some (.int .i64 err)) (he : (err == 0) = false) :
    Calls Tryz.prog 96 #[.pointer (some ⟨b, 0, none⟩), .int .u32 x, .int .i64 n, f] w fun e w' => e = .returned (.pointer (some ⟨b, 0, none⟩)) ∧ w = w' := by
  go_enter Tryz.func96, Tryz.ntmps96
  go_wp2_with (go_at_call 98; refine (whole_any _ err _ h0 h3).mono ?_; rintro e w' ⟨rfl, rfl⟩)
  go_ret
  exact ⟨rfl, rfl⟩

/-- A number that has not so many bytes, or a size that there is not: refused. -/
theorem spell_arg (b : Nat) (x n : Int) (f : Value) (w : World) (h0 : w.cell? ⟨b, 0, none⟩ = some (.bool true)) (h3 : w.cell? ⟨b, 3, none⟩ = some (.int .i64 0)) (hf : w.frozen? ⟨b, 3, none⟩ = false) (hx : 0 ≤ x ∧ x < 4294967296)
    (hn : n < 1 ∨ 4 < n ∨ (n = 1 ∧ 256 ≤ x) ∨ (n = 2 ∧ 65536 ≤ x) ∨ (n = 3 ∧ 16777216 ≤ x)) :
    Calls Tryz.prog 96 #[.pointer (some ⟨b, 0, none⟩), .int .u32 x, .int .i64 n, f] w fun e w' => e = .returned (.pointer (some ⟨b, 0, none⟩)) ∧ w.setCell ⟨b, 3, none⟩ (.int .i64 1) = w' := by
  obtain ⟨hx0, hx1⟩ := hx
  have hw := whole_any b 0 w h0 h3
  have hr := wrefuse_any b 1 0 w h3 hf
  rcases hn with hn | hn | ⟨rfl, hn⟩ | ⟨rfl, hn⟩ | ⟨rfl, hn⟩
  · go_enter Tryz.func96, Tryz.ntmps96
    go_wp2_with (first | (go_at_call 98; refine hw.mono ?_; rintro e w' ⟨rfl, rfl⟩) | (go_at_call 111; refine hr.mono ?_; rintro e w' ⟨rfl, rfl⟩))
    go_ret
    exact ⟨rfl, rfl⟩
  · have h1 : decide (n < 1) = false := by simp; omega
    go_enter Tryz.func96, Tryz.ntmps96
    go_wp2_with (first | (go_at_call 98; refine hw.mono ?_; rintro e w' ⟨rfl, rfl⟩) | (go_at_call 111; refine hr.mono ?_; rintro e w' ⟨rfl, rfl⟩))
    go_ret
    exact ⟨rfl, rfl⟩
  · have hne : (x / 256 != 0) = true := by simp; omega
    go_enter Tryz.func96, Tryz.ntmps96
    go_wp2_with (first | (go_at_call 98; refine hw.mono ?_; rintro e w' ⟨rfl, rfl⟩) | (go_at_call 111; refine hr.mono ?_; rintro e w' ⟨rfl, rfl⟩))
    go_ret
    exact ⟨rfl, rfl⟩
  · have hne : (x / 65536 != 0) = true := by simp; omega
    go_enter Tryz.func96, Tryz.ntmps96
    go_wp2_with (first | (go_at_call 98; refine hw.mono ?_; rintro e w' ⟨rfl, rfl⟩) | (go_at_call 111; refine hr.mono ?_; rintro e w' ⟨rfl, rfl⟩))
    go_ret
    exact ⟨rfl, rfl⟩
  · have hne : (x / 16777216 != 0) = true := by simp; omega
    go_enter Tryz.func96, Tryz.ntmps96
    go_wp2_with (first | (go_at_call 98; refine hw.mono ?_; rintro e w' ⟨rfl, rfl⟩) | (go_at_call 111; refine hr.mono ?_; rintro e w' ⟨rfl, rfl⟩))
    go_ret
    exact ⟨rfl, rfl⟩

theorem wnumber_dead (b : Nat) (v : Value) (bs : List Int) (most err : Int) (x n : Int) (w : World) (h : WrS w b v bs most err) (he : ¬ err = 0) :
    Calls Tryz.prog 93 #[.pointer (some ⟨b, 0, none⟩), .int .u32 x, .int .i64 n] w fun e w' => e = .returned (.pointer (some ⟨b, 0, none⟩)) ∧ w = w' := by
  have hmf : ∀ (fn : Fn) (first cap : Array Value) (w : World), (Instr.makeFunc fn first cap).run Tryz.prog w = .ok (.func fn first cap) w := fun _ _ _ _ => rfl
  go_enter Tryz.func93, Tryz.ntmps93
  go_wp2_with (go_at_call 96; refine (spell_dead _ _ _ err _ _ h.made h.err (by simpa using he)).mono ?_; rintro e w' ⟨rfl, rfl⟩)
  go_ret
  exact ⟨rfl, rfl⟩

theorem wnumber_arg (b : Nat) (v : Value) (bs : List Int) (most : Int) (x n : Int) (w : World) (h : WrS w b v bs most 0) (hx : 0 ≤ x ∧ x < 4294967296)
    (hn : n < 1 ∨ 4 < n ∨ (n = 1 ∧ 256 ≤ x) ∨ (n = 2 ∧ 65536 ≤ x) ∨ (n = 3 ∧ 16777216 ≤ x)) :
    Calls Tryz.prog 93 #[.pointer (some ⟨b, 0, none⟩), .int .u32 x, .int .i64 n] w fun e w' => e = .returned (.pointer (some ⟨b, 0, none⟩)) ∧ w.setCell ⟨b, 3, none⟩ (.int .i64 1) = w' := by
  have hmf : ∀ (fn : Fn) (first cap : Array Value) (w : World), (Instr.makeFunc fn first cap).run Tryz.prog w = .ok (.func fn first cap) w := fun _ _ _ _ => rfl
  have hs := fun f => spell_arg b x n f w h.made h.err h.f3 hx hn
  clear hn
  go_enter Tryz.func93, Tryz.ntmps93
  go_wp2_with (go_at_call 96; refine (hs _).mono ?_; rintro e w' ⟨rfl, rfl⟩)
  go_ret
  exact ⟨rfl, rfl⟩

theorem wnumber_put1 (b : Nat) (v : Value) (bs : List Int) (most : Int) (x : Int) (w : World) (h : WrS w b v bs most 0) (hx : 0 ≤ x ∧ x < 256) (hcap : bs.length ≤ 1048576) :
    Calls Tryz.prog 93 #[.pointer (some ⟨b, 0, none⟩), .int .u32 x, .int .i64 1] w fun e w' => e = .returned (.pointer (some ⟨b, 0, none⟩)) ∧
      ∃ v', WrS w' b v' (putB bs most 0 (numBytes 1 x)) most (putE bs most 0 (numBytes 1 x)) ∧ Touch (wrF b v) w w' ∧ Moved w v v' := by
  obtain ⟨hx0, hx1⟩ := hx
  have hmf : ∀ (fn : Fn) (first cap : Array Value) (w : World), (Instr.makeFunc fn first cap).run Tryz.prog w = .ok (.func fn first cap) w := fun _ _ _ _ => rfl
  have h0 := h.made
  have h3 := h.err
  have HN : Hid (numBytes 1 x = [x]) := by show _ = _; simp [numBytes]; omega
  go_enter Tryz.func93, Tryz.ntmps93
  go_wp2_with (first | (go_at_call 98; refine (whole_any _ 0 _ (by assumption) (by assumption)).mono ?_; rintro e w' ⟨rfl, rfl⟩) | (go_at_call 96; go_in))
  refine (put_all b v bs most 0 ⟨w.heap.size, 3, none⟩ 1 [x] _ (h.alloc _) (src_new _ _ _ _ _ (by simp [bytesOf])) (by simp; omega)).mono ?_
  rintro e w' ⟨rfl, v', hw, ht, ha⟩
  clear hmf h0 h3
  go_wp2
  go_ret
  rw [HN.out]
  refine ⟨rfl, v', hw, ((Touch.refl _ _).alloc _).trans ht, ?_⟩
  rcases ha with ha | ⟨g, hg, hl⟩
  · exact Or.inl ha
  · exact Or.inr ⟨g, hg, by simp at hl; omega⟩

theorem wnumber_put2 (b : Nat) (v : Value) (bs : List Int) (most : Int) (x : Int) (w : World) (h : WrS w b v bs most 0) (hx : 0 ≤ x ∧ x < 65536) (hcap : bs.length ≤ 1048576) :
    Calls Tryz.prog 93 #[.pointer (some ⟨b, 0, none⟩), .int .u32 x, .int .i64 2] w fun e w' => e = .returned (.pointer (some ⟨b, 0, none⟩)) ∧
      ∃ v', WrS w' b v' (putB bs most 0 (numBytes 2 x)) most (putE bs most 0 (numBytes 2 x)) ∧ Touch (wrF b v) w w' ∧ Moved w v v' := by
  obtain ⟨hx0, hx1⟩ := hx
  have hmf : ∀ (fn : Fn) (first cap : Array Value) (w : World), (Instr.makeFunc fn first cap).run Tryz.prog w = .ok (.func fn first cap) w := fun _ _ _ _ => rfl
  have h0 := h.made
  have h3 := h.err
  have HN : Hid (numBytes 2 x = [x / 256, x % 256]) := by show _ = _; simp [numBytes]; omega
  go_enter Tryz.func93, Tryz.ntmps93
  go_wp2_with (first | (go_at_call 98; refine (whole_any _ 0 _ (by assumption) (by assumption)).mono ?_; rintro e w' ⟨rfl, rfl⟩) | (go_at_call 96; go_in))
  refine (put_all b v bs most 0 ⟨w.heap.size, 2, none⟩ 2 [x / 256, x % 256] _ (h.alloc _) (src_new _ _ _ _ _ (by simp [bytesOf])) (by simp; omega)).mono ?_
  rintro e w' ⟨rfl, v', hw, ht, ha⟩
  clear hmf h0 h3
  go_wp2
  go_ret
  rw [HN.out]
  refine ⟨rfl, v', hw, ((Touch.refl _ _).alloc _).trans ht, ?_⟩
  rcases ha with ha | ⟨g, hg, hl⟩
  · exact Or.inl ha
  · exact Or.inr ⟨g, hg, by simp at hl; omega⟩

theorem wnumber_put3 (b : Nat) (v : Value) (bs : List Int) (most : Int) (x : Int) (w : World) (h : WrS w b v bs most 0) (hx : 0 ≤ x ∧ x < 16777216) (hcap : bs.length ≤ 1048576) :
    Calls Tryz.prog 93 #[.pointer (some ⟨b, 0, none⟩), .int .u32 x, .int .i64 3] w fun e w' => e = .returned (.pointer (some ⟨b, 0, none⟩)) ∧
      ∃ v', WrS w' b v' (putB bs most 0 (numBytes 3 x)) most (putE bs most 0 (numBytes 3 x)) ∧ Touch (wrF b v) w w' ∧ Moved w v v' := by
  obtain ⟨hx0, hx1⟩ := hx
  have hmf : ∀ (fn : Fn) (first cap : Array Value) (w : World), (Instr.makeFunc fn first cap).run Tryz.prog w = .ok (.func fn first cap) w := fun _ _ _ _ => rfl
  have h0 := h.made
  have h3 := h.err
  have HN : Hid (numBytes 3 x = [x / 65536, x / 256 % 256, x % 256]) := by show _ = _; simp [numBytes]; omega
  go_enter Tryz.func93, Tryz.ntmps93
  go_wp2_with (first | (go_at_call 98; refine (whole_any _ 0 _ (by assumption) (by assumption)).mono ?_; rintro e w' ⟨rfl, rfl⟩) | (go_at_call 96; go_in))
  refine (put_all b v bs most 0 ⟨w.heap.size, 1, none⟩ 3 [x / 65536, x / 256 % 256, x % 256] _ (h.alloc _) (src_new _ _ _ _ _ (by simp [bytesOf])) (by simp; omega)).mono ?_
  rintro e w' ⟨rfl, v', hw, ht, ha⟩
  clear hmf h0 h3
  go_wp2
  go_ret
  rw [HN.out]
  refine ⟨rfl, v', hw, ((Touch.refl _ _).alloc _).trans ht, ?_⟩
  rcases ha with ha | ⟨g, hg, hl⟩
  · exact Or.inl ha
  · exact Or.inr ⟨g, hg, by simp at hl; omega⟩

theorem wnumber_put4 (b : Nat) (v : Value) (bs : List Int) (most : Int) (x : Int) (w : World) (h : WrS w b v bs most 0) (hx : 0 ≤ x ∧ x < 4294967296) (hcap : bs.length ≤ 1048576) :
    Calls Tryz.prog 93 #[.pointer (some ⟨b, 0, none⟩), .int .u32 x, .int .i64 4] w fun e w' => e = .returned (.pointer (some ⟨b, 0, none⟩)) ∧
      ∃ v', WrS w' b v' (putB bs most 0 (numBytes 4 x)) most (putE bs most 0 (numBytes 4 x)) ∧ Touch (wrF b v) w w' ∧ Moved w v v' := by
  obtain ⟨hx0, hx1⟩ := hx
  have hmf : ∀ (fn : Fn) (first cap : Array Value) (w : World), (Instr.makeFunc fn first cap).run Tryz.prog w = .ok (.func fn first cap) w := fun _ _ _ _ => rfl
  have h0 := h.made
  have h3 := h.err
  have HN : Hid (numBytes 4 x = [x / 16777216, x / 65536 % 256, x / 256 % 256, x % 256]) := by show _ = _; simp [numBytes]; omega
  go_enter Tryz.func93, Tryz.ntmps93
  go_wp2_with (first | (go_at_call 98; refine (whole_any _ 0 _ (by assumption) (by assumption)).mono ?_; rintro e w' ⟨rfl, rfl⟩) | (go_at_call 96; go_in))
  refine (put_all b v bs most 0 ⟨w.heap.size, 0, none⟩ 4 [x / 16777216, x / 65536 % 256, x / 256 % 256, x % 256] _ (h.alloc _) (src_new _ _ _ _ _ (by simp [bytesOf])) (by simp; omega)).mono ?_
  rintro e w' ⟨rfl, v', hw, ht, ha⟩
  clear hmf h0 h3
  go_wp2
  go_ret
  rw [HN.out]
  refine ⟨rfl, v', hw, ((Touch.refl _ _).alloc _).trans ht, ?_⟩
  rcases ha with ha | ⟨g, hg, hl⟩
  · exact Or.inl ha
  · exact Or.inr ⟨g, hg, by simp at hl; omega⟩

end Go.Proofs.YtfhkocpnealblaaGreat
