/- Contracts: read of a summary, Decode. -/
import Derived.Test.YtfdpmlogieaiaaaStRSum
import Derived.Test.YtfdpmlogieaiaaaStPairs
import Derived.Test.YtfdpmlogieaiaaaStFaceB
namespace Go.Proofs.Ytfdpmlogieaiaaa
open Go.RowKit
set_option linter.unusedVariables false
set_option maxRecDepth 100000

theorem next8 {rs : List Int} (h : rs.length = 8) : nextAt rs (nextAt rs (nextAt rs (some 0) 4) 1) 3 = some 8 := by simp [nextAt, h]
set_option maxHeartbeats 1000000 in
theorem read_sum (v : Value) (rs : List Int) (w : World) (hv : ArgAt w v rs) (hby : ∀ z ∈ rs, 0 ≤ z ∧ z < 256) (hl : rs.length = 8) (M C : Int) (hM : numAt rs (some 0) 4 = M) (hp : pbok M = true) (hz : numAt rs (nextAt rs (some 0) 4) 1 = 0) (hC : numAt rs (nextAt rs (nextAt rs (some 0) 4) 1) 3 = C) :
    Calls Try.prog 28 #[.agg #[.func (.func 68) #[] #[], .func (.func 69) #[] #[]], v] w fun e w' => e = .returned (.agg #[.int .u8 0, .slice none 0 0, .int .u32 M, .slice none 0 0, .int .u32 C, .bool false, .int .u32 0, .int .u32 0, .slice none 0 0]) ∧ Touch (fun _ => False) w w' := by
  have HRs : ∀ (N b : Nat) (w : World), Rdr N w b rs (some 0) → N ≤ w.heap.size → Calls Try.prog 69 #[.agg #[.pointer (some ⟨b, 0, none⟩)]] w fun e w' => e = .returned (.agg #[.int .u8 0, .slice none 0 0, .int .u32 M, .slice none 0 0, .int .u32 C, .bool false, .int .u32 0, .int .u32 0, .slice none 0 0]) ∧ Rdr N w' b rs (some 8) ∧ Touch (fun k => k = b) w w' := fun N b w h hN => by
    have := rsum_ok N b rs w h hN M C hM hp hz hC
    rwa [next8 hl] at this
  have hlf : leftAt rs (some 8) = 0 := by simp [leftAt, hl]
  have HLF : ∀ (N b : Nat) (w : World), Rdr N w b rs (some 8) → Calls Try.prog 50 #[.pointer (some ⟨b, 0, none⟩)] w fun e w' => e = .returned (.int .i64 0) ∧ ∃ n, w' = w.drewN n := fun N b w h => by
    have := left_r N b rs (some 8) w h
    rwa [hlf] at this
  have hsf : ∀ (w : World) (a : Addr) (f : Fn) (x y : Array Value) (m : Mode), (store a (.func f x y) m).run Try.prog w = stored Try.prog w a (.func f x y) m := fun w a f x y m => run_store Try.prog w a _ m rfl
  have HVA : Hid (ArgAt w v rs) := hv
  have HBy : Hid (∀ z ∈ rs, 0 ≤ z ∧ z < 256) := hby
  have HL : Hid (rs.length = 8) := hl
  clear hM hp hz hC hlf hv hby hl
  go_enter Try.func28, Try.ntmps28
  go_wp2_with fail
  refine Calls.mono (read_r v rs _ (HVA.out.keepN (((Touch.refl _ _).alloc _).alloc _)) HBy.out (by rw [HL.out]; omega)) ?_
  rintro e w1 ⟨b, rfl, hb, hr, t1⟩
  have R1 : Hid (Room w1 (w.heap.size + 1) 9) := by
    have := (Room.new (w.alloc (.cells #[.func (.func 68) #[] #[], .func (.func 69) #[] #[]] 64)) #[.int .u8 0, .slice none 0 0, .int .u32 0, .slice none 0 0, .int .u32 0, .bool false, .int .u32 0, .int .u32 0, .slice none 0 0] 30).keep t1
    show Room _ _ _
    simpa using this
  have c0 : w1.cell? ⟨w.heap.size, 0, none⟩ = some (.func (.func 68) #[] #[]) := t1.cellN (by simp [go_sem])
  have c1 : w1.cell? ⟨w.heap.size, 1, none⟩ = some (.func (.func 69) #[] #[]) := t1.cellN (by simp [go_sem])
  have T1 : Hid (Touch (fun _ => False) w w1) := (((Touch.refl _ w).alloc _).alloc _).trans t1
  have hbw : w.heap.size + 1 < b := by simp at hb; omega
  have hs1 : w.heap.size + 1 < w1.heap.size := by have := t1.size; simp at this; omega
  have hlt : w.heap.size < w1.heap.size := by omega
  have hbl : b < w1.heap.size := hr.low
  have hn1 : ¬ w.heap.size = w1.heap.size := by omega
  have HR : Hid (Rdr w1.heap.size w1 b rs (some 0)) := hr
  clear t1 hb hr
  go_wp2_with fail
  refine Calls.mono (HRs w1.heap.size b _ (HR.out.keep ((Touch.refl _ _).alloc _)) (by simp)) ?_
  rintro e w2 ⟨rfl, h2, t2⟩
  have c2 : w2.cell? ⟨w1.heap.size, 0, none⟩ = some (.pointer (some ⟨b, 0, none⟩)) := (t2.cell (p := ⟨w1.heap.size, 0, none⟩) (by simp) (by show ¬ w1.heap.size = b; omega)).trans (by simp [go_sem])
  have R2 : Hid (Room w2 (w.heap.size + 1) 9) := (R1.out.keep ((Touch.refl _ _).alloc _)).touch t2 (by show ¬ w.heap.size + 1 = b; omega)
  have T2 : Hid (Touch (fun _ => False) w w2) := (T1.out.alloc _).trans' t2 (fun i hi e => by omega)
  have hs2 : w1.heap.size < w2.heap.size := by have := t2.size; simp at this; omega
  have H2 : Hid (Rdr w1.heap.size w2 b rs (some 8)) := h2
  have hn3 : ¬ w1.heap.size = w2.heap.size := by omega
  clear t2 h2 HRs HR R1 T1 c0 c1 hsf
  go_upto_region 4 with (first | (go_at_call 49; refine Calls.mono (err_some _ b rs 8 _ (H2.out.keep ((Touch.refl _ _).alloc _))) ?_; rintro e wx ⟨rfl, rfl⟩) | (go_at_call 50; refine Calls.mono (HLF _ b _ (H2.out.keep ((Touch.refl _ _).alloc _))) ?_; rintro e wx ⟨rfl, nl, rfl⟩) | (go_at_call 26; refine Calls.mono (need_t _ 28 _ rfl) ?_; rintro e wx ⟨rfl, rfl⟩))
  have W3o : (w2.alloc (.cells #[.int .u8 0, .slice none 0 0, .int .u32 M, .slice none 0 0, .int .u32 C, .bool false, .int .u32 0, .int .u32 0, .slice none 0 0] 30)).heap.size = w2.heap.size + 1 := by simp
  have O3 : OutB ((w2.alloc (.cells #[.int .u8 0, .slice none 0 0, .int .u32 M, .slice none 0 0, .int .u32 C, .bool false, .int .u32 0, .int .u32 0, .slice none 0 0] 30)).drewN nl) w2.heap.size ⟨0, [], M, [], C, false, 0, 0, []⟩ (.slice none 0 0) (.slice none 0 0) (.slice none 0 0) := (OutB.new w2 ⟨0, [], M, [], C, false, 0, 0, []⟩ (.slice none 0 0) (.slice none 0 0) (.slice none 0 0) 30).keep ((Touch.refl _ _).drewN nl)
  have R3 : Hid (Room ((w2.alloc (.cells #[.int .u8 0, .slice none 0 0, .int .u32 M, .slice none 0 0, .int .u32 C, .bool false, .int .u32 0, .int .u32 0, .slice none 0 0] 30)).drewN nl) (w.heap.size + 1) 9) := R2.out.keep (((Touch.refl _ _).alloc _).drewN nl)
  have T3 : Hid (Touch (fun _ => False) w ((w2.alloc (.cells #[.int .u8 0, .slice none 0 0, .int .u32 M, .slice none 0 0, .int .u32 C, .bool false, .int .u32 0, .int .u32 0, .slice none 0 0] 30)).drewN nl)) := (T2.out.alloc _).drewN nl
  clear W3o R2 T2 H2 HLF c2
  generalize (w2.alloc (.cells #[.int .u8 0, .slice none 0 0, .int .u32 M, .slice none 0 0, .int .u32 C, .bool false, .int .u32 0, .int .u32 0, .slice none 0 0] 30)).drewN nl = w3 at *
  obtain ⟨⟨d0, d1, d2, d3, d4, d5, d6, d7, d8⟩, -⟩ := O3
  dsimp only at d0 d1 d2 d3 d4 d5 d6 d7 d8
  have hm1 : ¬ w.heap.size + 1 = w2.heap.size := by omega
  have hm2 : ¬ w2.heap.size = w.heap.size + 1 := by omega
  generalize hg : w.heap.size + 1 = g at *
  have HG : Hid (w.heap.size + 1 = g) := hg
  clear hg
  obtain ⟨zz0, zc0, zf0⟩ := R3.out 0 (by omega)
  obtain ⟨zz1, zc1, zf1⟩ := R3.out 1 (by omega)
  obtain ⟨zz2, zc2, zf2⟩ := R3.out 2 (by omega)
  obtain ⟨zz3, zc3, zf3⟩ := R3.out 3 (by omega)
  obtain ⟨zz4, zc4, zf4⟩ := R3.out 4 (by omega)
  obtain ⟨zz5, zc5, zf5⟩ := R3.out 5 (by omega)
  obtain ⟨zz6, zc6, zf6⟩ := R3.out 6 (by omega)
  obtain ⟨zz7, zc7, zf7⟩ := R3.out 7 (by omega)
  obtain ⟨zz8, zc8, zf8⟩ := R3.out 8 (by omega)
  obtain ⟨wz, hwz⟩ : ∃ wz, wz = (((((((((w3.setCell ⟨g, 0, none⟩ (.int .u8 0)).setCell ⟨g, 1, none⟩ (.slice none 0 0)).setCell ⟨g, 2, none⟩ (.int .u32 M)).setCell ⟨g, 3, none⟩ (.slice none 0 0)).setCell ⟨g, 4, none⟩ (.int .u32 C)).setCell ⟨g, 5, none⟩ (.bool false)).setCell ⟨g, 6, none⟩ (.int .u32 0)).setCell ⟨g, 7, none⟩ (.int .u32 0)).setCell ⟨g, 8, none⟩ (.slice none 0 0)) := ⟨_, rfl⟩
  have zd0 : wz.cell? ⟨g, 0, none⟩ = some (.int .u8 0) := by rw [hwz]; simp [zc0, go_sem]
  have zd1 : wz.cell? ⟨g, 1, none⟩ = some (.slice none 0 0) := by rw [hwz]; simp [zc1, go_sem]
  have zd2 : wz.cell? ⟨g, 2, none⟩ = some (.int .u32 M) := by rw [hwz]; simp [zc2, go_sem]
  have zd3 : wz.cell? ⟨g, 3, none⟩ = some (.slice none 0 0) := by rw [hwz]; simp [zc3, go_sem]
  have zd4 : wz.cell? ⟨g, 4, none⟩ = some (.int .u32 C) := by rw [hwz]; simp [zc4, go_sem]
  have zd5 : wz.cell? ⟨g, 5, none⟩ = some (.bool false) := by rw [hwz]; simp [zc5, go_sem]
  have zd6 : wz.cell? ⟨g, 6, none⟩ = some (.int .u32 0) := by rw [hwz]; simp [zc6, go_sem]
  have zd7 : wz.cell? ⟨g, 7, none⟩ = some (.int .u32 0) := by rw [hwz]; simp [zc7, go_sem]
  have zd8 : wz.cell? ⟨g, 8, none⟩ = some (.slice none 0 0) := by rw [hwz]; simp [zc8, go_sem]
  have HUz : Hid (Touch (fun k => k = g) w3 wz) := by show Touch _ _ _; rw [hwz]; refine Touch.setCell (F := fun k => k = g) (p := ⟨g, 8, none⟩) ?_ (Or.inl rfl) _; refine Touch.setCell (F := fun k => k = g) (p := ⟨g, 7, none⟩) ?_ (Or.inl rfl) _; refine Touch.setCell (F := fun k => k = g) (p := ⟨g, 6, none⟩) ?_ (Or.inl rfl) _; refine Touch.setCell (F := fun k => k = g) (p := ⟨g, 5, none⟩) ?_ (Or.inl rfl) _; refine Touch.setCell (F := fun k => k = g) (p := ⟨g, 4, none⟩) ?_ (Or.inl rfl) _; refine Touch.setCell (F := fun k => k = g) (p := ⟨g, 3, none⟩) ?_ (Or.inl rfl) _; refine Touch.setCell (F := fun k => k = g) (p := ⟨g, 2, none⟩) ?_ (Or.inl rfl) _; refine Touch.setCell (F := fun k => k = g) (p := ⟨g, 1, none⟩) ?_ (Or.inl rfl) _; refine Touch.setCell (F := fun k => k = g) (p := ⟨g, 0, none⟩) ?_ (Or.inl rfl) _; exact Touch.refl _ _
  have HWz : Hid (wz = (((((((((w3.setCell ⟨g, 0, none⟩ (.int .u8 0)).setCell ⟨g, 1, none⟩ (.slice none 0 0)).setCell ⟨g, 2, none⟩ (.int .u32 M)).setCell ⟨g, 3, none⟩ (.slice none 0 0)).setCell ⟨g, 4, none⟩ (.int .u32 C)).setCell ⟨g, 5, none⟩ (.bool false)).setCell ⟨g, 6, none⟩ (.int .u32 0)).setCell ⟨g, 7, none⟩ (.int .u32 0)).setCell ⟨g, 8, none⟩ (.slice none 0 0))) := hwz
  clear hwz
  go_wp2_with fail
  rw [← HWz.out]
  clear HWz zc0 zf0 zc1 zf1 zc2 zf2 zc3 zf3 zc4 zf4 zc5 zf5 zc6 zf6 zc7 zf7 zc8 zf8
  refine bodyPost_ret (v := .agg #[.int .u8 0, .slice none 0 0, .int .u32 M, .slice none 0 0, .int .u32 C, .bool false, .int .u32 0, .int .u32 0, .slice none 0 0]) (by simp [results, Try.results28, go_sem, zd0, zd1, zd2, zd3, zd4, zd5, zd6, zd7, zd8]) rfl ?_
  exact ⟨rfl, T3.out.trans' HUz.out (fun i hi e => by have := HG.out; omega)⟩

/-- Decode's inner function, where the body has no rows. -/
theorem dec1_ok (g : Nat) (h : HV) (a : Option Addr) (n c : Nat) (PV : Value) (x0 x2 x4 x6 x7 : Int) (x5 : Bool) (w : World) (hS : Sd w g h (.slice a n c)) (hl0 : 0 ≤ h.len ∧ h.len < 65536) (hn : n ≤ 140737488355328) (hlen : h.len = 20 + (n : Int))
    (HP : ∀ w, Calls Try.prog 29 #[.int .u8 h.typ] w fun e w' => e = .returned PV ∧ Touch (fun _ => False) w w')
    (HR : ∀ w', Touch (fun _ => False) w w' → Calls Try.prog 28 #[PV, .slice a n c] w' fun e w'' => e = .returned (.agg #[.int .u8 x0, .slice none 0 0, .int .u32 x2, .slice none 0 0, .int .u32 x4, .bool x5, .int .u32 x6, .int .u32 x7, .slice none 0 0]) ∧ Touch (fun _ => False) w' w'') :
    Calls Try.prog 25 #[.pointer (some ⟨g, 0, none⟩)] w fun e w' => e = .returned (.agg #[.int .u8 x0, .slice none 0 0, .int .u32 x2, .slice none 0 0, .int .u32 x4, .bool x5, .int .u32 x6, .int .u32 x7, .slice none 0 0]) ∧ Touch (fun _ => False) w w' := by
  have HPh : Hid (∀ w, Calls Try.prog 29 #[.int .u8 h.typ] w fun e w' => e = .returned PV ∧ Touch (fun _ => False) w w') := HP
  have HRh : Hid (∀ w', Touch (fun _ => False) w w' → Calls Try.prog 28 #[PV, .slice a n c] w' fun e w'' => e = .returned (.agg #[.int .u8 x0, .slice none 0 0, .int .u32 x2, .slice none 0 0, .int .u32 x4, .bool x5, .int .u32 x6, .int .u32 x7, .slice none 0 0]) ∧ Touch (fun _ => False) w' w'') := HR
  have HLn : ∀ w, Calls Try.prog 27 #[.agg #[.int .u16 h.age, .int .u8 h.opts, .int .u8 h.typ, .int .u32 h.id, .int .u32 h.adv, .int .i32 h.seq, .int .u16 h.sum, .int .u16 h.len, .slice a n c]] w fun e w' => e = .returned (.bool true) ∧ Touch (fun _ => False) w w' := fun w => by
    have := hasLength_any h a n c w hn hl0
    rwa [show (h.len == 20 + (n : Int)) = true by rw [hlen]; simp] at this
  have hgl := lt_of_cell hS.hd.c0
  have HS : Hid (Sd w g h (.slice a n c)) := hS
  obtain ⟨⟨s0, s1, s2, s3, s4, s5, s6, s7⟩, s8⟩ := hS.keep ((Touch.refl (fun _ => False) w).alloc (.cells #[.int .u8 0, .slice none 0 0, .int .u32 0, .slice none 0 0, .int .u32 0, .bool false, .int .u32 0, .int .u32 0, .slice none 0 0] 30))
  clear HP HR hlen hl0 hn hS
  go_enter Try.func25, Try.ntmps25
  go_wp2_with fail
  refine Calls.mono (HLn _) ?_
  rintro e w1 ⟨rfl, t1⟩
  have R1 : Hid (Room w1.drew w.heap.size 9) := ((Room.new w #[.int .u8 0, .slice none 0 0, .int .u32 0, .slice none 0 0, .int .u32 0, .bool false, .int .u32 0, .int .u32 0, .slice none 0 0] 30).keep t1).keep ((Touch.refl _ _).drew)
  have T1 : Hid (Touch (fun _ => False) w w1.drew) := (((Touch.refl _ w).alloc _).trans t1).drew
  have S1 := HS.out.keep T1.out
  have e2 := S1.hd.c2
  have e8 := S1.c8
  have hr : g ≠ w.heap.size := by omega
  clear t1 HLn s0 s1 s2 s3 s4 s5 s6 s7 s8 S1 hgl
  go_upto_region 2 with (go_at_call 26; refine Calls.mono (need_t _ 22 _ rfl) ?_; rintro e wx ⟨rfl, rfl⟩)
  generalize hG : w.heap.size = gr at *
  have HG : Hid (w.heap.size = gr) := hG
  clear hG
  go_region_held3 (fun w' => w'.cell? ⟨g, 2, none⟩ = some (.int .u8 h.typ) ∧ w'.cell? ⟨g, 8, none⟩ = some (.slice a n c)) (first | with_reducible exact ⟨e2, e8⟩ | with_reducible exact ⟨y2, y8⟩ | with_reducible exact ⟨u2, u8⟩ | with_reducible exact ⟨(cell_far9 hr 2 _ _ _ _ _ _ _ _ _).trans u2, (cell_far9 hr 8 _ _ _ _ _ _ _ _ _).trans u8⟩) (first
    | (go_at_call 29; refine Calls.mono (HPh.out _) ?_; rintro e w2 ⟨rfl, t2⟩; have y2 := t2.cellN e2; have y8 := t2.cellN e8; have T2 : Hid (Touch (fun _ => False) w w2) := T1.out.trans t2; have R2 : Hid (Room w2 gr 9) := R1.out.keep t2; clear t2)
    | (go_at_call 28; refine Calls.mono (HRh.out _ T2.out) ?_; rintro e w3 ⟨rfl, t3⟩; have u2 := t3.cellN y2; have u8 := t3.cellN y8; have T3 : Hid (Touch (fun _ => False) w w3) := T2.out.trans t3; have R5 := R2.out.keep t3; clear t3; obtain ⟨zz0, zc0, zf0⟩ := R5 0 (by omega); obtain ⟨zz1, zc1, zf1⟩ := R5 1 (by omega); obtain ⟨zz2, zc2, zf2⟩ := R5 2 (by omega); obtain ⟨zz3, zc3, zf3⟩ := R5 3 (by omega); obtain ⟨zz4, zc4, zf4⟩ := R5 4 (by omega); obtain ⟨zz5, zc5, zf5⟩ := R5 5 (by omega); obtain ⟨zz6, zc6, zf6⟩ := R5 6 (by omega); obtain ⟨zz7, zc7, zf7⟩ := R5 7 (by omega); obtain ⟨zz8, zc8, zf8⟩ := R5 8 (by omega); clear R5))
  clear e2 e8 y2 y8 u2 u8
  obtain ⟨wz, hwz⟩ : ∃ wz, wz = (((((((((w3.setCell ⟨gr, 0, none⟩ (.int .u8 x0)).setCell ⟨gr, 1, none⟩ (.slice none 0 0)).setCell ⟨gr, 2, none⟩ (.int .u32 x2)).setCell ⟨gr, 3, none⟩ (.slice none 0 0)).setCell ⟨gr, 4, none⟩ (.int .u32 x4)).setCell ⟨gr, 5, none⟩ (.bool x5)).setCell ⟨gr, 6, none⟩ (.int .u32 x6)).setCell ⟨gr, 7, none⟩ (.int .u32 x7)).setCell ⟨gr, 8, none⟩ (.slice none 0 0)) := ⟨_, rfl⟩
  have zd0 : wz.cell? ⟨gr, 0, none⟩ = some (.int .u8 x0) := by rw [hwz]; simp [zc0, go_sem]
  have zd1 : wz.cell? ⟨gr, 1, none⟩ = some (.slice none 0 0) := by rw [hwz]; simp [zc1, go_sem]
  have zd2 : wz.cell? ⟨gr, 2, none⟩ = some (.int .u32 x2) := by rw [hwz]; simp [zc2, go_sem]
  have zd3 : wz.cell? ⟨gr, 3, none⟩ = some (.slice none 0 0) := by rw [hwz]; simp [zc3, go_sem]
  have zd4 : wz.cell? ⟨gr, 4, none⟩ = some (.int .u32 x4) := by rw [hwz]; simp [zc4, go_sem]
  have zd5 : wz.cell? ⟨gr, 5, none⟩ = some (.bool x5) := by rw [hwz]; simp [zc5, go_sem]
  have zd6 : wz.cell? ⟨gr, 6, none⟩ = some (.int .u32 x6) := by rw [hwz]; simp [zc6, go_sem]
  have zd7 : wz.cell? ⟨gr, 7, none⟩ = some (.int .u32 x7) := by rw [hwz]; simp [zc7, go_sem]
  have zd8 : wz.cell? ⟨gr, 8, none⟩ = some (.slice none 0 0) := by rw [hwz]; simp [zc8, go_sem]
  have HUz : Hid (Touch (fun k => k = gr) w3 wz) := by show Touch _ _ _; rw [hwz]; refine Touch.setCell (F := fun k => k = gr) (p := ⟨gr, 8, none⟩) ?_ (Or.inl rfl) _; refine Touch.setCell (F := fun k => k = gr) (p := ⟨gr, 7, none⟩) ?_ (Or.inl rfl) _; refine Touch.setCell (F := fun k => k = gr) (p := ⟨gr, 6, none⟩) ?_ (Or.inl rfl) _; refine Touch.setCell (F := fun k => k = gr) (p := ⟨gr, 5, none⟩) ?_ (Or.inl rfl) _; refine Touch.setCell (F := fun k => k = gr) (p := ⟨gr, 4, none⟩) ?_ (Or.inl rfl) _; refine Touch.setCell (F := fun k => k = gr) (p := ⟨gr, 3, none⟩) ?_ (Or.inl rfl) _; refine Touch.setCell (F := fun k => k = gr) (p := ⟨gr, 2, none⟩) ?_ (Or.inl rfl) _; refine Touch.setCell (F := fun k => k = gr) (p := ⟨gr, 1, none⟩) ?_ (Or.inl rfl) _; refine Touch.setCell (F := fun k => k = gr) (p := ⟨gr, 0, none⟩) ?_ (Or.inl rfl) _; exact Touch.refl _ _
  rw [← hwz]
  clear hwz zc0 zf0 zc1 zf1 zc2 zf2 zc3 zf3 zc4 zf4 zc5 zf5 zc6 zf6 zc7 zf7 zc8 zf8
  go_wp2_with fail
  refine bodyPost_ret (v := .agg #[.int .u8 x0, .slice none 0 0, .int .u32 x2, .slice none 0 0, .int .u32 x4, .bool x5, .int .u32 x6, .int .u32 x7, .slice none 0 0]) (by simp [results, Try.results25, go_sem, zd0, zd1, zd2, zd3, zd4, zd5, zd6, zd7, zd8]) rfl ?_
  exact ⟨rfl, T3.out.trans' HUz.out (fun i hi e => by have := HG.out; omega)⟩
end Go.Proofs.Ytfdpmlogieaiaaa
