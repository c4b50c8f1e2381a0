/- openDigest: a packet with a digest. -/
import Derived.Test.YtjjgbcjgmjggnaaGreatDoorAuOpl
namespace Go.Proofs.YtjjgbcjgmjggnaaGreatDoor
open Go.RowKit Go.Shelf
set_option linter.unusedVariables false
set_option maxRecDepth 100000
attribute [local go_sem] Oper.semAt_some

theorem digAny_iff (ks : List KE) (now : Int) (b : List Int) (n id : Int) : digAny (pureL ks) now b n id = true ↔ ∃ i, i ∈ selK ks (fun x => x.p.takes now) ks.length ∧ digK b n ks[i].p id = true := by
  unfold digAny
  rw [List.any_map, List.any_eq_true]
  constructor
  · rintro ⟨x, hx, h⟩
    obtain ⟨j, hj, rfl⟩ := List.getElem_of_mem hx
    simp only [Function.comp_apply, Bool.and_eq_true] at h
    exact ⟨⟨j, hj⟩, (mem_selK _ _ _ _).2 ⟨hj, h.1⟩, h.2⟩
  · rintro ⟨i, hi, h⟩
    refine ⟨ks[i], List.getElem_mem _, ?_⟩
    have := ((mem_selK _ _ _ _).1 hi).2
    simp only [Function.comp_apply, Bool.and_eq_true]
    exact ⟨this, h⟩
theorem markB_byte {id seq : Int} (h : 0 ≤ id ∧ id < 256) : ∀ z ∈ markB id seq, 0 ≤ z ∧ z < 256 := by
  intro z hz
  unfold markB at hz
  rcases List.mem_append.1 hz with hz | hz
  · simp at hz; omega
  · exact numBytes_byte _ _ z hz
set_option maxHeartbeats 4000000 in
theorem openDigest_any (v : Value) (rs : List Int) (nn : Nat) (DB : List Int) (va : Option Addr) (vc : Nat) (ks : List KE) (now : Int) (b0 b1 b2 : Nat) (w : World) (hv : ArgAt w v rs) (hby : ∀ z ∈ rs, 0 ≤ z ∧ z < 256) (hn : rs.length ≤ 1000000) (hnn : nn ≤ rs.length) (hpos : 0 < rs.length) (hD : DB.length = 8) (hDb : ∀ z ∈ DB, 0 ≤ z ∧ z < 256)
    (hc : ChainAt w (.slice va ks.length vc) ks) (hl : ks.length ≤ 1000000)
    (h0 : w.cell? ⟨b0, 0, none⟩ = some (.slice va ks.length vc)) (h1 : w.cell? ⟨b1, 0, none⟩ = some (.func (.func 79) #[] #[])) (h2 : w.cell? ⟨b2, 0, none⟩ = some (.int .i64 now)) :
    Calls Tryz.prog 80 #[v, .int .i64 nn, .agg (bytesOf DB).toArray, .func (.func 87) #[] #[.pointer (some ⟨b0, 0, none⟩), .pointer (some ⟨b1, 0, none⟩), .pointer (some ⟨b2, 0, none⟩)]] w fun e w' => e = .returned (.tuple #[.int .u32 (openDgS rs nn DB (pureL ks) now), .int .i64 (openDgE rs nn DB (pureL ks) now)]) ∧ Touch (fun _ => False) w w' := by
  have HMD : Hid (∀ w', Calls Tryz.prog 106 #[.agg (bytesOf DB).toArray] w' fun e w'' => e = .returned (.tuple #[.int .u8 (markId DB), .int .u32 (markSeq DB)]) ∧ Touch (fun _ => False) w' w'') := fun w' => marked_any DB w' hDb hD
  have hbI := (num_bound hDb 2).1
  have hbS := (num_bound hDb 4).2
  have HMK : ∀ w', Calls Tryz.prog 64 #[.int .u8 (markId DB), .int .u32 (markSeq DB)] w' fun e w'' => e = .returned (.agg (bytesOf (markB (markId DB) (markSeq DB))).toArray) ∧ Touch (fun _ => False) w' w'' := fun w' => mark_any _ _ w' hbI hbS
  have heq : ∀ w', Sem.run Tryz.prog (Op.equalIn 10000 82 (.agg (bytesOf DB).toArray) (.agg (bytesOf (markB (markId DB) (markSeq DB))).toArray)) w' = .ok (decide (DB = markB (markId DB) (markSeq DB))) w' := fun w' => eqD _ _ hDb (markB_byte hbI) hD (length_markB _ _) w'
  obtain ⟨ra, rc, rfl, -⟩ := hv.form
  obtain ⟨u1, hs1, hu1⟩ := cut_from hv rfl hpos nn hnn
  obtain ⟨u2, hs2, hu2⟩ := cut_to hv rfl hpos nn hnn
  have HV' : Hid (∀ w', Below w.heap.size w w' → ChainAt w' (.slice va ks.length vc) ks) := fun w' t => hc.keep (below_touch t)
  have HID : Hid (∀ (x : KE) w', Below w.heap.size w w' → x.Ok w' → Calls Tryz.prog 107 #[u1, x.agg, u2] w' fun e w'' => e = .returned (.bool (decide (rs.drop nn = keyedB x.p.sec (rs.take nn)))) ∧ Touch (fun _ => False) w' w'') := fun x w' t ok => isDigest_any u1 u2 _ _ x w' ok (hu1.keep (below_touch t) (fun _ _ h => h)) (hu2.keep (below_touch t) (fun _ _ h => h)) (fun z hz => hby z (List.mem_of_mem_drop hz)) (fun z hz => hby z (List.mem_of_mem_take hz)) (by rw [List.length_take]; omega)
  have HDK : Hid (∀ x : AKP, digK rs nn x (markId DB) = (decide (x.id = markId DB) && decide (rs.drop nn = keyedB x.sec (rs.take nn)))) := fun x => by unfold digK; rw [Int.toNat_natCast]
  have HDA : Hid (digAny (pureL ks) now rs nn (markId DB) = true ↔ ∃ i, i ∈ selK ks (fun x => x.p.takes now) ks.length ∧ digK rs nn ks[i].p (markId DB) = true) := digAny_iff ks now rs nn (markId DB)
  have HE : Hid (openDgE rs nn DB (pureL ks) now = if DB ≠ markB (markId DB) (markSeq DB) then 24 else if (rs.length : Int) ≠ nn + 16 then 22 else if digAny (pureL ks) now rs nn (markId DB) = true then 0 else 26) := rfl
  have HSq : Hid (openDgS rs nn DB (pureL ks) now = if openDgE rs nn DB (pureL ks) now = 0 then markSeq DB else 0) := rfl
  have hwn : wrap64 ((nn : Int) + 16) = (nn : Int) + 16 := by unfold wrap64; omega
  have HMB : Hid (∀ Bq, decide (DB = markB (markId DB) (markSeq DB)) = Bq → (Bq = true ↔ DB = markB (markId DB) (markSeq DB))) := fun Bq h => by rw [← h]; simp
  obtain ⟨d0, d1, d2, d3, d4, d5, d6, d7, rfl⟩ := au_list8 hD
  generalize openDgS rs nn [d0, d1, d2, d3, d4, d5, d6, d7] (pureL ks) now = SS at HSq ⊢
  generalize openDgE rs nn [d0, d1, d2, d3, d4, d5, d6, d7] (pureL ks) now = OO at HE HSq ⊢
  generalize digAny (pureL ks) now rs nn (markId [d0, d1, d2, d3, d4, d5, d6, d7]) = PA at HE HDA
  generalize hBQ : decide ([d0, d1, d2, d3, d4, d5, d6, d7] = markB (markId [d0, d1, d2, d3, d4, d5, d6, d7]) (markSeq [d0, d1, d2, d3, d4, d5, d6, d7])) = BQ at heq
  have HBQ : Hid (BQ = true ↔ [d0, d1, d2, d3, d4, d5, d6, d7] = markB (markId [d0, d1, d2, d3, d4, d5, d6, d7]) (markSeq [d0, d1, d2, d3, d4, d5, d6, d7])) := HMB.out BQ hBQ
  generalize (bytesOf (markB (markId [d0, d1, d2, d3, d4, d5, d6, d7]) (markSeq [d0, d1, d2, d3, d4, d5, d6, d7]))).toArray = MM at HMK heq
  generalize markB (markId [d0, d1, d2, d3, d4, d5, d6, d7]) (markSeq [d0, d1, d2, d3, d4, d5, d6, d7]) = MBB at HE HBQ
  generalize markId [d0, d1, d2, d3, d4, d5, d6, d7] = MI at *
  generalize markSeq [d0, d1, d2, d3, d4, d5, d6, d7] = MS at *
  replace HMD : Hid (∀ w', Calls Tryz.prog 106 #[.agg #[.int .u8 d0, .int .u8 d1, .int .u8 d2, .int .u8 d3, .int .u8 d4, .int .u8 d5, .int .u8 d6, .int .u8 d7]] w' fun e w'' => e = .returned (.tuple #[.int .u8 MI, .int .u32 MS]) ∧ Touch (fun _ => False) w' w'') := HMD
  replace heq : ∀ w', Sem.run Tryz.prog (Op.equalIn 10000 82 (.agg #[.int .u8 d0, .int .u8 d1, .int .u8 d2, .int .u8 d3, .int .u8 d4, .int .u8 d5, .int .u8 d6, .int .u8 d7]) (.agg MM)) w' = .ok BQ w' := heq
  generalize hrn : rs.length = rn at *
  show Calls Tryz.prog 80 #[.slice ra rn rc, .int .i64 nn, .agg #[.int .u8 d0, .int .u8 d1, .int .u8 d2, .int .u8 d3, .int .u8 d4, .int .u8 d5, .int .u8 d6, .int .u8 d7], .func (.func 87) #[] #[.pointer (some ⟨b0, 0, none⟩), .pointer (some ⟨b1, 0, none⟩), .pointer (some ⟨b2, 0, none⟩)]] w _
  clear hv hby hn hD hDb hc hu1 hu2 hBQ HMB hpos hrn
  refine (callsIn_wide (n := 6)).1 ?_
  refine callsIn_of_wp_marks Tryz.func80 rfl trivial ?_ rfl
  simp only [Tryz.ntmps80, List.size_toArray, List.length_cons, List.length_nil, Nat.reduceAdd, Nat.reduceSub, Array.replicate_succ, Array.replicate_zero, List.push_toArray, List.append_toArray, List.nil_append, List.cons_append]
  gi_wp2_with fail
  have kB0 : Boxed (((((w.alloc (.cells #[.slice ra rn rc] 22)).alloc (.cells #[.int .i64 nn] 3)).alloc (.cells #[.int .u8 d0, .int .u8 d1, .int .u8 d2, .int .u8 d3, .int .u8 d4, .int .u8 d5, .int .u8 d6, .int .u8 d7] 82)).alloc (.cells #[.int .u32 0] 24)).alloc (.cells #[.int .i64 0] 29)) w.heap.size 22 (.slice ra rn rc) := ((((Boxed.new w 22 (.slice ra rn rc)).alloc _).alloc _).alloc _).alloc _
  have kB1 : Boxed (((((w.alloc (.cells #[.slice ra rn rc] 22)).alloc (.cells #[.int .i64 nn] 3)).alloc (.cells #[.int .u8 d0, .int .u8 d1, .int .u8 d2, .int .u8 d3, .int .u8 d4, .int .u8 d5, .int .u8 d6, .int .u8 d7] 82)).alloc (.cells #[.int .u32 0] 24)).alloc (.cells #[.int .i64 0] 29)) (w.heap.size + 1) 3 (.int .i64 nn) := by
    have := (((Boxed.new (w.alloc (.cells #[.slice ra rn rc] 22)) 3 (.int .i64 nn)).alloc (.cells #[.int .u8 d0, .int .u8 d1, .int .u8 d2, .int .u8 d3, .int .u8 d4, .int .u8 d5, .int .u8 d6, .int .u8 d7] 82)).alloc (.cells #[.int .u32 0] 24)).alloc (.cells #[.int .i64 0] 29)
    rw [World.size_alloc] at this; exact this
  have kD : Row (((((w.alloc (.cells #[.slice ra rn rc] 22)).alloc (.cells #[.int .i64 nn] 3)).alloc (.cells #[.int .u8 d0, .int .u8 d1, .int .u8 d2, .int .u8 d3, .int .u8 d4, .int .u8 d5, .int .u8 d6, .int .u8 d7] 82)).alloc (.cells #[.int .u32 0] 24)).alloc (.cells #[.int .i64 0] 29)) (w.heap.size + 1 + 1) 82 (bytesOf [d0, d1, d2, d3, d4, d5, d6, d7]) := by
    have := ((row_new ((w.alloc (.cells #[.slice ra rn rc] 22)).alloc (.cells #[.int .i64 nn] 3)) 82 #[.int .u8 d0, .int .u8 d1, .int .u8 d2, .int .u8 d3, .int .u8 d4, .int .u8 d5, .int .u8 d6, .int .u8 d7]).keep ((Touch.refl _ _).alloc (.cells #[.int .u32 0] 24))).keep ((Touch.refl _ _).alloc (.cells #[.int .i64 0] 29))
    rw [World.size_alloc, World.size_alloc] at this; exact this
  have kS : Boxed (((((w.alloc (.cells #[.slice ra rn rc] 22)).alloc (.cells #[.int .i64 nn] 3)).alloc (.cells #[.int .u8 d0, .int .u8 d1, .int .u8 d2, .int .u8 d3, .int .u8 d4, .int .u8 d5, .int .u8 d6, .int .u8 d7] 82)).alloc (.cells #[.int .u32 0] 24)).alloc (.cells #[.int .i64 0] 29)) (w.heap.size + 1 + 1 + 1) 24 (.int .u32 0) := by
    have := (Boxed.new (((w.alloc (.cells #[.slice ra rn rc] 22)).alloc (.cells #[.int .i64 nn] 3)).alloc (.cells #[.int .u8 d0, .int .u8 d1, .int .u8 d2, .int .u8 d3, .int .u8 d4, .int .u8 d5, .int .u8 d6, .int .u8 d7] 82)) 24 (.int .u32 0)).alloc (.cells #[.int .i64 0] 29)
    rw [World.size_alloc, World.size_alloc, World.size_alloc] at this; exact this
  have kE : Boxed (((((w.alloc (.cells #[.slice ra rn rc] 22)).alloc (.cells #[.int .i64 nn] 3)).alloc (.cells #[.int .u8 d0, .int .u8 d1, .int .u8 d2, .int .u8 d3, .int .u8 d4, .int .u8 d5, .int .u8 d6, .int .u8 d7] 82)).alloc (.cells #[.int .u32 0] 24)).alloc (.cells #[.int .i64 0] 29)) (w.heap.size + 1 + 1 + 1 + 1) 29 (.int .i64 0) := by
    have := Boxed.new ((((w.alloc (.cells #[.slice ra rn rc] 22)).alloc (.cells #[.int .i64 nn] 3)).alloc (.cells #[.int .u8 d0, .int .u8 d1, .int .u8 d2, .int .u8 d3, .int .u8 d4, .int .u8 d5, .int .u8 d6, .int .u8 d7] 82)).alloc (.cells #[.int .u32 0] 24)) 29 (.int .i64 0)
    rw [World.size_alloc, World.size_alloc, World.size_alloc, World.size_alloc] at this; exact this
  have t2 : Hid (Touch (fun _ => False) w (((((w.alloc (.cells #[.slice ra rn rc] 22)).alloc (.cells #[.int .i64 nn] 3)).alloc (.cells #[.int .u8 d0, .int .u8 d1, .int .u8 d2, .int .u8 d3, .int .u8 d4, .int .u8 d5, .int .u8 d6, .int .u8 d7] 82)).alloc (.cells #[.int .u32 0] 24)).alloc (.cells #[.int .i64 0] 29))) := (((((Touch.refl _ w).alloc _).alloc _).alloc _).alloc _).alloc _
  generalize ((((w.alloc (.cells #[.slice ra rn rc] 22)).alloc (.cells #[.int .i64 nn] 3)).alloc (.cells #[.int .u8 d0, .int .u8 d1, .int .u8 d2, .int .u8 d3, .int .u8 d4, .int .u8 d5, .int .u8 d6, .int .u8 d7] 82)).alloc (.cells #[.int .u32 0] 24)).alloc (.cells #[.int .i64 0] 29) = w2 at kB0 kB1 kD kS kE t2 ⊢
  refine ⟨trivial, ?_⟩
  refine (callsIn_wide.2 (HMD.out w2)).mono ?_
  rintro e w3 ⟨rfl, t3⟩
  gi_wp2_with fail
  have t4 : Touch (fun _ => False) w2 ((w3.alloc (.cells #[.int .u8 MI] 5)).alloc (.cells #[.int .u32 MS] 24)) := (t3.alloc _).alloc _
  have kI : Boxed ((w3.alloc (.cells #[.int .u8 MI] 5)).alloc (.cells #[.int .u32 MS] 24)) w3.heap.size 5 (.int .u8 MI) := (Boxed.new w3 5 (.int .u8 MI)).alloc _
  have kM : Boxed ((w3.alloc (.cells #[.int .u8 MI] 5)).alloc (.cells #[.int .u32 MS] 24)) (w3.heap.size + 1) 24 (.int .u32 MS) := by
    have := Boxed.new (w3.alloc (.cells #[.int .u8 MI] 5)) 24 (.int .u32 MS)
    rw [World.size_alloc] at this; exact this
  have hz2 := kE.lt
  have hz3 := t3.size
  generalize (w3.alloc (.cells #[.int .u8 MI] 5)).alloc (.cells #[.int .u32 MS] 24) = w4 at t4 kI kM ⊢
  generalize hQI : w3.heap.size = qI at kI kM hz3 ⊢
  have T4 : Hid (Touch (fun _ => False) w w4) := t2.out.trans t4
  replace kB0 := boxed_touch kB0 t4
  replace kB1 := boxed_touch kB1 t4
  replace kD := kD.keep t4
  replace kS := boxed_touch kS t4
  replace kE := boxed_touch kE t4
  clear t2 t3 t4 hQI HMD
  have e0 := aft_cell (kD.cell 0)
  have e1 := aft_cell (kD.cell 1)
  have e2 := aft_cell (kD.cell 2)
  have e3 := aft_cell (kD.cell 3)
  have e4 := aft_cell (kD.cell 4)
  have e5 := aft_cell (kD.cell 5)
  have e6 := aft_cell (kD.cell 6)
  have e7 := aft_cell (kD.cell 7)
  have e8 := aft_cell kI.cell
  have e9 := aft_cell kM.cell
  refine wpInW_region_aft (by kernel_rfl) (by kernel_rfl) (by kernel_rfl) ?_
  repeat (first | go_big_quiet_skip | (go_big_quiet_want; go_big_quiet_op; first | go_big_quiet_on | (refine Exists.intro _ ⟨fun _ => rfl, ?_⟩; go_big_quiet_on)))
  go_big_quiet_want; go_big_quiet_op; refine Exists.intro _ ⟨fun u => Aft.call (HMK _), ?_⟩; go_big_quiet_on
  repeat (first | go_big_quiet_skip | (go_big_quiet_want; go_big_quiet_op; first | go_big_quiet_on | (refine Exists.intro _ ⟨fun _ => rfl, ?_⟩; go_big_quiet_on)))
  refine wpQuiet_nil ?_
  rintro w5 ⟨⟨_, t5⟩, rfl⟩
  clear e0 e1 e2 e3 e4 e5 e6 e7 e8 e9 heq HMK kD
  have T5 : Hid (Touch (fun _ => False) w w5) := T4.out.trans t5
  replace kB0 := boxed_touch kB0 t5
  replace kB1 := boxed_touch kB1 t5
  replace kS := boxed_touch kS t5
  replace kE := boxed_touch kE t5
  replace kI := boxed_touch kI t5
  replace kM := boxed_touch kM t5
  clear t5 T4
  have fin0 : ∀ (W : World) (s e : Int), Boxed W (w.heap.size + 1 + 1 + 1) 24 (.int .u32 s) → Boxed W (w.heap.size + 1 + 1 + 1 + 1) 29 (.int .i64 e) → ∀ tmps : Array Value, tmps.getD 8 undef = .pointer (some ⟨w.heap.size + 1 + 1 + 1, 0, none⟩) → tmps.getD 9 undef = .pointer (some ⟨w.heap.size + 1 + 1 + 1 + 1, 0, none⟩) → (results Tryz.f80 tmps).run Tryz.prog W = .ok (.tuple #[.int .u32 s, .int .i64 e]) W := by
    intro W s e hs he tmps h8 h9
    have c1 := hs.cell
    have c2 := he.cell
    have h8' : tmps[8]?.getD undef = .pointer (some ⟨w.heap.size + 1 + 1 + 1, 0, none⟩) := by simpa using h8
    have h9' : tmps[9]?.getD undef = .pointer (some ⟨w.heap.size + 1 + 1 + 1 + 1, 0, none⟩) := by simpa using h9
    simp [results, Tryz.results80, go_sem, c1, c2, h8', h9', asAddr]
  cases BQ
  · have hO : OO = 24 := by rw [HE.out, if_pos (fun h => by have := HBQ.out.2 h; cases this)]
    have hS0 : SS = 0 := by rw [HSq.out, hO]; rfl
    subst hO hS0
    have c1 := kS.cell
    have f1 := kS.frozen
    have c2 := kE.cell
    have f2 := kE.frozen
    gi_wp2_with fail
    refine ⟨_, fin0 _ 0 24 ((kS.set _).other (by omega) _) ((kE.other (by omega) _).set _) _ rfl rfl, rfl, ?_⟩
    exact Touch.setCell (p := ⟨w.heap.size + 1 + 1 + 1 + 1, 0, none⟩) (Touch.setCell (p := ⟨w.heap.size + 1 + 1 + 1, 0, none⟩) T5.out (Or.inr (by dsimp only; omega)) _) (Or.inr (by dsimp only; omega)) _
  have hQQ := HBQ.out.1 rfl
  replace HE : Hid (OO = if (rn : Int) ≠ nn + 16 then 22 else if PA = true then 0 else 26) := by show _ = _; rw [HE.out, if_neg (fun h => h hQQ)]
  clear hQQ HBQ
  by_cases hln : (rn : Int) = nn + 16
  · replace HE : Hid (OO = if PA = true then 0 else 26) := by show _ = _; rw [HE.out, if_neg (fun h => h hln)]
    have hlb : ((rn : Int) != wrap64 ((nn : Int) + 16)) = false := by rw [hwn]; simpa using hln
    have hlb2 : ((rn : Int) != (nn : Int) + 16) = false := by simpa using hln
    have HLN : Hid ((rn : Int) = nn + 16) := hln
    clear hln
    have c1 := kB0.cell
    have c2 := kB1.cell
    gi_wp2_with fail
    clear c1 c2
    have hszs : w5.heap.size = w5.heap.size := rfl
    have hz5 := kM.lt
    have hKB : ∀ w', Touch (fun k => (k = w.heap.size + 1 + 1 + 1 ∨ k = w.heap.size + 1 + 1 + 1 + 1) ∨ w5.heap.size ≤ k) w5 w' → Below w.heap.size w w' := fun w' tt =>
      ((T5.out.mono (fun _ _ h => h.elim)).trans tt).below (Nat.le_refl _) (fun k hk h => by rcases h with (h | h) | h <;> omega)
    have hlow : ∀ (b : Nat) (v : Value) w', Touch (fun k => (k = w.heap.size + 1 + 1 + 1 ∨ k = w.heap.size + 1 + 1 + 1 + 1) ∨ w5.heap.size ≤ k) w5 w' → w.cell? ⟨b, 0, none⟩ = some v → w'.cell? ⟨b, 0, none⟩ = some v := fun b v w' tt hc =>
      ((hKB w' tt).cell (p := ⟨b, 0, none⟩) (lt_of_cell hc)).trans hc
    refine wpIn_rangeFunc_ownH rfl (by omega) (gf := 87) (lb := #[.pointer (some ⟨b0, 0, none⟩), .pointer (some ⟨b1, 0, none⟩), .pointer (some ⟨b2, 0, none⟩)]) rfl trivial (enters_of Tryz.func87 (by kernel_rfl) rfl)
      (tak_stops 5 (by omega) b0 b1 b2 (fun k => (k = w.heap.size + 1 + 1 + 1 ∨ k = w.heap.size + 1 + 1 + 1 + 1) ∨ w5.heap.size ≤ k) va vc ks now w5 hl (fun w' tt => HV'.out w' (hKB w' tt)) (fun w' tt => hlow _ _ w' tt h0) (fun w' tt => hlow _ _ w' tt h1) (fun w' tt => hlow _ _ w' tt h2))
      (fun h k => h.trans k) (touchK_b (fun k hk => Or.inr hk)) (Below.refl _ _) (fun _ => rfl)
      (fun pre W => (∀ i ∈ pre, digK rs nn ks[i].p MI = false) ∧ (Boxed W (w.heap.size + 1 + 1 + 1) 24 (.int .u32 0) ∧ Boxed W (w.heap.size + 1 + 1 + 1 + 1) 29 (.int .i64 0)) ∧ Touch (fun k => k = w.heap.size + 1 + 1 + 1 ∨ k = w.heap.size + 1 + 1 + 1 + 1) w5 W)
      (fun c pre W => (c = .ret ∧ ∃ i ∈ pre, digK rs nn ks[i].p MI = true) ∧ (Boxed W (w.heap.size + 1 + 1 + 1) 24 (.int .u32 MS) ∧ Boxed W (w.heap.size + 1 + 1 + 1 + 1) 29 (.int .i64 0)) ∧ Touch (fun k => k = w.heap.size + 1 + 1 + 1 ∨ k = w.heap.size + 1 + 1 + 1 + 1) w5 W)
      (OwnFrom.and (ownFrom_pure _ (fun pre : List (Fin ks.length) => ∀ i ∈ pre, digK rs nn ks[i].p MI = false)) (OwnFrom.and (OwnFrom.and (Own.from (boxed_own _ _ (fun _ => .int .u32 0)) _) (Own.from (boxed_own _ _ (fun _ => .int .i64 0)) _)) (ownFrom_touch (Nat.le_refl _))))
      (fun c => OwnFrom.and (ownFrom_pure _ (fun pre : List (Fin ks.length) => c = .ret ∧ ∃ i ∈ pre, digK rs nn ks[i].p MI = true)) (OwnFrom.and (OwnFrom.and (Own.from (boxed_own _ _ (fun _ => .int .u32 MS)) _) (Own.from (boxed_own _ _ (fun _ => .int .i64 0)) _)) (ownFrom_touch (Nat.le_refl _))))
      ⟨by simp, ⟨kS, kE⟩, Touch.refl _ _⟩
      (fun i a' W => ∃ Bx, w5.heap.size ≤ Bx ∧ KBox W Bx ks[i].p.id ks[i].p.kind ks[i].a ks[i].p.sec.length ks[i].c ks[i].p.sf ks[i].p.su ks[i].p.tf ks[i].p.tu ∧ a' = { tmps := #[.slice ra rn rc, .int .i64 nn, .agg #[.int .u8 d0, .int .u8 d1, .int .u8 d2, .int .u8 d3, .int .u8 d4, .int .u8 d5, .int .u8 d6, .int .u8 d7], .func (.func 87) #[] #[.pointer (some ⟨b0, 0, none⟩), .pointer (some ⟨b1, 0, none⟩), .pointer (some ⟨b2, 0, none⟩)], .pointer (some ⟨w.heap.size, 0, none⟩), .pointer (some ⟨w.heap.size + 1, 0, none⟩), .pointer (some ⟨w.heap.size + 1 + 1, 0, none⟩), undef, .pointer (some ⟨w.heap.size + 1 + 1 + 1, 0, none⟩), .pointer (some ⟨w.heap.size + 1 + 1 + 1 + 1, 0, none⟩), .pointer (some ⟨qI, 0, none⟩), .pointer (some ⟨qI + 1, 0, none⟩), undef, .pointer (some ⟨Bx, 0, none⟩), .tuple #[.int .u8 MI, .int .u32 MS], .agg #[.int .u8 d0, .int .u8 d1, .int .u8 d2, .int .u8 d3, .int .u8 d4, .int .u8 d5, .int .u8 d6, .int .u8 d7], .tuple #[.int .u8 MI, .int .u32 MS], .int .u8 MI, .int .u32 MS, .agg #[.int .u8 d0, .int .u8 d1, .int .u8 d2, .int .u8 d3, .int .u8 d4, .int .u8 d5, .int .u8 d6, .int .u8 d7], .int .u8 MI, .int .u32 MS, .agg MM, .bool false, .slice ra rn rc, .int .i64 rn, .int .i64 nn, .int .i64 ((nn : Int) + 16), .bool false, .func (.func 87) #[] #[.pointer (some ⟨b0, 0, none⟩), .pointer (some ⟨b1, 0, none⟩), .pointer (some ⟨b2, 0, none⟩)], .int .i64 (i.1 : Int), ks[i].agg, undef, undef, undef, undef, undef, undef, undef, undef, undef, undef, undef, undef, undef, undef, undef], defers := [] })
      (fun x a' s X Y row hs hg hr => by obtain ⟨Bx, h1, h2, h3⟩ := hs; exact ⟨Bx, h1, kbox_own (β := Unit) _ Bx () X Y row h2 hg hr, h3⟩)
      ?assign ?body ?done ?stop
    case assign =>
      rintro l pre x W K ⟨hp, ⟨hb, hb'⟩, ht⟩ hK
      gi_wp2
      exact hK _ _ ((KeepsOthers.alloc _ _).from _) ((Touch.refl _ W).alloc _) ⟨hp, ⟨hb.alloc _, hb'.alloc _⟩, ht.alloc _⟩ ⟨W.heap.size, ht.size, kbox_new W _ _ _ _ _ _ _ _ _, rfl⟩
    case body =>
      rintro l pre x a' W hll ⟨r, hr⟩ ⟨hp, ⟨hb, hb'⟩, ht⟩ ⟨Bx, hBx, hX, rfl⟩ hlt
      have HT : Hid (Touch (fun k => k = w.heap.size + 1 + 1 + 1 ∨ k = w.heap.size + 1 + 1 + 1 + 1) w5 W) := ht
      have HB : Hid (Boxed W (w.heap.size + 1 + 1 + 1) 24 (.int .u32 0)) := hb
      have HB' : Hid (Boxed W (w.heap.size + 1 + 1 + 1 + 1) 29 (.int .i64 0)) := hb'
      have HP : Hid (∀ i ∈ pre, digK rs nn ks[i].p MI = false) := hp
      have hwb := hKB W (HT.out.mono (fun _ _ h => Or.inl h))
      have hwc := HV'.out W hwb
      have okx := hwc.ok ks[x] (List.getElem_mem _)
      have HIDx : ∀ u : Aft W, Calls Tryz.prog 107 #[u1, ks[x].agg, u2] u.w fun e w'' => e = .returned (.bool (decide (rs.drop nn = keyedB ks[x].p.sec (rs.take nn)))) ∧ Touch (fun _ => False) u.w w'' := fun u => HID.out ks[x] u.w (hwb.trans (u.gr.below hwb.size (fun _ _ h => h))) (okx.keep u.gr)
      have HD := HDK.out ks[x].p
      have kp : ∀ {b : Nat} {t : TypeId} {v : Value}, Boxed w5 b t v → b ≠ w.heap.size + 1 + 1 + 1 → b ≠ w.heap.size + 1 + 1 + 1 + 1 → Boxed W b t v := fun h n1 n2 => (HT.out.block _ h.lt (fun e => by rcases e with e | e; exact n1 e; exact n2 e)).trans h
      have g0 := aft_cell (kp kB0 (by omega) (by omega)).cell
      have g1 := aft_cell (kp kB1 (by omega) (by omega)).cell
      have g2 := aft_cell (kp kI (by omega) (by omega)).cell
      have gM := kp kM (by omega) (by omega)
      have x0 := aft_cell hX.c0
      have x1 := aft_cell hX.c1
      have x2 := aft_cell hX.c2
      have x3 := aft_cell hX.c3
      have x4 := aft_cell hX.c4
      have x5 := aft_cell hX.c5
      have x6 := aft_cell hX.c6
      clear hwc hwb okx hX kp
      gi_wp2_with fail
      by_cases hid : ks[x].p.id = MI
      · have hidb : (ks[x.1].p.id == MI) = true := by simpa using hid
        rw [hid, decide_eq_true rfl, Bool.true_and] at HD
        clear hid
        generalize decide (rs.drop nn = keyedB ks[x].p.sec (rs.take nn)) = BB at HIDx HD
        refine wpInR_region_aft (by kernel_rfl) (by kernel_rfl) (by kernel_rfl) ?_
        repeat (first | go_big_quiet_skip | (go_big_quiet_want; go_big_quiet_op; first | go_big_quiet_on | (refine Exists.intro _ ⟨fun _ => rfl, ?_⟩; go_big_quiet_on)))
        go_big_quiet_want; go_big_quiet_op; refine Exists.intro _ ⟨fun u => Aft.call (HIDx u), ?_⟩; go_big_quiet_on
        repeat (first | go_big_quiet_skip | (go_big_quiet_want; go_big_quiet_op; first | go_big_quiet_on | (refine Exists.intro _ ⟨fun _ => rfl, ?_⟩; go_big_quiet_on)))
        refine wpQuiet_nil ?_
        rintro wq ⟨⟨_, hgq⟩, rfl⟩
        clear x0 x1 x2 x3 x4 x5 x6 g0 g1 g2 HIDx
        have HDD : Hid (digK rs nn ks[x].p MI = BB) := HD
        clear HD
        cases BB
        · gi_wp2
          exact ⟨keepsFrom_touch hgq, hgq.mono (fun _ _ h => h.elim), fun i hi => (List.mem_append.1 hi).elim (HP.out i) (fun e => by simp at e; subst e; exact HDD.out), ⟨boxed_touch HB.out hgq, boxed_touch HB'.out hgq⟩, HT.out.trans (hgq.mono (fun _ _ h => h.elim))⟩
        · have hb2 := boxed_touch HB.out hgq
          have hc2 := hb2.cell
          have hf2 := hb2.frozen
          have hb3 := boxed_touch HB'.out hgq
          have hc3 := hb3.cell
          have hf3 := hb3.frozen
          have hcM := (boxed_touch gM hgq).cell
          gi_wp2
          exact ⟨((keepsFrom_touch hgq).trans ((KeepsOthers.setCell _ _ _).from _)).trans ((KeepsOthers.setCell _ _ _).from _), ⟨rfl, x, by simp, HDD.out⟩, ⟨(hb2.set _).other (by omega) _, (hb3.other (by omega) _).set _⟩, Touch.setCell (p := ⟨w.heap.size + 1 + 1 + 1 + 1, 0, none⟩) (Touch.setCell (p := ⟨w.heap.size + 1 + 1 + 1, 0, none⟩) (HT.out.trans (hgq.mono (fun _ _ h => h.elim))) (Or.inl (Or.inl rfl)) _) (Or.inl (Or.inr rfl)) _⟩
      · have hidb : (ks[x.1].p.id == MI) = false := by simpa using hid
        have HDD : Hid (digK rs nn ks[x].p MI = false) := by show _ = _; rw [HD, decide_eq_false hid]; rfl
        clear hid HD HIDx
        refine wpInR_region_aft (by kernel_rfl) (by kernel_rfl) (by kernel_rfl) ?_
        repeat (first | go_big_quiet_skip | (go_big_quiet_want; go_big_quiet_op; first | go_big_quiet_on | (refine Exists.intro _ ⟨fun _ => rfl, ?_⟩; go_big_quiet_on)))
        refine wpQuiet_nil ?_
        rintro wq ⟨⟨_, hgq⟩, rfl⟩
        gi_wp2
        exact ⟨keepsFrom_touch hgq, hgq.mono (fun _ _ h => h.elim), fun i hi => (List.mem_append.1 hi).elim (HP.out i) (fun e => by simp at e; subst e; exact HDD.out), ⟨boxed_touch HB.out hgq, boxed_touch HB'.out hgq⟩, HT.out.trans (hgq.mono (fun _ _ h => h.elim))⟩
    case done =>
      rintro D xs W hD rfl ⟨hp, ⟨hb, hb'⟩, ht⟩ hK
      have hO : OO = 26 := by
        rw [HE.out, if_neg]
        intro h
        obtain ⟨i, hi, e⟩ := HDA.out.1 h
        rw [hp i hi] at e; cases e
      have hS0 : SS = 0 := by rw [HSq.out, hO]; rfl
      subst hO hS0
      have hcb := hb.cell
      have hfb := hb.frozen
      have hcc := hb'.cell
      have hfc := hb'.frozen
      gi_wp2
      have hK' := (KeepsOthers.setCell (W.setCell ⟨w.heap.size + 1 + 1 + 1, 0, none⟩ (.int .u32 0)) ⟨w.heap.size + 1 + 1 + 1 + 1, 0, none⟩ (.int .i64 26)).same D _ ((KeepsOthers.setCell W ⟨w.heap.size + 1 + 1 + 1, 0, none⟩ (.int .u32 0)).same D _ hK rfl) rfl
      refine ⟨by simp, .inl ⟨_, _, rfl, run_takeDeferred hK', ?_⟩⟩
      have hne : w.heap.size + 1 + 1 + 1 ≠ D := by omega
      have hne' : w.heap.size + 1 + 1 + 1 + 1 ≠ D := by omega
      refine ⟨_, fin0 _ 0 26 (((hb.set _).other (by omega) _).kept (grownBy_putObj' _ D (.deferred none)) (fun e => by cases e; exact hne rfl)) (((hb'.other (by omega) _).set _).kept (grownBy_putObj' _ D (.deferred none)) (fun e => by cases e; exact hne' rfl)) _ rfl rfl, rfl, ?_⟩
      exact (Touch.setCell (p := ⟨w.heap.size + 1 + 1 + 1 + 1, 0, none⟩) (Touch.setCell (p := ⟨w.heap.size + 1 + 1 + 1, 0, none⟩) (T5.out.trans' ht (fun k hk e => by omega)) (Or.inr (by dsimp only; omega)) _) (Or.inr (by dsimp only; omega)) _).grown (grownBy_putObj' _ D _) (fun k hk => by cases hk; exact Or.inr (by omega))
    case stop =>
      rintro D c pre W hD ⟨k, hk, rfl⟩ ⟨⟨rfl, i, hi, e⟩, ⟨hb, hb'⟩, ht⟩ hK
      have hO : OO = 0 := by
        rw [HE.out, if_pos]
        have := (mem_selK _ _ _ _).1 hi
        exact HDA.out.2 ⟨i, (mem_selK _ _ _ _).2 ⟨i.2, this.2⟩, e⟩
      have hS0 : SS = MS := by rw [HSq.out, hO]; rfl
      subst hO hS0
      gi_wp2
      refine ⟨by simp, .inl ⟨_, _, rfl, run_takeDeferred hK, ?_⟩⟩
      have hne : w.heap.size + 1 + 1 + 1 ≠ D := by omega
      have hne' : w.heap.size + 1 + 1 + 1 + 1 ≠ D := by omega
      refine ⟨_, fin0 _ _ 0 (hb.kept (grownBy_putObj' _ D (.deferred none)) (fun e => by cases e; exact hne rfl)) (hb'.kept (grownBy_putObj' _ D (.deferred none)) (fun e => by cases e; exact hne' rfl)) _ rfl rfl, rfl, ?_⟩
      exact (T5.out.trans' ht (fun k hk e => by omega)).grown (grownBy_putObj' _ D _) (fun k hk => by cases hk; exact Or.inr (by omega))
  · have hO : OO = 22 := by rw [HE.out, if_pos hln]
    have hS0 : SS = 0 := by rw [HSq.out, hO]; rfl
    subst hO hS0
    have hlb : ((rn : Int) != (nn : Int) + 16) = true := by simpa using hln
    have c1 := kS.cell
    have f1 := kS.frozen
    have c2 := kE.cell
    have f2 := kE.frozen
    have c3 := kB0.cell
    have c4 := kB1.cell
    gi_wp2_with fail
    refine ⟨_, fin0 _ 0 22 ((kS.set _).other (by omega) _) ((kE.other (by omega) _).set _) _ rfl rfl, rfl, ?_⟩
    exact Touch.setCell (p := ⟨w.heap.size + 1 + 1 + 1 + 1, 0, none⟩) (Touch.setCell (p := ⟨w.heap.size + 1 + 1 + 1, 0, none⟩) T5.out (Or.inr (by dsimp only; omega)) _) (Or.inr (by dsimp only; omega)) _
end Go.Proofs.YtjjgbcjgmjggnaaGreatDoor
