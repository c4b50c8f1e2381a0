import Derived.Shelf.SlSortCmp.WholeK
import Derived.Shelf.SlGeneric
import Derived.Ground.SlsfProg
import Derived.Shelf.SlSortCmp.NoneTotal
import Derived.Test.YtldmkoogghemhaaGreatRows
import Derived.Test.YtldmkoogghemhaaGreatBtMath
namespace Go.Proofs.YtldmkoogghemhaaGreat
set_option maxHeartbeats 8000000
open Go.Shelf
def sortWd_ren:Go.Shelf.Ren:=⟨fun|6=>48|15=>72|14=>71|28=>99|29=>100|20=>91|21=>92|22=>93|23=>94|24=>95|25=>96|26=>97|27=>98|46=>120|47=>121|48=>122|49=>123|50=>124|57=>144|n=>n,fun|22=>31|24=>47|25=>78|3=>3|39=>108|0=>0|53=>23|55=>103|4=>4|46=>146|45=>145|50=>76|5=>5|9=>9|66=>170|70=>174|76=>202|77=>112|n=>n,fun|n=>n⟩
theorem sortWd:Go.Proofs.SlLaysF0.n6 Tryz.prog sortWd_ren:={
 mixed:=by kernel_rfl
 f6:=⟨Tryz.f48.name,by decide,Tryz.func48.trans (congrArg some (by kernel_rfl))⟩
 f14:=⟨Tryz.f71.name,by decide,Tryz.func71.trans (congrArg some (by kernel_rfl))⟩
 f15:=Tryz.func72.trans (congrArg some (by kernel_rfl))
 f20:=⟨Tryz.f91.name,by decide,Tryz.func91.trans (congrArg some (by kernel_rfl))⟩
 f21:=⟨Tryz.f92.name,by decide,Tryz.func92.trans (congrArg some (by kernel_rfl))⟩
 f22:=⟨Tryz.f93.name,by decide,Tryz.func93.trans (congrArg some (by kernel_rfl))⟩
 f23:=⟨Tryz.f94.name,by decide,Tryz.func94.trans (congrArg some (by kernel_rfl))⟩
 f24:=⟨Tryz.f95.name,by decide,Tryz.func95.trans (congrArg some (by kernel_rfl))⟩
 f25:=⟨Tryz.f96.name,by decide,Tryz.func96.trans (congrArg some (by kernel_rfl))⟩
 f26:=⟨Tryz.f97.name,by decide,Tryz.func97.trans (congrArg some (by kernel_rfl))⟩
 f27:=⟨Tryz.f98.name,by decide,Tryz.func98.trans (congrArg some (by kernel_rfl))⟩
 f28:=Tryz.func99.trans (congrArg some (by kernel_rfl))
 f29:=Tryz.func100.trans (congrArg some (by kernel_rfl))
 f46:=⟨Tryz.f120.name,by decide,Tryz.func120.trans (congrArg some (by kernel_rfl))⟩
 f47:=Tryz.func121.trans (congrArg some (by kernel_rfl))
 f48:=Tryz.func122.trans (congrArg some (by kernel_rfl))
 f49:=⟨Tryz.f123.name,by decide,Tryz.func123.trans (congrArg some (by kernel_rfl))⟩
 f50:=⟨Tryz.f124.name,by decide,Tryz.func124.trans (congrArg some (by kernel_rfl))⟩
 f57:=⟨Tryz.f144.name,by decide,Tryz.func144.trans (congrArg some (by kernel_rfl))⟩
 t0:=Tryz.underlying0
 a0:=Tryz.isAgg0
 z0:=Tryz.sizeOf0
 v0:=Tryz.zeroValue0
 t3:=Tryz.underlying3
 a3:=Tryz.isAgg3
 z3:=Tryz.sizeOf3
 v3:=Tryz.zeroValue3
 t4:=Tryz.underlying4
 a4:=Tryz.isAgg4
 z4:=Tryz.sizeOf4
 v4:=Tryz.zeroValue4
 t5:=Tryz.underlying5
 a5:=Tryz.isAgg5
 z5:=Tryz.sizeOf5
 v5:=Tryz.zeroValue5
 t9:=Tryz.underlying9
 a9:=Tryz.isAgg9
 z9:=Tryz.sizeOf9
 v9:=Tryz.zeroValue9
 t22:=Tryz.underlying31
 a22:=Tryz.isAgg31
 z22:=Tryz.sizeOf31
 v22:=Tryz.zeroValue31
 t25:=Tryz.underlying78
 a25:=Tryz.isAgg78
 z25:=Tryz.sizeOf78
 v25:=Tryz.zeroValue78
 t39:=Tryz.underlying108
 a39:=Tryz.isAgg108
 z39:=Tryz.sizeOf108
 v39:=Tryz.zeroValue108
 t45:=Tryz.underlying145
 a45:=Tryz.isAgg145
 z45:=Tryz.sizeOf145
 v45:=Tryz.zeroValue145
 t46:=Tryz.underlying146
 a46:=Tryz.isAgg146
 z46:=Tryz.sizeOf146
 v46:=Tryz.zeroValue146
 t50:=Tryz.underlying76
 a50:=Tryz.isAgg76
 z50:=Tryz.sizeOf76
 v50:=Tryz.zeroValue76
 t53:=Tryz.underlying23
 a53:=Tryz.isAgg23
 z53:=Tryz.sizeOf23
 v53:=Tryz.zeroValue23
 t55:=Tryz.underlying103
 a55:=Tryz.isAgg103
 z55:=Tryz.sizeOf103
 v55:=Tryz.zeroValue103
 t66:=Tryz.underlying170
 a66:=Tryz.isAgg170
 z66:=Tryz.sizeOf170
 v66:=Tryz.zeroValue170
 t70:=Tryz.underlying174
 a70:=Tryz.isAgg174
 z70:=Tryz.sizeOf174
 v70:=Tryz.zeroValue174
 t76:=Tryz.underlying202
 a76:=Tryz.isAgg202
 z76:=Tryz.sizeOf202
 v76:=Tryz.zeroValue202
 t77:=Tryz.underlying112
 a77:=Tryz.isAgg112
 z77:=Tryz.sizeOf112
 v77:=Tryz.zeroValue112 }
open Go.RowKit Go.Sort
set_option linter.unusedVariables false
set_option maxRecDepth 100000
def OrB (x y:Int) (k:Nat):Prop:=k≤2∧(1≤k→x=0)∧(2≤k→y=0)
theorem Qgk (x y:Int) (g c:Nat) (v:Int) (hv:v=fstI x y) (w:World) (h0:w.cell? ⟨g,0,none⟩=some (.int .i64 x)) (h1:w.cell? ⟨g,1,none⟩=some (.int .i64 y)) :
  Calls Tryz.prog 50 #[.slice (some ⟨g,0,none⟩) 2 c] w fun e w'=>e=.returned (.int .i64 v)∧w=w':=by
 have HV:Hid _:=hv
 clear hv
 go_enter Tryz.func50,Tryz.ntmps50
 go_wp2
 go_loop [8] (fun i=>∃k:Nat,i=.int .i64 k∧OrB x y k) (fun i=>2-(intOf i).toNat)
 case atStart=>exact⟨0,rfl,by unfold OrB;omega⟩
 case round =>
  obtain⟨k,rfl,hr⟩:=hrel
  have HR:Hid _:=hr
  obtain⟨hk,k1,k2⟩:=hr
  rcases (by omega:k=0∨k=1∨k=2) with rfl|rfl|rfl
  ·clear k1 k2 hk
   by_cases hx:x=0
   ·subst hx
    go_wp2
    go_round
    case rel=>exact⟨1,rfl,by unfold OrB;omega⟩
    case measure=>simp [intOf]
   ·go_wp2
    go_ret
    exact⟨Qas (by rw [HV.out];exact (Qja _ hx).symm),rfl⟩
  ·have ex:=k1 (by omega)
   subst ex
   clear k1 k2 hk
   by_cases hy:y=0
   ·subst hy
    go_wp2
    go_round
    case rel=>exact⟨2,rfl,by unfold OrB;omega⟩
    case measure=>simp [intOf]
   ·go_wp2
    go_ret
    exact⟨Qas (by rw [HV.out];simp [fstI]),rfl⟩
  ·have ex:=k1 (by omega)
   have ey:=k2 (by omega)
   subst ex
   subst ey
   clear k1 k2 hk
   go_wp2
   go_ret
   exact⟨Qas (by rw [HV.out];rfl),rfl⟩
theorem Qlh (x y:PX) (w:World):Calls Tryz.prog 59 #[.agg #[.int .u32 x.addr,.int .u8 x.bits],.agg #[.int .u32 y.addr,.int .u8 y.bits]] w fun e w'=>e=.returned (.int .i64 (fstI (cmpI x.addr y.addr) (cmpI x.bits y.bits)))∧Grs w w':=by
 obtain⟨x0,x1⟩:=x
 obtain⟨y0,y1⟩:=y
 dsimp only
 have HE:Hid (fstI (cmpI x0 y0) (cmpI x1 y1)=fstI (cmpI x0 y0) (cmpI x1 y1)):=rfl
 generalize hz:fstI (cmpI x0 y0) (cmpI x1 y1)=z
 rw [hz] at HE
 have HE':Hid (z=fstI (cmpI x0 y0) (cmpI x1 y1)):=hz.symm
 clear hz HE
 go_enter Tryz.func59,Tryz.ntmps59
 go_wp2_with fail
 go_region_held3 (fun w'=>w'.cell? ⟨w.heap.size,0,none⟩=some (.int .u32 x0)∧w'.cell? ⟨w.heap.size,1,none⟩=some (.int .u8 x1)∧w'.cell? ⟨w.heap.size+1,0,none⟩=some (.int .u32 y0)∧w'.cell? ⟨w.heap.size+1,1,none⟩=some (.int .u8 y1)) (go_keep) (first
  | (go_at_call 51;refine (Qbp _ _ _).mono ?_;rintro e w1 ⟨rfl,rfl⟩)
  | (go_at_call 81;refine (Qlq _ _ _).mono ?_;rintro e w1 ⟨rfl,rfl⟩)
  | (go_at_call 50;refine (Qgk _ _ _ _ z HE'.out _ (by simp [go_sem]) (by simp [go_sem])).mono ?_;rintro e w5 ⟨rfl,rfl⟩))
 go_wp2_with fail
 go_ret
 exact⟨rfl,(((((Grs.refl w).alloc _).alloc _).alloc _).drew)⟩
open Go.RowKit Go.Sort
theorem Qej (x y:WY) (w:World):Calls Tryz.prog 36 #[.agg #[.int .u32 x.x.p.addr,.int .u8 x.x.p.bits,.int .u32 x.x.router,.int .u8 x.x.flags,.int .u8 x.x.kind,.int .u32 x.x.area,.int .u32 x.x.cost,.int .u32 x.x.dist,.int .u32 x.x.tag,x.hv],.agg #[.int .u32 y.x.p.addr,.int .u8 y.x.p.bits,.int .u32 y.x.router,.int .u8 y.x.flags,.int .u8 y.x.kind,.int .u32 y.x.area,.int .u32 y.x.cost,.int .u32 y.x.dist,.int .u32 y.x.tag,y.hv]] w fun e w'=>e=.returned (.int .i64 (endC x.x y.x))∧Grs w w':=by
 have HP:=fun w=>Qlh x.x.p y.x.p w
 have HC:=fun w=>Qbp x.x.router y.x.router w
 have HE:Hid (endC x.x y.x=fstI (fstI (cmpI x.x.p.addr y.x.p.addr) (cmpI x.x.p.bits y.x.p.bits)) (cmpI x.x.router y.x.router)):=rfl
 generalize endC x.x y.x=z at *
 generalize fstI (cmpI x.x.p.addr y.x.p.addr) (cmpI x.x.p.bits y.x.p.bits)=z1 at *
 generalize cmpI x.x.router y.x.router=z2 at *
 obtain⟨w0,hw0⟩:∃u,u=(w.alloc (.cells #[.int .u32 x.x.p.addr,.int .u8 x.x.p.bits,.int .u32 x.x.router,.int .u8 x.x.flags,.int .u8 x.x.kind,.int .u32 x.x.area,.int .u32 x.x.cost,.int .u32 x.x.dist,.int .u32 x.x.tag,x.hv] 47)).alloc (.cells #[.int .u32 y.x.p.addr,.int .u8 y.x.p.bits,.int .u32 y.x.router,.int .u8 y.x.flags,.int .u8 y.x.kind,.int .u32 y.x.area,.int .u32 y.x.cost,.int .u32 y.x.dist,.int .u32 y.x.tag,y.hv] 47):=⟨_,rfl⟩
 have G0:Hid (Grs w w0):=by rw [hw0];exact ((Grs.refl _).alloc _).alloc _
 have R0:Row w0 w.heap.size 47 [.int .u32 x.x.p.addr,.int .u8 x.x.p.bits,.int .u32 x.x.router,.int .u8 x.x.flags,.int .u8 x.x.kind,.int .u32 x.x.area,.int .u32 x.x.cost,.int .u32 x.x.dist,.int .u32 x.x.tag,x.hv]:=by rw [hw0];exact (Qac w _ _).keep ((Touch.refl _ _).alloc _)
 have R1:Row w0 (w.heap.size+1) 47 [.int .u32 y.x.p.addr,.int .u8 y.x.p.bits,.int .u32 y.x.router,.int .u8 y.x.flags,.int .u8 y.x.kind,.int .u32 y.x.area,.int .u32 y.x.cost,.int .u32 y.x.dist,.int .u32 y.x.tag,y.hv]:=by rw [hw0];have:=Qac (w.alloc (.cells #[.int .u32 x.x.p.addr,.int .u8 x.x.p.bits,.int .u32 x.x.router,.int .u8 x.x.flags,.int .u8 x.x.kind,.int .u32 x.x.area,.int .u32 x.x.cost,.int .u32 x.x.dist,.int .u32 x.x.tag,x.hv] 47)) 47 #[.int .u32 y.x.p.addr,.int .u8 y.x.p.bits,.int .u32 y.x.router,.int .u8 y.x.flags,.int .u8 y.x.kind,.int .u32 y.x.area,.int .u32 y.x.cost,.int .u32 y.x.dist,.int .u32 y.x.tag,y.hv];rw [World.size_alloc] at this;exact this
 have RX:∀w',Grs w0 w'→Row w' w.heap.size 47 [.int .u32 x.x.p.addr,.int .u8 x.x.p.bits,.int .u32 x.x.router,.int .u8 x.x.flags,.int .u8 x.x.kind,.int .u32 x.x.area,.int .u32 x.x.cost,.int .u32 x.x.dist,.int .u32 x.x.tag,x.hv]:=fun w' s=>R0.keep s.t
 have RY:∀w',Grs w0 w'→Row w' (w.heap.size+1) 47 [.int .u32 y.x.p.addr,.int .u8 y.x.p.bits,.int .u32 y.x.router,.int .u8 y.x.flags,.int .u8 y.x.kind,.int .u32 y.x.area,.int .u32 y.x.cost,.int .u32 y.x.dist,.int .u32 y.x.tag,y.hv]:=fun w' s=>R1.keep s.t
 clear R0 R1
 go_enter Tryz.func36,Tryz.ntmps36
 go_upto_region 1 with fail
 rw [←hw0]
 clear hw0
 generalize w.heap.size+1=g1 at *
 generalize w.heap.size=g0 at *
 have c2:∀w',Grs w0 w'→w'.cell? ⟨g0,2,none⟩=some (.int .u32 x.x.router):=fun w' s=>(RX w' s).cell 2
 have d2:∀w',Grs w0 w'→w'.cell? ⟨g1,2,none⟩=some (.int .u32 y.x.router):=fun w' s=>(RY w' s).cell 2
 refine wp_region_held_drew (S:=fun w'=>Grs w0 w') (by kernel_rfl) ((Grs.refl w0).drew) (fun hHeld=>?_)
 refine wpAnyH_take (i:=0) (oi:=⟨some 5,_,_,_,_,_⟩) (v:=.pointer (some ⟨g0,0,none⟩)) rfl (by kernel_rfl) (by kernel_rfl) (by kernel_rfl) (fun _ _ _ h=>h) (Or.inl ⟨by rfl,fun w hw=>by go_simp⟩) (by assumption) ?_
 simp only [Act.put,Qo4,Qo5,Qo6]
 refine wpAnyH_take (i:=1) (oi:=⟨some 6,_,_,_,_,_⟩) (v:=.agg #[.int .u32 x.x.p.addr,.int .u8 x.x.p.bits]) rfl (by kernel_rfl) (by kernel_rfl) (by kernel_rfl) (fun _ _ _ h=>h) (yieldsIf_load_mid (by rfl) _ _ rfl _ _ rfl [.int .u32 x.x.p.addr,.int .u8 x.x.p.bits] _ (fun w h=>Ql6 (RX w h)) Tryz.underlying44 rfl (by kernel_rfl)) (by assumption) ?_
 simp only [Act.put,Qo4,Qo5,Qo6]
 refine wpAnyH_take (i:=2) (oi:=⟨some 7,_,_,_,_,_⟩) (v:=.pointer (some ⟨g1,0,none⟩)) rfl (by kernel_rfl) (by kernel_rfl) (by kernel_rfl) (fun _ _ _ h=>h) (Or.inl ⟨by rfl,fun w hw=>by go_simp⟩) (by assumption) ?_
 simp only [Act.put,Qo4,Qo5,Qo6]
 refine wpAnyH_take (i:=3) (oi:=⟨some 8,_,_,_,_,_⟩) (v:=.agg #[.int .u32 y.x.p.addr,.int .u8 y.x.p.bits]) rfl (by kernel_rfl) (by kernel_rfl) (by kernel_rfl) (fun _ _ _ h=>h) (yieldsIf_load_mid (by rfl) _ _ rfl _ _ rfl [.int .u32 y.x.p.addr,.int .u8 y.x.p.bits] _ (fun w h=>Ql6 (RY w h)) Tryz.underlying44 rfl (by kernel_rfl)) (by assumption) ?_
 simp only [Act.put,Qo4,Qo5,Qo6]
 refine wpAnyH_take (i:=5) (oi:=⟨some 10,_,_,_,_,_⟩) (v:=.pointer (some ⟨g0,2,none⟩)) rfl (by kernel_rfl) (by kernel_rfl) (by kernel_rfl) (fun _ _ _ h=>h) (Or.inl ⟨by rfl,fun w hw=>by go_simp⟩) (by assumption) ?_
 simp only [Act.put,Qo4,Qo5,Qo6]
 refine wpAnyH_take (i:=6) (oi:=⟨some 11,_,_,_,_,_⟩) (v:=.int .u32 x.x.router) rfl (by kernel_rfl) (by kernel_rfl) (by kernel_rfl) (fun _ _ _ h=>h) (Or.inl ⟨by rfl,fun w hw=>by go_simp⟩) (by assumption) ?_
 simp only [Act.put,Qo4,Qo5,Qo6]
 refine wpAnyH_take (i:=7) (oi:=⟨some 12,_,_,_,_,_⟩) (v:=.pointer (some ⟨g1,2,none⟩)) rfl (by kernel_rfl) (by kernel_rfl) (by kernel_rfl) (fun _ _ _ h=>h) (Or.inl ⟨by rfl,fun w hw=>by go_simp⟩) (by assumption) ?_
 simp only [Act.put,Qo4,Qo5,Qo6]
 refine wpAnyH_take (i:=8) (oi:=⟨some 13,_,_,_,_,_⟩) (v:=.int .u32 y.x.router) rfl (by kernel_rfl) (by kernel_rfl) (by kernel_rfl) (fun _ _ _ h=>h) (Or.inl ⟨by rfl,fun w hw=>by go_simp⟩) (by assumption) ?_
 simp only [Act.put,Qo4,Qo5,Qo6]
 refine wpAnyH_ready (rs:=[4]) (by kernel_rfl) (by simp) ?_
 refine AllReadyH.cons (o:=⟨some 9,_,_,_,_,_⟩) rfl (fun K hK=>?_) AllReadyH.nil
 go_simp
 refine Calls.mono (HP _) ?_
 rintro e y1 ⟨rfl,u1⟩
 have s1:Grs w0 y1:=((Grs.refl w0).drew).trans u1
 refine hK.out _ _ (by assumption) (fun hHeld=>?_)
 clear hK K
 refine wpAnyH_ready (rs:=[9]) (by kernel_rfl) (by simp) ?_
 refine AllReadyH.cons (o:=⟨some 14,_,_,_,_,_⟩) rfl (fun K hK=>?_) AllReadyH.nil
 go_simp
 refine Calls.mono (HC _) ?_
 rintro e y2 ⟨rfl,rfl⟩
 refine hK.out _ _ (by assumption) (fun hHeld=>?_)
 clear hK K
 refine wpAnyH_ready (rs:=[10]) (by kernel_rfl) (by simp) ?_
 refine AllReadyH.cons (o:=⟨some 15,_,_,_,_,_⟩) rfl (fun K hK=>?_) AllReadyH.nil
 go_simp
 have s3:Grs w0 (y1.alloc (.cells #[.int .i64 z1,.int .i64 z2] 3)):=s1.alloc _
 refine hK.out _ _ (by assumption) (fun hHeld=>?_)
 clear hK K
 refine wpAnyH_ready (rs:=[11]) (by kernel_rfl) (by simp) ?_
 refine AllReadyH.cons (o:=⟨some 16,_,_,_,_,_⟩) rfl (fun K hK=>?_) AllReadyH.nil
 go_simp
 refine Calls.mono (Qgk z1 z2 _ _ z HE.out _ (by simp [go_sem]) (by simp [go_sem])) ?_
 rintro e y4 ⟨rfl,rfl⟩
 refine hK.out _ _ (by assumption) (fun hHeld=>?_)
 clear hK K
 refine wpAnyH_take (i:=12) (oi:=⟨some 4,_,_,_,_,_⟩) (v:=.int .i64 z) rfl (by kernel_rfl) (by kernel_rfl) (by kernel_rfl) (fun _ _ _ h=>h) (Or.inl ⟨by rfl,fun w hw=>by go_simp⟩) (by assumption) ?_
 simp only [Act.put,Qo4,Qo5,Qo6]
 refine wpAnyH_done (by kernel_rfl) ?_ _
 clear RX RY HP HC c2 d2
 go_wp2_with fail
 go_ret
 exact⟨rfl,G0.out.trans s3⟩
theorem Qmj (x y:WY) (w:World):Calls Tryz.prog 49 #[.agg #[.int .u32 x.x.p.addr,.int .u8 x.x.p.bits,.int .u32 x.x.router,.int .u8 x.x.flags,.int .u8 x.x.kind,.int .u32 x.x.area,.int .u32 x.x.cost,.int .u32 x.x.dist,.int .u32 x.x.tag,x.hv],.agg #[.int .u32 y.x.p.addr,.int .u8 y.x.p.bits,.int .u32 y.x.router,.int .u8 y.x.flags,.int .u8 y.x.kind,.int .u32 y.x.area,.int .u32 y.x.cost,.int .u32 y.x.dist,.int .u32 y.x.tag,y.hv]] w fun e w'=>e=.returned (.int .i64 (cW x.x y.x))∧Grs w w':=by
 have HP:=fun w=>Qej x y w
 have HC:=fun w=>Qbp x.x.cost y.x.cost w
 have HE:Hid (cW x.x y.x=fstI (endC x.x y.x) (cmpI x.x.cost y.x.cost)):=rfl
 generalize cW x.x y.x=z at *
 generalize endC x.x y.x=z1 at *
 generalize cmpI x.x.cost y.x.cost=z2 at *
 obtain⟨w0,hw0⟩:∃u,u=(w.alloc (.cells #[.int .u32 x.x.p.addr,.int .u8 x.x.p.bits,.int .u32 x.x.router,.int .u8 x.x.flags,.int .u8 x.x.kind,.int .u32 x.x.area,.int .u32 x.x.cost,.int .u32 x.x.dist,.int .u32 x.x.tag,x.hv] 47)).alloc (.cells #[.int .u32 y.x.p.addr,.int .u8 y.x.p.bits,.int .u32 y.x.router,.int .u8 y.x.flags,.int .u8 y.x.kind,.int .u32 y.x.area,.int .u32 y.x.cost,.int .u32 y.x.dist,.int .u32 y.x.tag,y.hv] 47):=⟨_,rfl⟩
 have G0:Hid (Grs w w0):=by rw [hw0];exact ((Grs.refl _).alloc _).alloc _
 have R0:Row w0 w.heap.size 47 [.int .u32 x.x.p.addr,.int .u8 x.x.p.bits,.int .u32 x.x.router,.int .u8 x.x.flags,.int .u8 x.x.kind,.int .u32 x.x.area,.int .u32 x.x.cost,.int .u32 x.x.dist,.int .u32 x.x.tag,x.hv]:=by rw [hw0];exact (Qac w _ _).keep ((Touch.refl _ _).alloc _)
 have R1:Row w0 (w.heap.size+1) 47 [.int .u32 y.x.p.addr,.int .u8 y.x.p.bits,.int .u32 y.x.router,.int .u8 y.x.flags,.int .u8 y.x.kind,.int .u32 y.x.area,.int .u32 y.x.cost,.int .u32 y.x.dist,.int .u32 y.x.tag,y.hv]:=by rw [hw0];have:=Qac (w.alloc (.cells #[.int .u32 x.x.p.addr,.int .u8 x.x.p.bits,.int .u32 x.x.router,.int .u8 x.x.flags,.int .u8 x.x.kind,.int .u32 x.x.area,.int .u32 x.x.cost,.int .u32 x.x.dist,.int .u32 x.x.tag,x.hv] 47)) 47 #[.int .u32 y.x.p.addr,.int .u8 y.x.p.bits,.int .u32 y.x.router,.int .u8 y.x.flags,.int .u8 y.x.kind,.int .u32 y.x.area,.int .u32 y.x.cost,.int .u32 y.x.dist,.int .u32 y.x.tag,y.hv];rw [World.size_alloc] at this;exact this
 have RX:∀w',Grs w0 w'→Row w' w.heap.size 47 [.int .u32 x.x.p.addr,.int .u8 x.x.p.bits,.int .u32 x.x.router,.int .u8 x.x.flags,.int .u8 x.x.kind,.int .u32 x.x.area,.int .u32 x.x.cost,.int .u32 x.x.dist,.int .u32 x.x.tag,x.hv]:=fun w' s=>R0.keep s.t
 have RY:∀w',Grs w0 w'→Row w' (w.heap.size+1) 47 [.int .u32 y.x.p.addr,.int .u8 y.x.p.bits,.int .u32 y.x.router,.int .u8 y.x.flags,.int .u8 y.x.kind,.int .u32 y.x.area,.int .u32 y.x.cost,.int .u32 y.x.dist,.int .u32 y.x.tag,y.hv]:=fun w' s=>R1.keep s.t
 clear R0 R1
 go_enter Tryz.func49,Tryz.ntmps49
 go_upto_region 1 with fail
 rw [←hw0]
 clear hw0
 generalize w.heap.size+1=g1 at *
 generalize w.heap.size=g0 at *
 have c6:∀w',Grs w0 w'→w'.cell? ⟨g0,6,none⟩=some (.int .u32 x.x.cost):=fun w' s=>(RX w' s).cell 6
 have d6:∀w',Grs w0 w'→w'.cell? ⟨g1,6,none⟩=some (.int .u32 y.x.cost):=fun w' s=>(RY w' s).cell 6
 refine wp_region_held_drew (S:=fun w'=>Grs w0 w') (by kernel_rfl) ((Grs.refl w0).drew) (fun hHeld=>?_)
 refine wpAnyH_take (i:=0) (oi:=⟨some 5,_,_,_,_,_⟩) (v:=.agg #[.int .u32 x.x.p.addr,.int .u8 x.x.p.bits,.int .u32 x.x.router,.int .u8 x.x.flags,.int .u8 x.x.kind,.int .u32 x.x.area,.int .u32 x.x.cost,.int .u32 x.x.dist,.int .u32 x.x.tag,x.hv]) rfl (by kernel_rfl) (by kernel_rfl) (by kernel_rfl) (fun _ _ _ h=>h) (yieldsIf_load_mid (by rfl) _ _ rfl _ _ rfl [.int .u32 x.x.p.addr,.int .u8 x.x.p.bits,.int .u32 x.x.router,.int .u8 x.x.flags,.int .u8 x.x.kind,.int .u32 x.x.area,.int .u32 x.x.cost,.int .u32 x.x.dist,.int .u32 x.x.tag,x.hv] _ (fun w h=>Qbk (RX w h)) Tryz.underlying47 rfl (by kernel_rfl)) (by assumption) ?_
 simp only [Act.put,Qo4,Qo5,Qo6]
 refine wpAnyH_take (i:=1) (oi:=⟨some 6,_,_,_,_,_⟩) (v:=.agg #[.int .u32 y.x.p.addr,.int .u8 y.x.p.bits,.int .u32 y.x.router,.int .u8 y.x.flags,.int .u8 y.x.kind,.int .u32 y.x.area,.int .u32 y.x.cost,.int .u32 y.x.dist,.int .u32 y.x.tag,y.hv]) rfl (by kernel_rfl) (by kernel_rfl) (by kernel_rfl) (fun _ _ _ h=>h) (yieldsIf_load_mid (by rfl) _ _ rfl _ _ rfl [.int .u32 y.x.p.addr,.int .u8 y.x.p.bits,.int .u32 y.x.router,.int .u8 y.x.flags,.int .u8 y.x.kind,.int .u32 y.x.area,.int .u32 y.x.cost,.int .u32 y.x.dist,.int .u32 y.x.tag,y.hv] _ (fun w h=>Qbk (RY w h)) Tryz.underlying47 rfl (by kernel_rfl)) (by assumption) ?_
 simp only [Act.put,Qo4,Qo5,Qo6]
 refine wpAnyH_take (i:=3) (oi:=⟨some 8,_,_,_,_,_⟩) (v:=.pointer (some ⟨g0,6,none⟩)) rfl (by kernel_rfl) (by kernel_rfl) (by kernel_rfl) (fun _ _ _ h=>h) (Or.inl ⟨by rfl,fun w hw=>by go_simp⟩) (by assumption) ?_
 simp only [Act.put,Qo4,Qo5,Qo6]
 refine wpAnyH_take (i:=4) (oi:=⟨some 9,_,_,_,_,_⟩) (v:=.int .u32 x.x.cost) rfl (by kernel_rfl) (by kernel_rfl) (by kernel_rfl) (fun _ _ _ h=>h) (Or.inl ⟨by rfl,fun w hw=>by go_simp⟩) (by assumption) ?_
 simp only [Act.put,Qo4,Qo5,Qo6]
 refine wpAnyH_take (i:=5) (oi:=⟨some 10,_,_,_,_,_⟩) (v:=.pointer (some ⟨g1,6,none⟩)) rfl (by kernel_rfl) (by kernel_rfl) (by kernel_rfl) (fun _ _ _ h=>h) (Or.inl ⟨by rfl,fun w hw=>by go_simp⟩) (by assumption) ?_
 simp only [Act.put,Qo4,Qo5,Qo6]
 refine wpAnyH_take (i:=6) (oi:=⟨some 11,_,_,_,_,_⟩) (v:=.int .u32 y.x.cost) rfl (by kernel_rfl) (by kernel_rfl) (by kernel_rfl) (fun _ _ _ h=>h) (Or.inl ⟨by rfl,fun w hw=>by go_simp⟩) (by assumption) ?_
 simp only [Act.put,Qo4,Qo5,Qo6]
 refine wpAnyH_ready (rs:=[2]) (by kernel_rfl) (by simp) ?_
 refine AllReadyH.cons (o:=⟨some 7,_,_,_,_,_⟩) rfl (fun K hK=>?_) AllReadyH.nil
 go_simp
 refine Calls.mono (HP _) ?_
 rintro e y1 ⟨rfl,u1⟩
 have s1:Grs w0 y1:=((Grs.refl w0).drew).trans u1
 refine hK.out _ _ (by assumption) (fun hHeld=>?_)
 clear hK K
 refine wpAnyH_ready (rs:=[7]) (by kernel_rfl) (by simp) ?_
 refine AllReadyH.cons (o:=⟨some 12,_,_,_,_,_⟩) rfl (fun K hK=>?_) AllReadyH.nil
 go_simp
 refine Calls.mono (HC _) ?_
 rintro e y2 ⟨rfl,rfl⟩
 refine hK.out _ _ (by assumption) (fun hHeld=>?_)
 clear hK K
 refine wpAnyH_ready (rs:=[8]) (by kernel_rfl) (by simp) ?_
 refine AllReadyH.cons (o:=⟨some 13,_,_,_,_,_⟩) rfl (fun K hK=>?_) AllReadyH.nil
 go_simp
 have s3:Grs w0 (y1.alloc (.cells #[.int .i64 z1,.int .i64 z2] 3)):=s1.alloc _
 refine hK.out _ _ (by assumption) (fun hHeld=>?_)
 clear hK K
 refine wpAnyH_ready (rs:=[9]) (by kernel_rfl) (by simp) ?_
 refine AllReadyH.cons (o:=⟨some 14,_,_,_,_,_⟩) rfl (fun K hK=>?_) AllReadyH.nil
 go_simp
 refine Calls.mono (Qgk z1 z2 _ _ z HE.out _ (by simp [go_sem]) (by simp [go_sem])) ?_
 rintro e y4 ⟨rfl,rfl⟩
 refine hK.out _ _ (by assumption) (fun hHeld=>?_)
 clear hK K
 refine wpAnyH_take (i:=10) (oi:=⟨some 4,_,_,_,_,_⟩) (v:=.int .i64 z) rfl (by kernel_rfl) (by kernel_rfl) (by kernel_rfl) (fun _ _ _ h=>h) (Or.inl ⟨by rfl,fun w hw=>by go_simp⟩) (by assumption) ?_
 simp only [Act.put,Qo4,Qo5,Qo6]
 refine wpAnyH_done (by kernel_rfl) ?_ _
 clear RX RY HP HC c6 d6
 go_wp2_with fail
 go_ret
 exact⟨rfl,G0.out.trans s3⟩
theorem Qk1 (x y:WY) (w:World):Calls Tryz.prog 49 #[.agg #[.int .u32 x.x.p.addr,.int .u8 x.x.p.bits,.int .u32 x.x.router,.int .u8 x.x.flags,.int .u8 x.x.kind,.int .u32 x.x.area,.int .u32 x.x.cost,.int .u32 x.x.dist,.int .u32 x.x.tag,x.hv],.agg #[.int .u32 y.x.p.addr,.int .u8 y.x.p.bits,.int .u32 y.x.router,.int .u8 y.x.flags,.int .u8 y.x.kind,.int .u32 y.x.area,.int .u32 y.x.cost,.int .u32 y.x.dist,.int .u32 y.x.tag,y.hv]] w fun e w'=>e=.returned (.int .i64 (cW x.x y.x))∧∃q os',w'=grow (w.drewN q) os' :=
 (Qmj x y w).mono fun e w' h=>⟨h.1,h.2.out⟩
end Go.Proofs.YtldmkoogghemhaaGreat
