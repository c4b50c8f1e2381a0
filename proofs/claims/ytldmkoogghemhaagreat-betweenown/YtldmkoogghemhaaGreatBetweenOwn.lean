/- A case (beyond its bounds only the example is asked): what a border passes on, read back by that border itself, gives it no way. -/
import Derived.Test.YtldmkoogghemhaaGreatRows
import Derived.Test.YtldmkoogghemhaaGreatBtOwn
import Derived.Test.YtldmkoogghemhaaGreatBtArgs
import Derived.WalkKit
import Derived.ProofKit
import Derived.OpenShut
import Derived.ChangeOld
import Derived.Below
import Derived.SizedLaws
namespace Go.Proofs.YtldmkoogghemhaaGreat.betweenOwn
open Go.ChangeShapes Go.WideShapes Go.ChangeAt Go.RowKit
set_option linter.unusedVariables false
theorem own:ownKnob Tryz.prog.godebug=none:=by kernel_rfl
theorem laidOut:laidOutB Tryz.prog=true:=by kernel_rfl
set_option maxRecDepth 100000 in
theorem lifted (os:Os) (started:os.Started) (H:Type) (enc:TypeId×Value→H) :
  ReturnsInHanded {} Tryz.checked os 7 .any (Rows.betweenOwnSpec.pre6 enc Tryz.prog Tryz.f7 Rows.betweenOwnRow.domain false) (Rows.betweenOwnSpec.post enc Tryz.prog Tryz.f7 false true false false):=by
 refine returnsInHanded_of_change_sized (C:=Tryz.checked) own started (by kernel_rfl) Tryz.func7
  (ChangeSpec.witness6 (enc:=enc) (C:=Tryz.checked) false ⟨#[],#[.agg #[.slice none 0 0,.int .u32 0,.int .u32 0,.slice none 0 0]],[]⟩ 8 (by kernel_rfl) (by kernel_rfl) (by kernel_rfl) (by kernel_rfl)) ?_
 intro W base args ds gs before hval0 hW hcnd hsz _
 have hval:∀(j:Nat) t v,Tryz.f7.params[j]?=some t→args[j]?=some v→Value.okWide Tryz.prog W .any base t v:=hval0
 have hW':=hW
 obtain⟨p,q,hA0,hV,rfl,hfz,hnd⟩:=hW
 have hA:DataW.TrodAll enc Tryz.prog W 0 (fun _=>true) true Tryz.f7.params.toList args.toList ds p:=hA0
 rw [Tryz.params7] at hA hval
 obtain⟨v0,vs0,d0,ds0,p0,q0,hargs,rfl,rfl,h0,r0⟩:=trodAll_cons hA
 obtain⟨rfl,rfl,rfl⟩:=trodAll_nil r0
 obtain rfl:args=#[v0]:=by cases args;simp_all
 obtain⟨rfl,rfl⟩:=trodVars_none hV
 have k0:=h0
 have lt0:∀x∈p0,x.block<W.heap.size:=by obtain⟨m,hm⟩:=k0;exact DataW.trod_lt m _ _ _ hm
 have lg0:∀n∈DataW.weights Tryz.prog 26 d0,n≤140737488355328:=fun n hn=>by
  have:=List.all_eq_true.1 hsz n (DataW.weights_mem_each (j:=0) (t:=26) (d:=d0) (by kernel_rfl) (by rfl) n hn)
  have h2:n≤reachBytes:=by simpa using this
  have:=reachBytes_lt
  omega
 obtain⟨va0,vb0,S0,T0,area0,me0,rfl,sa0,sl0,sb0,wa0,wl0,mm0⟩:=Qgg (hval 0 26 v0 rfl rfl) h0 lg0
 clear hA0 hval0
 refine (own19 va0 vb0 S0 T0 area0 me0 W sa0 sl0 sb0 wa0 wl0 mm0).mono fun e W' ⟨he,t⟩=>?_
 have bel:=t.below (Nat.le_refl _) (fun _ _ h=>h)
 subst he
 exact⟨_,rfl,_,_,_,[],_,[],hW',trodAll_mk1 (shut_bool Tryz.underlying4 _),(trodAll_cons_mk (Below.trod laidOut (by kernel_rfl) (of_decide_eq_true (by kernel_rfl)) k0 bel lt0) trodAll_mk0),rfl,bel.frame _,fun h=>by cases h⟩
theorem over:Rows.betweenOwnRow.holds Tryz.pinned (OpenSpec.ofChange Rows.betweenOwnSpec) :=
 OpenClaim.holds_of_wide 7 Tryz.f7 rfl rfl rfl rfl rfl rfl rfl ⟨rfl,rfl,rfl,rfl,rfl⟩ rfl rfl rfl rfl rfl (by kernel_rfl) Tryz.func7 (by kernel_rfl)
  (of_decide_eq_true (by kernel_rfl)) (by unfold Func.isWrapper;first|(rw [if_pos (by decide +kernel)];kernel_rfl)|(rw [if_neg (by decide +kernel)];exact⟨rfl,rfl⟩))
  (fun os started H enc _=>lifted os started H enc)
end Go.Proofs.YtldmkoogghemhaaGreat.betweenOwn
namespace Go.Proofs.YtldmkoogghemhaaGreat
theorem betweenOwn_holds:Rows.BetweenOwnSaid:=betweenOwn.over
end Go.Proofs.YtldmkoogghemhaaGreat
