/- ColfileFinds: for all schemas, rows, sizes of groups and predicates the law returns true: the rows that a predicate finds, and the groups that are looked at, are the document's. The table of half bytes reads as the program's text lays it (the card ties it); no other condition. -/
import Derived.Test.YtpljdjmpamjkhaaGreatDoorSba
set_option linter.all false
set_option maxRecDepth 100000
namespace Go.Proofs.YtpljdjmpamjkhaaGreatDoor
open Go.Proofs.Tryz
namespace FindsLaw
open Go.ChangeShapes Go.WideShapes Go.ChangeAt Go.RowKit Go.Lib
theorem lifted(os:Os)(started:os.Started)(H:Type)(enc:TypeId×Value->H) :
  ReturnsInHanded {} checked os 5 .any (λw args=>(Rows.colfileFindsSpec.pre enc prog f5 [] false w args/\laidMetH prog Ge w)/\sizedMet enc prog f5 (OpenSpec.ofChange Rows.colfileFindsSpec) false w args)
   (Rows.colfileFindsSpec.post enc prog f5 false true false false):=by
 refine returnsInHanded_of_change_and (C:=checked) (X:=λw _=>laidMetH prog Ge w) (λ_ _ _ hh h=>h.of_heap hh) own started (by kernel_rfl) func5
  (ChangeSpec.witness_shaped (enc:=enc) (C:=checked) (os:=os) (X:=λw _=>laidMetH prog Ge w) false (World.doorLaid prog 400 os) #[.agg #[.int .u32 0,.slice none 0 0],.slice none 0 0,.int .i64 0,.agg #[.int .u8 0,.int .u32 0,.int .u8 0,.int .i64 0,.string ⟨#[]⟩,.slice none 0 0]] 8 rfl (World.shaped_of_RefB (by kernel_rfl) (by kernel_rfl)) (by kernel_rfl) (by kernel_rfl) (by kernel_rfl) (Wl os _)) ?_
 intro W base args ds gs before hval0 hW _ _ hL _;have hval:∀(j:Nat) t v,f5.params[j]?=some t->args[j]?=some v->Value.okWide prog W .any base t v:=hval0;have hW':=hW;obtain⟨p,q,hA0,hV,rfl,hfz,hnd⟩:=hW;have hA:DataW.TrodAll enc prog W 0 (λ_=>true) true f5.params.toList args.toList ds p:=hA0;rw[params5]at hA hval;obtain⟨v0,vs0,d0,ds0,p0,q0,hargs,rfl,rfl,h0,r0⟩:=trodAll_cons hA;obtain⟨v1,vs1,d1,ds1,p1,q1,rfl,rfl,rfl,h1,r1⟩:=trodAll_cons r0;obtain⟨v2,vs2,d2,ds2,p2,q2,rfl,rfl,rfl,h2,r2⟩:=trodAll_cons r1;obtain⟨v3,vs3,d3,ds3,p3,q3,rfl,rfl,rfl,h3,r3⟩:=trodAll_cons r2;obtain⟨rfl,rfl,rfl⟩:=trodAll_nil r3;obtain rfl:args=#[v0,v1,v2,v3]:=by cases args;simp_all
 obtain⟨rfl,rfl⟩:=trodVars_none hV;have hTab:=ZS hL;have lt0:∀ x∈p0,x.block<W.heap.size:=by obtain⟨m,hm⟩:=h0;exact DataW.trod_lt m _ _ _ hm
 obtain⟨id0,u0,l0,rfl,hid0,tN,ho0⟩:=FC (hval 0 25 v0 rfl rfl) h0;have lt1:∀ x∈p1,x.block<W.heap.size:=by obtain⟨m,hm⟩:=h1;exact DataW.trod_lt m _ _ _ hm
 obtain⟨a1,len1,cap1,rfl⟩:=okWide_slice underlying26 (hval 1 26 v1 rfl rfl);obtain⟨l1,De,dM⟩:=Ql h1;obtain⟨a2,rfl,rfl,rfl,w2⟩:=open_int underlying3 (hval 2 3 v2 rfl rfl) h2;have lt3:∀ x∈p3,x.block<W.heap.size:=by obtain⟨m,hm⟩:=h3;exact DataW.trod_lt m _ _ _ hm
 obtain⟨op3,f3,c3,ks3,kv3,rfl,hk3,fy⟩:=Kt (hval 3 63 v3 rfl rfl) h3;clear hA0 hval0;refine(walk hTab tN ho0 id0 hid0 De dM a2 hk3 fy).mono λe W' ⟨he,bel⟩=>?_
 subst he;exact⟨_,rfl,_,_,_,[],_,[],hW',trodAll_mk1 (shut_bool underlying4 _),(trodAll_cons_mk (Below.trod Cq (by kernel_rfl) (of_decide_eq_true (by kernel_rfl)) h0 bel lt0) (trodAll_cons_mk (Below.trod Cq (by kernel_rfl) (of_decide_eq_true (by kernel_rfl)) h1 bel lt1) (trodAll_cons_mk (shut_int underlying3 w2) (trodAll_cons_mk (Below.trod Cq (by kernel_rfl) (of_decide_eq_true (by kernel_rfl)) h3 bel lt3) trodAll_mk0)))),rfl,bel.frame _,λh=>by cases h⟩
theorem proved:Rows.ColfileFindsSaid :=
 OpenClaim.holds_of_wide 5 f5 rfl rfl rfl rfl rfl rfl rfl ⟨rfl,rfl,rfl,rfl,rfl⟩ rfl rfl rfl rfl rfl (by as_aux_lemma=>kernel_rfl) func5 qk
  (of_decide_eq_true (by as_aux_lemma=>kernel_rfl)) (by unfold Func.isWrapper;first | (rw[jey (by decide +kernel)];kernel_rfl) | (rw[jex (by decide +kernel)];exact⟨rfl,rfl⟩))
  (λos started H enc _=>lifted os started H enc)
theorem card:Rows.ColfileFindsCardSaid :=
 Claim7.holds_tied_plain_at .later [] [.data] true (true, "9ee52a3e054a8673454485b858a19567b4b3ac5cd87e67c456c53d0931acc067") true
  proved (λ_ h=>by cases h) (by as_aux_lemma=>kernel_rfl) (λ_ h=>by cases h) colfileFinds_row_tie rfl ⟨rfl,rfl⟩ (by as_aux_lemma=>kernel_rfl) rfl
  (λf fn hf yd=>by
   obtain rfl : f = 5 := Option.some.inj ((show prog.funcNamed "catchment/catchmentlaw10.ColfileFinds" = some 5 by as_aux_lemma => kernel_rfl).symm.trans hf) |>.symm
   obtain rfl:fn=f5:=(Option.some.inj (func5.symm.trans yd)).symm
   exact⟨by as_aux_lemma=>kernel_rfl,λj t ht=>by
    rw[params5]at ht;have hm:t∈[25,26,3,63]:=by simpa using Array.mem_of_getElem? ht
    have ch:([25,26,3,63].all λu=>!prog.wantsStandIn u)=true:=by as_aux_lemma=>kernel_rfl
    exact(show prog.wantsStandIn t=false by simpa using List.all_eq_true.1 ch t hm)⟩)
  (by as_aux_lemma=>kernel_rfl)
end FindsLaw
theorem colfileFinds_holds:Rows.ColfileFindsCardSaid:=FindsLaw.card
#print axioms colfileFinds_holds
end Go.Proofs.YtpljdjmpamjkhaaGreatDoor
