import Derived.Test.YtpljdjmpamjkhaaGreatDoorUbg
set_option linter.unusedVariables false
set_option linter.unusedSimpArgs false
set_option maxRecDepth 100000
set_option maxHeartbeats 4000000
namespace Go.Proofs.YtpljdjmpamjkhaaGreatDoor
open Go.RowKit Go.Lib
theorem xv{b:List Nat}(h:spl b=none):iK b=none:=by
 unfold spl at h;unfold iK;split
 ·rfl
 ·next h4 =>
  rw[jde h4]at h;split
  ·rfl
  ·next h5 =>
   rw[jde h5]at h;cases h
theorem NU{b c f:List Nat}(h:spl b=some (c,f)):iK b=match da f with
  | .error _=>none
  | .ok ((id,fs),r)=>if (gX fs c r).2.2.2=true then none else some (id,fs,gd 1 64 (dE r),(gX fs c r).1):=by
 unfold spl at h;unfold iK;split
 ·next h4 =>
  rw[jdf h4]at h;cases h
 ·next h4 =>
  rw[jde h4]at h;split
  ·next h5 =>
   rw[jdf h5]at h;cases h
  ·next h5 =>
   rw[jde h5]at h;simp only[Option.some.injEq,Prod.mk.injEq]at h;obtain⟨rfl,rfl⟩:=h;rfl
theorem jaN{b c f:List Nat}(h:spl b=some (c,f))(h8:Bs b):Bs c/\Bs f/\c.length<=b.length/\f.length<=b.length:=by
 unfold spl at h;split at h
 ·cases h
 ·split at h
  ·cases h
  ·simp only[Option.some.injEq,Prod.mk.injEq]at h
   obtain⟨rfl,rfl⟩:=h;refine⟨h8.take _,(h8.take _).drop _,by rw[jdo];omega,by rw[jdN,jdo];omega⟩
def NeR{α : Type}(m:List Nat->Except Nat (α×List Nat)):Prop:=∀ b c,m b=.error c->c≠0
theorem NeR.bind{α β : Type}{m:List Nat->Except Nat (α×List Nat)}{k:α->List Nat->Except Nat (β×List Nat)}(h:NeR m)(hk:∀ x,NeR (k x)):NeR (aB m k):=by
 intro b c e;cases hm:m b with
 | error d =>
  rw[cC hm]at e;cases e
  exact h b _ hm
 | ok q =>
  obtain⟨x,s⟩:=q;rw[cX hm]at e;exact hk x s c e
theorem NeR.num(n:Nat):NeR (ik n):=by
 intro b c e;unfold ik at e;split at e
 ·next h=>cases e;exact h
 ·split at e
  ·cases e;decide
  ·cases e
theorem NeR.textR(n:Nat):NeR (textR n):=by
 intro b c e;unfold Go.Proofs.YtpljdjmpamjkhaaGreatDoor.textR at e;split at e
 ·cases e;decide
 ·cases e
theorem NeR.fld:NeR ux:=(NeR.num _).bind fun i=>((NeR.num _).bind fun n=>NeR.textR n).bind fun s=>(NeR.num _).bind fun k=>(NeR.num _).bind fun n=>fun b c e=>by cases e
theorem NeR.flds:∀ n,NeR (kR n)
 | 0=>fun b c e=>by cases e
 | n+1=>(NeR.flds n).bind fun l=>NeR.fld.bind fun f=>fun b c e=>by cases e
theorem JJ:NeR da :=
 ((NeR.num _).bind fun i=>(NeR.num _).bind fun n=>(NeR.flds n).bind fun l=>fun b c e=>by cases e).bind fun s=>by
  intro b c e;simp only at e;split at e
  ·cases e
  ·next h=>cases e;exact h
def BsR{α : Type}(m:List Nat->Except Nat (α×List Nat)):Prop:=∀ b x r,m b=.ok (x,r)->Bs b->Bs r
theorem BsR.bind{α β : Type}{m:List Nat->Except Nat (α×List Nat)}{k:α->List Nat->Except Nat (β×List Nat)}(h:BsR m)(hk:∀ x,BsR (k x)):BsR (aB m k):=by
 intro b y r e hb;cases hm:m b with
 | error c=>rw[cC hm]at e;cases e
 | ok q =>
  obtain⟨x,s⟩:=q;rw[cX hm]at e;exact hk x s y r e (h b x s hm hb)
theorem BsR.pure{α : Type}(x:α):BsR (fun b=>.ok (x,b)):=fun b y r e hb=>by cases e;exact hb
theorem BsR.num(n:Nat):BsR (ik n):=by
 intro b x r e hb;unfold ik at e;split at e
 ·cases e
 ·split at e
  ·cases e
  ·cases e;exact hb.drop _
theorem BsR.textR(n:Nat):BsR (textR n):=by
 intro b x r e hb;unfold Go.Proofs.YtpljdjmpamjkhaaGreatDoor.textR at e;split at e
 ·cases e
 ·cases e;exact hb.drop _
theorem BsR.fld:BsR ux:=(BsR.num _).bind fun i=>((BsR.num _).bind fun n=>BsR.textR n).bind fun s=>(BsR.num _).bind fun k=>(BsR.num _).bind fun n=>BsR.pure _
theorem BsR.flds:∀ n,BsR (kR n)
 | 0=>BsR.pure _
 | n+1=>(BsR.flds n).bind fun l=>BsR.fld.bind fun f=>BsR.pure _
theorem JK:BsR da :=
 ((BsR.num _).bind fun i=>(BsR.num _).bind fun n=>(BsR.flds n).bind fun l=>BsR.pure _).bind fun s=>by
  intro b x r e hb;simp only at e;split at e
  ·cases e;exact hb
  ·cases e
theorem JL(f:List Nat):(∃ c,da f=.error c/\c≠0/\yt f=(0,[],[],c))∨∃ id fs r,da f=.ok ((id,fs),r)/\yt f=(id,fs,r,0):=by
 unfold yt;cases h:da f with
 | error c=>exact .inl ⟨c,rfl,JJ f c h,rfl⟩
 | ok q =>
  obtain⟨⟨id,fs⟩,r⟩:=q;exact .inr ⟨id,fs,r,rfl,rfl⟩
theorem JM{w:World}{v:Value}{b:List Nat}(hs:Sv w v (aF .u8 b))(h8:Bs b)(hl:b.length<=80000000)(hw:nR w.heap.size v) :
  Calls Tryz.prog 53 #[v] w fun e w'=>((iK b=none/\∃ fp g,e=.returned (.tuple #[.pointer fp,.int .i64 g,.bool false])) ∨
   ∃ id fs g gs fp fv,iK b=some (id,fs,g,gs)/\e=.returned (.tuple #[.pointer (some ⟨fp,0,none⟩),.int .i64 ((g:Nat):Int),.bool true])/\Fil w' w.heap.size fp id fv gs/\dT w' w.heap.size fv fs)/\Below w.heap.size w w':=by
 have HSP:=ae (NL hs h8 (by omega) hw);obtain⟨va,vc,rfl,_,_⟩:=hs.form1;rw[ap]at *;cases hsp:spl b with
 | none =>
  have HN:=ae (xv hsp);rw[hsp]at HSP;clear hs h8 hsp;go_enter Tryz.func53,Tryz.ntmps53
  go_wp2_with fail;refine HSP.o.mono ?_;rintro e w1 ⟨⟨v1,v2,rfl,_⟩,aH⟩;have aR:=ae aH;clear aH;go_wp2_with fail;go_ret3
  exact⟨.inl ⟨HN.o,_,_,rfl⟩,aR.o⟩
 | some cf =>
  obtain⟨c,f⟩:=cf;have pG:=ae (NU hsp);obtain⟨q1,q2,q3,q4⟩:=jaN hsp h8;rw[hsp]at HSP;have HC:=ae (JL f);have HQ1:=ae q1;have HQ2:=ae q2;have PD:=ae (fun(U:World) (v2:Value) (hU:Sv U v2 (aF .u8 f))=>JI hU q2 (by omega));generalize yt f=R at *;obtain⟨R1,R2,R3',R4⟩:=R;clear hs h8 hsp q1 q2;go_enter Tryz.func53,Tryz.ntmps53
  go_wp2_with fail;refine HSP.o.mono ?_;rintro e w1 ⟨⟨v1,v2,rfl,ie⟩,aH⟩;obtain⟨s1,s2,s3,s4⟩:=ie c f rfl;have aR:=ae aH;have iO:=ae s1;have Ak:=ae s3;have HU2:=ae (PD.o w1 v2 s2);clear aH ie s1 s2 s3 s4 PD;go_wp2_with fail;refine HU2.o.mono ?_;rintro e w2 ⟨⟨fv,u,rfl,Qs,hou⟩,aE⟩;have hB2:=ai aR.o aE;obtain⟨a1,k1,e1,_,_⟩:=iO.o.form1;obtain⟨a2,k2,e2,_,_⟩:=hou.sv.form1;obtain⟨a3,k3,e3,_,_⟩:=Qs.sf.form;rw[ap]at e1 e2;subst e1 e2 e3;simp only at *;rcases HC.o with ⟨er,Yf,hu2,YQ⟩ | ⟨id,fs,r,Yf,YQ⟩
  ·have HN:jfb (iK b=none):=ae (by rw[pG.o,Yf])
   obtain⟨rfl,rfl,rfl,rfl⟩:R1=0/\R2=[]/\R3'=[]/\R4=er:=by simpa using YQ
   have fQ:((R4:Int) != 0)=true:=by
    have:(R4:Int)≠0:=by omega
    simpa using this
   have aO:=ae hB2;clear Yf hu2 YQ Qs hou aE hB2 pG HC;go_wp2_with fail;go_ret3
   exact⟨.inl ⟨HN.o,_,_,rfl⟩,ai aO.o (ak _ _)⟩
  ·obtain⟨rfl,rfl,rfl,rfl⟩:R1=id/\R2=fs/\R3'=r/\R4=0:=by simpa using YQ
   have hBr:=JK f _ _ Yf HQ2.o;obtain⟨PW,_,_⟩:=ue Yf;have XU:=ae (gY PW);obtain⟨_,_,hf8,_⟩:=qx PW;have HE:jfb (iK b=if (gX R2 c R3').2.2.2=true then none else some (R1,R2,gd 1 64 (dE R3'),(gX R2 c R3').1)):=ae (by rw[pG.o,Yf]);have hbA:=ak w2 (.cells #[.int .u32 (R1:Int),.slice a3 R2.length k3] 25);have hbB:=ak (w2.alloc (.cells #[.int .u32 (R1:Int),.slice a3 R2.length k3] 25)) (.cells #[.slice a1 c.length k1,.slice a2 R3'.length k2,.bool false] 157);have hAB:=ai hbA hbB;have sA:(w2.alloc (.cells #[.int .u32 (R1:Int),.slice a3 R2.length k3] 25)).heap.size=w2.heap.size+1:=jdi _ _;have hx:=jdH (w2.alloc (.cells #[.int .u32 (R1:Int),.slice a3 R2.length k3] 25)) (.cells #[.slice a1 c.length k1,.slice a2 R3'.length k2,.bool false] 157);rw[sA]at hx;have hw12:w.heap.size<=w2.heap.size:=hB2.size;have hfb:∀ i,(Value.slice a3 R2.length k3).ownBlock=some i->i<w2.heap.size+1:=fun i hi=>by have:=(aM Qs hi).2.1;omega
   have hR3:R3 ((w2.alloc (.cells #[.int .u32 (R1:Int),.slice a3 R2.length k3] 25)).alloc (.cells #[.slice a1 c.length k1,.slice a2 R3'.length k2,.bool false] 157)) (w2.heap.size+1) c R3' false :=
    ⟨a1,k1,a2,k2,hx,⟨(iO.o.kept aE).kept hAB,fun i hi=>by have:=Ak.o i hi;omega,HQ1.o⟩,hou.sv.kept hAB,fun i hi=>by have:=(aM hou hi).2.1;omega,hBr⟩
   have PB:=ae (JB hR3 (Qs.sf.kept hAB) hfb XU.o R1 hf8 (by omega));have nr:=ae (ai hB2 hAB);have xI:=ae (Qs.kept hAB);have VS:=ae hfb;have VM:=ae hw12;have lA:jfb (((w2.alloc (.cells #[.int .u32 (R1:Int),.slice a3 R2.length k3] 25)).alloc (.cells #[.slice a1 c.length k1,.slice a2 R3'.length k2,.bool false] 157)).heap.size=w2.heap.size+2):=ae (by rw[jdi,jdi]);have HS01:=ae aR.o.size;clear Yf YQ Qs hou aE hB2 pG HC hBr PW hbA hbB hAB sA hx hR3 hfb;go_wp2_with fail;generalize (w2.alloc (.cells #[.int .u32 (R1:Int),.slice a3 R2.length k3] 25)).alloc (.cells #[.slice a1 c.length k1,.slice a2 R3'.length k2,.bool false] 157)=W4 at *;refine PB.o.mono ?_;rintro e w4 ⟨fp,rfl,⟨c',f',Zv⟩,uT,pE⟩;have xL:jfb (Below w.heap.size w w4):=ae (nr.o.trans (pE.below (by omega) (by have:=lA.o;omega)))
   have XR:jfb (dT w4 w.heap.size (.slice a3 R2.length k3) R2):=ae (by
    have h1:dT w4 w1.heap.size (.slice a3 R2.length k3) R2:=bY xI.o fun k hk=>pE.block k (by have:=VS.o k hk;have:=lA.o;omega) (by have:=VS.o k hk;omega)
    exact⟨h1.1,h1.2.imp (fun x=>x) fun⟨g,cap,cur,hv,hb,r⟩=>⟨g,cap,cur,hv,jdq HS01.o hb,r⟩⟩)
   have LG:jfb ((gX R2 c R3').2.2.2=false->Fil w4 w.heap.size fp R1 (.slice a3 R2.length k3) (gX R2 c R3').1):=ae (fun h=>(uT h).low (by have:=lA.o;omega));obtain⟨_,_,_,_,⟨_,_,r2⟩,⟨_,_,r3⟩,_,_⟩:=Zv.cells;clear Zv uT pE;cases hF:(gX R2 c R3').2.2.2
   ·rw[hF]at r2 HE LG
    have HFL2:=ae (LG.o rfl);have HE2:jfb (iK b=some (R1,R2,gd 1 64 (dE R3'),(gX R2 c R3').1)):=ae (by rw[HE.o,jde (by decide)]);clear hF HE LG;go_wp2_with fail;go_quiet (fail)
    go_wp2_with fail;go_ret3
    exact⟨.inr ⟨_,_,_,_,_,_,HE2.o,rfl,HFL2.o.kept (ar (jdg _ _) _),XR.o.kept (ar (jdg _ _) _)⟩,ar xL.o _⟩
   ·rw[hF]at r2 HE
    have HE2:jfb (iK b=none):=ae (by rw[HE.o,jdf rfl]);clear hF HE LG;go_wp2_with fail;go_quiet (fail)
    go_wp2_with fail;go_ret3
    exact⟨.inl ⟨HE2.o,_,_,rfl⟩,ar xL.o _⟩
theorem Gro.rows{W:World}{B:Nat}{a b:Value}{rows:List Row}{sts:List Stt}(h:Gro W B (.agg #[a,b]) rows sts) :
  ∃ R,a=.slice (some ⟨R,0,none⟩) rows.length rows.length/\B<=R/\R<W.heap.size/\(∃ va vn vc,b=.slice va vn vc)/\∀ i (h:i<rows.length),∃ rv,W.cell? ⟨R,i,none⟩=some rv/\OwnV W B rv rows[i]:=by
 obtain⟨R,rvs,vs,e,h1,h2,h3⟩:=h;simp only[Value.agg.injEq,Array.mk.injEq,List.cons.injEq,and_true]at e;obtain⟨rfl,rfl⟩:=e;obtain⟨b1,b2,_⟩:=aM h1 (k:=R) rfl;refine⟨R,rfl,b1,b2,eP h3,fun i hi=>?_⟩;obtain⟨rv,e1,e2⟩:=h2 i hi;obtain⟨g,e,_,_,hc⟩:=gZ h1 e1;cases e
 exact⟨rv,hc,e2⟩
theorem mh{gs:List Gr}{j:Nat}(h:j<gs.length):bQ (gs.take (j+1))=bQ (gs.take j)++gs[j].1:=by
 unfold bQ;rw[jdx h,jdC,jeW];simp
theorem Fa{gs:List Gr}{j:Nat}(h:j<gs.length){r:Row}(hr:r∈gs[j].1):r∈bQ gs:=by
 unfold bQ;exact List.mem_flatten.2 ⟨gs[j].1,jdE.2 ⟨gs[j],jdl h,rfl⟩,hr⟩
theorem ff(gs:List Gr)(j:Nat):(bQ (gs.take j)).length<=(bQ gs).length:=by
 have:bQ gs=bQ (gs.take j)++bQ (gs.drop j):=by
  unfold bQ;rw[← jeW,← jdC,jeD]
 rw[this,jdj];omega
theorem zV{w:World}{B fp id:Nat}{fv:Value}{gs:List Gr}(h:Fil w B fp id fv gs)(bR:∀ r∈bQ gs,r.length<=1000)(Co:(bQ gs).length<=100000) :
  Calls Tryz.prog 23 #[.pointer (some ⟨fp,0,none⟩)] w fun e w'=>(∃ v l,e=.returned v/\Ow w' w.heap.size v l/\l.map Prod.snd=bQ gs)/\Below w.heap.size w w':=by
 obtain⟨gv,xs,h1,h2,h3,h4⟩:=h;obtain⟨ga,gc,rfl,hgc,hgm⟩:=bG h3;have c2:w.cell? ⟨fp,2,none⟩=some (.slice ga gs.length gc):=by rw[ay h1];rfl
 have HG:jfb (∀ k (hk:k<gs.length),∃ G R va vn vc,ga=some ⟨G,0,none⟩/\gs[k].1.length<=100000/\∀ W,Below w.heap.size w W->W.cell? ⟨G,k*2,none⟩=some (.slice (some ⟨R,0,none⟩) gs[k].1.length gs[k].1.length)/\W.cell? ⟨G,k*2+1,none⟩=some (.slice va vn vc) /\
   ∀ i (h:i<gs[k].1.length),∃ ra rc,W.cell? ⟨R,i,none⟩=some (.slice ra gs[k].1[i].length rc)/\gs[k].1[i].length<=1000/\Sv W (.slice ra gs[k].1[i].length rc) (aJ gs[k].1[i])):=ae (fun k hk=>by
  obtain⟨a,b,e1,e2,e3⟩:=h4 k hk;obtain⟨R,rfl,g1,g2,⟨va,vn,vc,rfl⟩,g4⟩:=e3.rows;obtain⟨G,rfl,_,hG,ly⟩:=gZ h3 e1;obtain⟨_,e,_,_,kF⟩:=gZ h3 e2;cases e
  have hr:=mh hk;have Cb:=ff gs (k+1);rw[hr,jdj]at Cb;refine⟨G,R,va,vn,vc,rfl,by omega,fun W hb=>⟨(hb.cell (p:=⟨G,k*2,none⟩) hG).trans (by rw[jdP];exact ly),(hb.cell (p:=⟨G,k*2+1,none⟩) hG).trans (by rw[jdP k];exact kF),fun i hi=>?_⟩⟩;obtain⟨rv,f1,f2⟩:=g4 i hi;have fs:=f2.sv;obtain⟨ra,rc,rfl,_,_⟩:=fs.form1;rw[aG]at *;exact⟨ra,rc,(hb.cell (p:=⟨R,i,none⟩) g2).trans f1,bR _ (Fa hk (jdl hi)),fs.kept hb⟩)
 have HT:=ae (fun j=>ff gs j);have rQ:=ae (fun j (h:j<gs.length)=>mh h);have HTA:jfb (bQ (gs.take gs.length)=bQ gs):=ae (by rw[jdp]);have HT0:jfb (bQ (gs.take 0)=[]):=ae rfl;have PX:=ae Co;clear h1 h2 h3 h4 bR Co;go_enter Tryz.func23,Tryz.ntmps23
 go_wp2_with fail;go_loopw [3,13] (fun a i wr=>∃(k:Nat) (l:List (Value×Row)),i=.int .i64 (k:Int)/\k<=gs.length/\Ow wr w.heap.size a l/\l.map Prod.snd=bQ (gs.take k)/\Below w.heap.size w wr) (fun _ i _=>gs.length-(intOf i).toNat)
 case atStart=>exact⟨0,[],rfl,by omega,Ow.nil _ _,HT0.o.symm,jdg _ _⟩
 case round =>
  obtain⟨k,l,rfl,hk,how,vE,az⟩:=hrel;have HB:=ae az;have HO:=ae how;have tz:=ae vE;obtain⟨la,lc,rfl,Za,BZ,_⟩:=how.form;clear az how vE;by_cases aC:k<gs.length
  ·obtain⟨G,R,va,vn,vc,rfl,Ye,hcells⟩:=HG.o k aC
   obtain⟨ca,cb,_⟩:=hcells wr HB.o;have HC:=ae hcells;have hlt':(k:Int)<(gs.length:Int):=(by omega);have hBW:Below w.heap.size w (wr.alloc (.cells #[.slice (some ⟨R,0,none⟩) gs[k].1.length gs[k].1.length,.slice va vn vc] 109)):=HB.o.alloc HB.o.size _;have nr:=ae hBW;obtain⟨cg,_⟩:=bF wr (.slice (some ⟨R,0,none⟩) gs[k].1.length gs[k].1.length) (.slice va vn vc) 109;have HCG:=ae cg;have hOW:=(HO.o.kept (ak wr (.cells #[.slice (some ⟨R,0,none⟩) gs[k].1.length gs[k].1.length,.slice va vn vc] 109)));have UY:=ae hOW;have Yh:=ae (rQ.o k aC);have HKL:=ae (HT.o (k+1));clear hcells hBW hOW cg;go_wp2_with fail;generalize wr.alloc (.cells #[.slice (some ⟨R,0,none⟩) gs[k].1.length gs[k].1.length,.slice va vn vc] 109)=WA at *
   have HLL:jfb (∀ m,(bQ (gs.take k)++gs[k].1.take m).length<=100000):=ae (fun m=>by
    have h1:=Yh.o;have h2:=HKL.o;have h3:=PX.o;rw[h1,jdj]at h2;rw[jdj,jdo];omega)
   clear HO ca cb;go_loopw [3,20] (fun a i wx=>∃(m:Nat) (l2:List (Value×Row)),i=.int .i64 (m:Int)/\m<=gs[k].1.length/\Ow wx w.heap.size a l2/\l2.map Prod.snd=bQ (gs.take k)++gs[k].1.take m/\Below w.heap.size w wx) (fun _ i _=>gs[k].1.length-(intOf i).toNat)
   case atStart=>exact⟨0,l,rfl,by omega,UY.o,by rw[jeF,jdB];exact tz.o,nr.o⟩
   case round =>
    obtain⟨m,l2,rfl,hm,jbZ,jb0,oe⟩:=hrel;have aO:=ae oe;have du:=ae jbZ;have FM:=ae jb0;obtain⟨la2,lc2,rfl,hl12,hl22,_⟩:=jbZ.form;have bn:=oe.size
    have hl2n:l2.length<=100000:=by
     have h1:=jdm List.length jb0;have h2:=HLL.o m;rw[jdk]at h1;omega
    clear oe jbZ jb0;by_cases hmt:m<gs[k].1.length
    ·have hmt':(m:Int)<(gs[k].1.length:Int):=by omega
     obtain⟨_,_,hcr⟩:=HC.o _ aO.o;obtain⟨ra,rc,hrc,pC,Zp⟩:=hcr m hmt;have rP:jfb (gs[k].1.take (m+1)=gs[k].1.take m++[gs[k].1[m]]):=ae (jdx hmt);have pw:=ae (pY Zp pC);generalize gs[k].1[m]=r at *;clear hcr Zp;go_wp2_with fail;refine pw.o.mono ?_;rintro e w3 ⟨⟨v3,rfl,fP⟩,aQ⟩;have HV3:=ae fP;have cZ:=ae (du.o.kept aQ);have bN:=ae (aO.o.trans (aQ.mono bn));have iD:=aQ.size;obtain⟨ra',rc',rfl,_,_⟩:=bG fP;have mY:=ae (aL w3 (.slice ra' r.length rc') 79);clear aQ fP pw du;go_wp2_with (first | (at_builtin;refine jI rfl _ _ rfl w.heap.size _ _ l2 [(.slice ra' r.length rc',r)] rfl (cZ.o.kept (ak _ _)) rfl (BC mY.o (by rw[jdi];omega)) ?c1 ?c2 ?c3 ?_))
     case c1 =>
      intro x hx;rw[jd5.1 hx];exact(HV3.o.kept (ak _ _)).of_le (by omega)
     case c2=>simp only[jdS];omega
     case c3=>rw[jdi];omega
     intro v' w5 o5 b5;have dJ:=ae o5;have aS:=ae ((bN.o.alloc (by omega) _).trans b5);clear o5 b5;go_wp2_with fail;go_roundw
     case rel=>exact⟨m+1,_,by go_num,by omega,dJ.o,by rw[rP.o,jdC,FM.o,jdw];rfl,aS.o⟩
     case measure=>simp[intOf];omega
    ·obtain rfl:m=gs[k].1.length:=by omega
     have gL:¬ ((gs[k].1.length:Nat):Int)<(gs[k].1.length:Int):=(by omega);have Yi:jfb (l2.map Prod.snd=bQ (gs.take (k+1))):=ae (by rw[Yh.o,FM.o,jdp]);go_wp2_with fail;go_roundw
     case rel=>exact⟨k+1,l2,by go_num,by omega,du.o,Yi.o,aO.o⟩
     case measure=>simp[intOf];omega
  ·obtain rfl:k=gs.length:=by omega
   have gL:¬ ((gs.length:Nat):Int)<(gs.length:Int):=(by omega);have Yi:jfb (l.map Prod.snd=bQ gs):=ae (tz.o.trans HTA.o);go_wp2_with fail;go_ret
   first | exact⟨⟨_,_,rfl,HO.o,Yi.o⟩,HB.o⟩ | exact⟨⟨_,rfl,_,HO.o,Yi.o⟩,HB.o⟩
theorem BG{w:World}{B fp id:Nat}{fv:Value}{gs:List Gr}(h:Fil w B fp id fv gs) :
  Calls Tryz.prog 21 #[.pointer (some ⟨fp,0,none⟩)] w fun e w'=>e=.returned (.int .i64 (gs.length:Int))/\w'=w:=by
 obtain⟨gv,xs,h1,h2,h3,h4⟩:=h
 have hgv:∃ ga gc,gv=.slice ga gs.length gc:=by
  rcases h3.2 with ⟨e,e2⟩ | ⟨_,_,_,e,_⟩
  ·rw[e2];exact⟨_,_,e⟩
  ·exact⟨_,_,e⟩
 obtain⟨ga,gc,rfl⟩:=hgv;have c2:w.cell? ⟨fp,2,none⟩=some (.slice ga gs.length gc):=by rw[ay h1];rfl
 clear h1 h2 h3 h4;go_enter Tryz.func21,Tryz.ntmps21
 go_wp2_with fail;go_ret
 exact⟨rfl,rfl⟩
theorem uvL1{n:Nat}(h:n<128):(uv n).length=1:=by rw[vQ h];rfl
theorem uvL2{n:Nat}(h:n<16384):(uv n).length<=2:=by
 rw[ms];exact uvarint_length 1 n (by omega)
theorem uvL3{n:Nat}(h:n<2097152):(uv n).length<=3:=by
 rw[ms];exact uvarint_length 2 n (by omega)
theorem wvL2{x:Int}(h0:0<=x)(h:x<=64):(wv x).length<=2:=by
 unfold wv;refine uvL2 ?_;unfold zigzag;rw[jdf h0];omega
theorem Fb:∀{l:List Int},(∀ x∈l,0<=x/\x<=64)->(gh l).length<=2*l.length
 | [],_=>by simp[gh]
 | x::t,h=>by
  have h1:=Fb (l:=t) (fun y hy=>h y (jex _ hy));have h2:=h x (List.mem_cons_self ..);have h3:=wvL2 h2.1 h2.2;simp only[gh,jdj,jdn];omega
theorem TG(n:Nat):by8 n<=n:=by unfold by8;omega
theorem TH{l:List Int}(h:∀ x∈l,0<=x/\x<=64):(cP l).length<=2*l.length+1:=by
 have h1:=ot l 4 0 (by omega);have h2:=Fb h;have:(ib 0 l).length=(gh l).length:=rfl;unfold cP;omega
theorem TI{l:List Int}(h:Is l):(cP l).length<=10*l.length+1:=by
 have h1:=ot l 4 0 (by omega);have h2:=(lO h).1;have:(ib 0 l).length=(gh l).length:=rfl;unfold cP;omega
theorem Fc{l:List (List Nat)}(h:Ts l)(hm:l.length<=64):(eL l).length<=4+66*l.length:=by
 obtain⟨b1,_⟩:=ow h
 have h1:=TH (l:=ea l) (fun x hx=>by
  obtain⟨s,hs,rfl⟩:=jdE.1 hx;have:=(h s hs).1;omega)
 rw[bH]at h1;have h2:=uvL2 (n:=(cP (ea l)).length) (by omega)
 have hp:(plain l).length<=4+66*l.length:=by
  unfold plain fA cnt;simp only[jdn,jdj];omega
 unfold eL;split<;>omega
theorem JN{l:List (Nat×Int×List Nat)}(hm:l.length<=256):(dF l).length<=1+l.length:=by
 unfold dF;split
 ·have hl:=eH (dW l) (by rw[bi];exact hm)
  rw[bi]at hl;have:=TG l.length;rw[jdn,hl];omega
 ·simp
theorem JO{k:Nat}{l:List Cl}(h:Col k l)(hm:l.length<=64):(eo k l).length<=5+67*l.length:=by
 obtain⟨hk,oW,hc⟩:=h;have ho:=gU l;have hh:=JN oW;unfold eo;rw[jdj];obtain rfl | rfl | rfl:k=1∨k=2∨k=3:=by omega
 ·have b1:=TI (iU hc).1
  rw[jdk]at b1;rw[wn];omega
 ·have hl:=eH (fH hc).1 (by rw[jdk];omega)
  rw[jdk]at hl;have:=TG (bT l).length;rw[wo,hl];omega
 ·have hw:=Fc (gG hc).1 (by rw[jdk];omega)
  rw[jdk]at hw;rw[ws];omega
theorem TJ{l:List UInt8}(hc:dK l=true):(bW l 4).length<=16:=by
 unfold bW;rw[Av hc,jdo];have:=ro (rs:=iH l) (4:Int).toNat;have h4:(4:Int).toNat=4:=rfl;omega
theorem Lr:∀ rs:List Nat,(lE rs).length<=4*rs.length
 | []=>by simp[lE]
 | r::t=>by
  have:=Lr t;have:=ig r;unfold lE at *;simp only[jeA,jdj,jdn];omega
theorem TK{l a:List UInt8}(h:gI l 4=some a)(hl:l.length<=64):a.length<=16:=by
 have h0:=h;rw[wU]at h;unfold dX at h;split at h
 ·next hc =>
  have hv:=Av hc;split at h
  ·next h4 =>
   obtain rfl:=Option.some.inj h;have e:=(lp _ l (jdh _) hc).1;have h16:=Lr (iH l);rw[hv,jdk]at h4;have e2:=jdm List.length e;omega
  ·split at h
   ·cases h
   ·unfold upL at h
    cases hg:gV (V l) (4:Int).toNat with
    | none=>rw[hg]at h;cases h
    | some i =>
     rw[hg]at h;have hi:=(qL hg).1;simp only[jeq,Option.some.injEq]at h;subst h;have:=ig (nx ((V l).getD i (0,0)).1);have:=ro (rs:=iH l) i;rw[← hv]at this;have h4:(4:Int).toNat=4:=rfl;simp only[jdj,jdo];omega
 ·cases h
theorem jaO{x:Cl}(hf:aV x){cl:Bool}(hc:cl=true->eM x=true):(nK x cl).2.2.length<=16:=by
 unfold nK;by_cases h:x.1=3/\cl=false
 ·rw[jdf h];simp
 ·rw[jde h]
  show (nb _).length<=16
  rw[oJ];cases cl with
  | true=>exact TJ (hc rfl)
  | false =>
   have hx:x.1≠3:=fun e=>h ⟨e,rfl⟩
   have h2:x.2.2=[]:=by
    rcases hf with rfl | ⟨n,rfl,_⟩ | ⟨n,rfl,_⟩ | ⟨s,rfl,_,_⟩
    ·rfl
    ·rfl
    ·rfl
    ·exact absurd rfl hx
   have:=pR (lb (am x.2.2)) 4;rw[cI,bm,h2]at this;rw[h2];simp only[jdI]at this;omega
theorem Xr{x:Cl}(hf:aV x){cl:Bool}:(gr x cl).1.2.2.length<=16:=by
 unfold gr;by_cases h:x.1=3
 ·rw[jdf h]
  cases ha:gI (lb (am x.2.2)) 4 with
  | none=>exact jd1 _
  | some a =>
   cases cl
   ·exact jd1 _
   ·show (nb a).length<=16
    rw[oJ];refine TK ha ?_;rw[cI];exact hf.short
 ·rw[jde h]
  show x.2.2.length<=16
  rcases hf with rfl | ⟨n,rfl,_⟩ | ⟨n,rfl,_⟩ | ⟨s,rfl,_,_⟩
  ·exact jd1 _
  ·exact jd1 _
  ·exact jd1 _
  ·exact absurd rfl h
theorem TL{cs:List Cl}(hf:∀ c∈cs,aV c):(cy cs).lo.2.2.length<=16/\(cy cs).hi.2.2.length<=16:=by
 have LN:∀ c∈aZ cs,aV c:=fun c hc=>hf c (by unfold aZ at hc;exact(je2.1 hc).1)
 unfold cy;cases hn:aZ cs with
 | nil=>exact⟨jd1 _,jd1 _⟩
 | cons y r =>
  rw[hn]at LN;have hy:=LN y (by simp);have hr:∀ c∈r,aV c:=fun c hc=>LN c (by simp[hc])
  refine⟨jaO (lU hy hr) (fun cW=>?_),Xr (nJ hy hr)⟩;rw[List.all_eq_true]at cW;exact lU (P:=fun c=>eM c=true) (cW y (by simp)) (fun c hc=>cW c (by simp[hc]))
theorem Ls{c:Cl}(h:aV c)(h16:c.2.2.length<=16):(gx c).length<=17:=by
 unfold gx;split
 ·rcases h with rfl | ⟨n,rfl,h1⟩ | ⟨n,rfl,h1⟩ | ⟨s,rfl,h1,h2⟩<;>first | (have:=fh h1;unfold wv at this;simp only;omega) | (simp_all [nul])
 ·split
  ·simp
  ·rw[jdj,uvL1 (by omega)]
   omega
theorem TM{cs:List Cl}(hf:∀ c∈cs,aV c)(hl:cs.length<=64):(ew (cy cs)).length<=37:=by
 obtain⟨a1,a2⟩:=kz hf;obtain⟨b1,b2⟩:=TL hf;have c1:=Ls a1 b1;have c2:=Ls a2 b2;obtain⟨n,hn,Zi⟩:=lh cs;have hu:=uvL1 (n:=n) (by omega);unfold ew;rw[hn,jdM];simp only[jdj,jdS];split<;>split<;>(try simp only[jdI])<;>omega
theorem JP{fs:List Fd}{p:List Row}(hl:p.length<=64)(dV:∀ k,k<fs.length->Col (lV fs k) (cV p k)):∀{k:Nat},k<=fs.length->(eN fs p k).length<=(5+67*p.length)*k:=by
 intro k;induction k with
 | zero=>exact fun _=>by simp[eN]
 | succ k ih =>
  intro hk;have h1:=ih (by omega);have h2:=JO (dV k (by omega)) (by rw[dr];exact hl);rw[dr]at h2;rw[lY,jdj,Nat.mul_succ];omega
theorem NV{fs:List Fd}{p:List Row}(h:jQ fs p)(hl:p.length<=64)(dV:∀ k,k<fs.length->Col (lV fs k) (cV p k)):∀{k:Nat},k<=fs.length->(ftK fs p k).length<=40*k:=by
 intro k;induction k with
 | zero=>exact fun _=>by simp[ftK]
 | succ k ih =>
  intro hk;have h1:=ih (by omega);have h2:=(io (dV k (by omega))).1;have h3:=TM (md h k) (by rw[dr];exact hl);have h4:=uvL3 (n:=(eo (lV fs k) (cV p k)).length) (by omega);rw[nM];simp only[jdj];omega
theorem xw{fs:List Fd}{rs:List Row}{g:Nat}(jT:fs.length<=8)(gM:g<=64)(hk:∀ f∈fs,1<=f.2.2.1/\f.2.2.1<=3)(dA:jQ fs rs):∀ j,(ir fs g rs j).length<=40*j+536*min (j*g) rs.length
 | 0=>by simp[ir]
 | j+1=>by
  have h0:=xw jT gM hk dA j;have kK:(prt g rs j).length<=64:=by rw[bZ];omega
  have h1:=JP kK (fun k kG=>eX (dA.part g j) hk (by omega) kG) (jdh _);have h2:(5+67*(prt g rs j).length)*fs.length<=(5+67*(prt g rs j).length)*8:=jei _ jT;rw[bZ]at h1 h2;rw[sX,jdj,jdV,jem];omega
theorem zW{fs:List Fd}{rs:List Row}{g:Nat}(jT:fs.length<=8)(gM:g<=64)(hk:∀ f∈fs,1<=f.2.2.1/\f.2.2.1<=3)(dA:jQ fs rs):∀ j,(ftJ fs g rs j).length<=320*j
 | 0=>by simp[ftJ]
 | j+1=>by
  have h0:=zW jT gM hk dA j;have kK:(prt g rs j).length<=64:=by rw[bZ];omega
  have h1:=NV (dA.part g j) kK (fun k kG=>eX (dA.part g j) hk (by omega) kG) (jdh _);rw[xe,jdj];omega
theorem xx{id:Nat}{fs:List Fd}{rs:List Row}{g:Nat}(ho:∀ f∈fs,Okf f)(na:id<4294967296)(hc:chk id fs=0)(pC:rs.length<=60)(eS:1<=g)(gM:g<=64)(dA:jQ fs rs):(bL (ex id fs rs g)).length<=65536:=by
 obtain⟨hz,jT,_⟩:=mH hc;have hk:=gY hc;have h1:=fI ho (by omega) hz fs.length;rw[jdp]at h1;have h2:=gq id (by omega);have h3:=gq fs.length (by omega);have h4:=gq rs.length (by omega);have h5:=gq g (by omega)
 have hn:nps g rs.length<=60:=by
  rcases jdJ 60 (nps g rs.length)with h | h
  ·have:=(kD (j:=60) (show 0<g by omega)).1 h
   have:60*1<=60*g:=jei _ eS;omega
  ·exact h
 have h6:=xw jT gM hk dA (nps g rs.length);have h7:=zW jT gM hk dA (nps g rs.length)
 have h8:(ir fs g rs (nps g rs.length)).length<=34560:=by
  have:=Nat.min_le_right (nps g rs.length*g) rs.length;omega
 unfold bL ex lX fX dB;simp only[jdj,jdn,jdI,le4];omega
theorem Lt{fs:List Fd}:∀{rs:List Row},(∀ r∈rs,jL fs r=0)->kB fs rs=0
 | [],_=>rfl
 | x::t,h=>by
  unfold kB;rw[jdf (h x (List.mem_cons_self ..))];exact Lt fun r hr=>h r (jex _ hr)
theorem Fe{id:Nat}{fs:List Fd}{rs:List Row}{g:Nat}(hc:chk id fs=0)(eS:1<=g)(gM:g<=64)(hl:rs.length<=256)(hf:jQ fs rs):dU id fs rs (g:Int)=0:=by
 unfold dU;rw[jde (by omega),jde (by omega),jde (by omega)];exact Lt fun r hr=>(hf r hr).1
theorem BI{id:Nat}{fs:List Fd}{rs:List Row}{g:Nat}(ho:∀ f∈fs,Okf f)(na:id<4294967296)(hc:chk id fs=0)(hl:rs.length<=60)(eS:1<=g)(gM:g<=64)(hf:jQ fs rs):bU id fs rs (g:Int)=(bL (ex id fs rs g),0):=by
 have h1:=Fe (g:=g) hc eS gM (show rs.length<=256 by omega) hf;have h2:=xx ho na hc hl eS gM hf;unfold bU;rw[h1,jde (by simp),jdM,jde (by omega)]
theorem BJ{id:Nat}{fs:List Fd}{rs:List Row}{g:Nat}{b:List Nat}(ho:∀ f∈fs,Okf f)(na:id<4294967296)(ZF:∀ r∈rs,∀ c∈r,aV c)(h:bU id fs rs (g:Int)=(b,0)) :
  js b=.ok (id,fs,g,(List.range (nps g rs.length)).map fun i=>grp fs (prt g rs i)):=by
 have hw:=h;unfold bU at h;by_cases h0:dU id fs rs (g:Int)≠0
 ·rw[jdf h0]at h
  exact absurd (Prod.mk.inj h).2 h0
 rw[jde h0]at h;obtain⟨hc,⟨eS,gM⟩,hl,lz⟩:=li (Decidable.not_not.1 h0);rw[jdM]at h;by_cases hz:65536<(bL (ex id fs rs g)).length
 ·rw[jdf hz]at h
  cases (Prod.mk.inj h).2
 rw[jde hz]at h;obtain⟨rfl,_⟩:=Prod.mk.inj h;have hf:jQ fs rs:=fun r hr=>⟨mg lz r hr,ZF r hr⟩
 have jx:(fX id fs rs g).length<4294967296:=by
  have:=(rI (g:=g) ho na hc hl (by omega) (by omega) hf).1;omega
 unfold js;rw[Hz];simp only;have ht:(ex id fs rs g).take 3=[67,70,49]:=rfl;have hd:(ex id fs rs g).drop 3=lX id fs rs g:=rfl;rw[jdf ht,hd,Jt na ho hc hf hl (by omega) (by omega) jx];simp only;rw[Tu fs (by omega) rs,jdf hw]
theorem TN{w:World}(ht:Tab w){v fv:Value}{b:List Nat}{B fp id:Nat}{fs:List Fd}{gs:List Gr}{g:Nat}(hs:Sv w v (aF .u8 b))(h8:Bs b)(h:Fil w B fp id fv gs)(hf:Sf w fv fs)(ho:∀ f∈fs,Okf f)(na:id<4294967296)
  (hr:∀ r∈bQ gs,r.length<=1000/\∀ c∈r,aV c) (Co:(bQ gs).length<=1000) :
  Calls Tryz.prog 54 #[v,.pointer (some ⟨fp,0,none⟩),.int .i64 (g:Int)] w fun e w'=>e=.returned (.bool (decide (bU id fs (bQ gs) (g:Int)=(b,0))))/\Below w.heap.size w w':=by
 have HT:=ae ht;have HS:=ae hs;have HF:=ae hf;have h':=h;obtain⟨gv,xs,jU,hB,_,_⟩:=h';have FN:=(Array.getElem?_eq_some_iff.1 jU).1;obtain⟨fa,fc,rfl,_,_⟩:=hf.form;obtain⟨ba,bc,rfl,_,_⟩:=hs.form1;rw[ap]at *
 have Ao:jfb (∀ U,Below w.heap.size w U->U.cell? ⟨fp,0,none⟩=some (.int .u32 (id:Int))/\U.cell? ⟨fp,1,none⟩=some (.slice fa fs.length fc)):=ae (fun U hU=>by
  have hh:=(hU.block fp FN).trans jU;constructor<;>(rw[ay hh];rfl))
 have HA:jfb (∀ U,Below w.heap.size w U->Calls Tryz.prog 23 #[.pointer (some ⟨fp,0,none⟩)] U fun e w'=>∃ a c,e=.returned (.slice a (bQ gs).length c)/\Rv w' (.slice a (bQ gs).length c) (bQ gs)/\Below w.heap.size w w'/\w'.cell? ⟨fp,0,none⟩=some (.int .u32 (id:Int))/\w'.cell? ⟨fp,1,none⟩=some (.slice fa fs.length fc)):=ae (fun U hU=>by
  refine(zV (h.kept hU) (fun r hh=>(hr r hh).1) (by omega)).mono ?_;rintro e w' ⟨⟨v,l,rfl,how,vE⟩,hb⟩;have aE:=ai hU hb;have Ar:=how.rv;rw[vE]at Ar;obtain⟨a,c,rfl,_⟩:=Ar.form;exact⟨a,c,rfl,Ar,aE,Ao.o _ aE⟩)
 have HW:jfb (∀ U ra rc,Below w.heap.size w U->Rv U (.slice ra (bQ gs).length rc) (bQ gs)->Calls Tryz.prog 12 #[.agg #[.int .u32 (id:Int),.slice fa fs.length fc],.slice ra (bQ gs).length rc,.int .i64 (g:Int)] U fun e w'=>∃ a c,e=.returned (.tuple #[.slice a (bU id fs (bQ gs) (g:Int)).1.length c,.int .i64 ((bU id fs (bQ gs) (g:Int)).2:Int)])/\Sv w' (.slice a (bU id fs (bQ gs) (g:Int)).1.length c) (aF .u8 (bU id fs (bQ gs) (g:Int)).1)/\Below w.heap.size w w'):=ae (fun U ra rc hU Ar=>by
  refine(ub (HT.o.kept hU) (HF.o.kept hU) Ar ho na (fun r hh=>(hr r hh).2) (g:Int)).mono ?_;rintro e w' ⟨⟨v,rfl,how⟩,hb⟩;have ie:=how.sv;obtain⟨a,c,rfl,_,_⟩:=ie.form1;rw[ap]at *;exact⟨a,c,rfl,ie,ai hU hb⟩)
 have ur:jfb (Bs (bU id fs (bQ gs) (g:Int)).1):=ae (by
  unfold bU;split
  ·exact fun x hx=>by simp at hx
  ·next h0 =>
   split
   ·exact fun x hx=>by simp at hx
   ·obtain⟨hc,⟨eS,gM⟩,hl,lz⟩:=li (Decidable.not_not.1 h0)
    rw[jdM];exact(mf ho na hc hl (by omega) (by omega) (fun r hh=>⟨mg lz r hh,(hr r hh).2⟩)).2.seal)
 obtain⟨WM,hWM⟩:∃ WM,bU id fs (bQ gs) (g:Int)=WM:=⟨_,rfl⟩;rw[hWM]at HW ur ⊢;obtain⟨D,hD⟩:∃ D,decide (WM=(b,0))=D:=⟨_,rfl⟩;rw[hD];obtain⟨wb,we⟩:=WM;simp only at HW ur;have HD:=ae hD;clear hD;have qo:=ae h8;clear hs hf h jU ho hr h8 hWM;obtain⟨c0,c1⟩:=Ao.o w (jdg _ _);generalize (bQ gs).length=n at *;go_enter Tryz.func54,Tryz.ntmps54
 go_wp2_with fail;refine wp_region_noPanic ?_
 go_region_law (first
  | (go_simp;go_at_call 23;refine(HA.o _ ?_).mono ?_;exact ar (jdg w.heap.size w) _;rintro e w1 ⟨ra,rc,rfl,hrv1,aH,d0,d1⟩;have HRV1:=ae hrv1;have aR:=ae aH;clear hrv1 aH;dsimp only)
  | (go_simp;go_at_call 12;refine(HW.o _ _ _ ?_ ?_).mono ?_;(first | exact aR.o | exact ar aR.o _);(first | exact HRV1.o | exact HRV1.o.kept (ar (jdg w1.heap.size w1) _));rintro e w2 ⟨a2,cc2,rfl,ei,aE⟩;have gE:=ae ei;have aO:=ae aE;clear ei aE;dsimp only)
  | fail)
 all_goals refine NoPanic.normal ?_
 all_goals
  by_cases he:we=0
  ·have hez:(((we:Nat):Int)==0)=true:=by rw[he];rfl
   have Cf:=ae (oK gE.o (HS.o.kept aO.o) ur.o qo.o)
   have yI:jfb (decide (wb=b)=D):=ae (by
    rw[← HD.o,he];by_cases xS:wb=b
    ·rw[xS];simp
    ·simp[xS])
   rw[yI.o]at Cf;go_wp2_with fail;refine Cf.o.mono ?_;rintro e w3 ⟨rfl,rfl⟩;go_wp2_with fail;go_ret
   exact⟨rfl,aO.o⟩
  ·have hez:(((we:Nat):Int)==0)=false:=by simpa using he
   have yI:jfb (D=false):=ae (by rw[← HD.o];simp[he]);go_wp2_with fail;go_ret
   exact⟨by rw[yI.o];rfl,aO.o⟩
end Go.Proofs.YtpljdjmpamjkhaaGreatDoor
