import Derived.Test.YtpljdjmpamjkhaaGreatDoorXbf
import Derived.Test.YtpljdjmpamjkhaaGreatDoorXbi
set_option linter.unusedVariables false
set_option linter.unusedSimpArgs false
set_option maxRecDepth 100000
set_option maxHeartbeats 4000000
namespace Go.Proofs.YtpljdjmpamjkhaaGreatDoor
open Go.RowKit Go.Lib
theorem xp{b:List Nat}(h:spl b=none):jr b=none:=by
 unfold spl at h;unfold jr;split
 ·rfl
 ·next h4 =>
  rw[jdt h4]at h;split
  ·rfl
  ·next h5 =>
   rw[jdt h5]at h;cases h
theorem Ph{b c f:List Nat}(h:spl b=some (c,f)):jr b=match db f with
  | .error _=>none
  | .ok ((id,fs),r)=>if (ie fs c r).2.2.2=true then none else some (id,fs,gi 1 64 (dI r),(ie fs c r).1):=by
 unfold spl at h;unfold jr;split
 ·next h4 =>
  rw[jdu h4]at h;cases h
 ·next h4 =>
  rw[jdt h4]at h;split
  ·next h5 =>
   rw[jdu h5]at h;cases h
  ·next h5 =>
   rw[jdt h5]at h;simp only[Option.some.injEq,Prod.mk.injEq]at h;obtain⟨rfl,rfl⟩:=h;rfl
theorem jaV{b c f:List Nat}(h:spl b=some (c,f))(h8:Bs b):Bs c/\Bs f/\c.length<=b.length/\f.length<=b.length:=by
 unfold spl at h;split at h
 ·cases h
 ·split at h
  ·cases h
  ·simp only[Option.some.injEq,Prod.mk.injEq]at h
   obtain⟨rfl,rfl⟩:=h;refine⟨h8.take _,(h8.take _).drop _,by rw[jdC];omega,by rw[jd3,jdC];omega⟩
def NeR{α : Type}(m:List Nat->Except Nat (α×List Nat)):Prop:=∀ b c,m b=.error c->c≠0
theorem NeR.bind{α β : Type}{m:List Nat->Except Nat (α×List Nat)}{k:α->List Nat->Except Nat (β×List Nat)}(h:NeR m)(hk:∀ x,NeR (k x)):NeR (aC m k):=by
 intro b c e;cases hm:m b with
 | error d =>
  rw[cE hm]at e;cases e
  exact h b _ hm
 | ok q =>
  obtain⟨x,s⟩:=q;rw[cZ hm]at e;exact hk x s c e
theorem NeR.num(n:Nat):NeR (ir n):=by
 intro b c e;unfold ir at e;split at e
 ·next h=>cases e;exact h
 ·split at e
  ·cases e;decide
  ·cases e
theorem NeR.textR(n:Nat):NeR (textR n):=by
 intro b c e;unfold Go.Proofs.YtpljdjmpamjkhaaGreatDoor.textR at e;split at e
 ·cases e;decide
 ·cases e
theorem NeR.fld:NeR uo:=(NeR.num _).bind fun i=>((NeR.num _).bind fun n=>NeR.textR n).bind fun s=>(NeR.num _).bind fun k=>(NeR.num _).bind fun n=>fun b c e=>by cases e
theorem NeR.flds:∀ n,NeR (kU n)
 | 0=>fun b c e=>by cases e
 | n+1=>(NeR.flds n).bind fun l=>NeR.fld.bind fun f=>fun b c e=>by cases e
theorem JN:NeR db :=
 ((NeR.num _).bind fun i=>(NeR.num _).bind fun n=>(NeR.flds n).bind fun l=>fun b c e=>by cases e).bind fun s=>by
  intro b c e;simp only at e;split at e
  ·cases e
  ·next h=>cases e;exact h
def BsR{α : Type}(m:List Nat->Except Nat (α×List Nat)):Prop:=∀ b x r,m b=.ok (x,r)->Bs b->Bs r
theorem BsR.bind{α β : Type}{m:List Nat->Except Nat (α×List Nat)}{k:α->List Nat->Except Nat (β×List Nat)}(h:BsR m)(hk:∀ x,BsR (k x)):BsR (aC m k):=by
 intro b y r e hb;cases hm:m b with
 | error c=>rw[cE hm]at e;cases e
 | ok q =>
  obtain⟨x,s⟩:=q;rw[cZ hm]at e;exact hk x s y r e (h b x s hm hb)
theorem BsR.pure{α : Type}(x:α):BsR (fun b=>.ok (x,b)):=fun b y r e hb=>by cases e;exact hb
theorem BsR.num(n:Nat):BsR (ir n):=by
 intro b x r e hb;unfold ir at e;split at e
 ·cases e
 ·split at e
  ·cases e
  ·cases e;exact hb.drop _
theorem BsR.textR(n:Nat):BsR (textR n):=by
 intro b x r e hb;unfold Go.Proofs.YtpljdjmpamjkhaaGreatDoor.textR at e;split at e
 ·cases e
 ·cases e;exact hb.drop _
theorem BsR.fld:BsR uo:=(BsR.num _).bind fun i=>((BsR.num _).bind fun n=>BsR.textR n).bind fun s=>(BsR.num _).bind fun k=>(BsR.num _).bind fun n=>BsR.pure _
theorem BsR.flds:∀ n,BsR (kU n)
 | 0=>BsR.pure _
 | n+1=>(BsR.flds n).bind fun l=>BsR.fld.bind fun f=>BsR.pure _
theorem JO:BsR db :=
 ((BsR.num _).bind fun i=>(BsR.num _).bind fun n=>(BsR.flds n).bind fun l=>BsR.pure _).bind fun s=>by
  intro b x r e hb;simp only at e;split at e
  ·cases e;exact hb
  ·cases e
theorem JP(f:List Nat):(∃ c,db f=.error c/\c≠0/\yp f=(0,[],[],c))∨∃ id fs r,db f=.ok ((id,fs),r)/\yp f=(id,fs,r,0):=by
 unfold yp;cases h:db f with
 | error c=>exact .inl ⟨c,rfl,JN f c h,rfl⟩
 | ok q =>
  obtain⟨⟨id,fs⟩,r⟩:=q;exact .inr ⟨id,fs,r,rfl,rfl⟩
theorem JQ{w:World}{v:Value}{b:List Nat}(hs:Sv w v (aF .u8 b))(h8:Bs b)(hl:b.length<=80000000)(hw:nX w.heap.size v) :
  Calls Tryz.prog 53 #[v] w fun e w'=>((jr b=none/\∃ fp g,e=.returned (.tuple #[.pointer fp,.int .i64 g,.bool false])) ∨
   ∃ id fs g gs fp fv,jr b=some (id,fs,g,gs)/\e=.returned (.tuple #[.pointer (some ⟨fp,0,none⟩),.int .i64 ((g:Nat):Int),.bool true])/\Fil w' w.heap.size fp id fv gs/\fD w' w.heap.size fv fs)/\Below w.heap.size w w':=by
 have HSP:=ae (NX hs h8 (by omega) hw);obtain⟨va,vc,rfl,_,_⟩:=hs.form1;rw[ar]at *;cases hsp:spl b with
 | none =>
  have HN:=ae (xp hsp);rw[hsp]at HSP;clear hs h8 hsp;go_enter Tryz.func53,Tryz.ntmps53
  go_wp2_with fail;refine HSP.o.mono ?_;rintro e w1 ⟨⟨v1,v2,rfl,_⟩,aH⟩;have aQ:=ae aH;clear aH;go_wp2_with fail;go_ret3
  exact⟨.inl ⟨HN.o,_,_,rfl⟩,aQ.o⟩
 | some cf =>
  obtain⟨c,f⟩:=cf;have pI:=ae (Ph hsp);obtain⟨q1,q2,q3,q4⟩:=jaV hsp h8;rw[hsp]at HSP;have HC:=ae (JP f);have HQ1:=ae q1;have HQ2:=ae q2;have PU:=ae (fun(U:World) (v2:Value) (hU:Sv U v2 (aF .u8 f))=>JM hU q2 (by omega));generalize yp f=R at *;obtain⟨R1,R2,R3',R4⟩:=R;clear hs h8 hsp q1 q2;go_enter Tryz.func53,Tryz.ntmps53
  go_wp2_with fail;refine HSP.o.mono ?_;rintro e w1 ⟨⟨v1,v2,rfl,iO⟩,aH⟩;obtain⟨s1,s2,s3,s4⟩:=iO c f rfl;have aQ:=ae aH;have jy:=ae s1;have Ah:=ae s3;have HU2:=ae (PU.o w1 v2 s2);clear aH iO s1 s2 s3 s4 PU;go_wp2_with fail;refine HU2.o.mono ?_;rintro e w2 ⟨⟨fv,u,rfl,Yz,hou⟩,aE⟩;have hB2:=ai aQ.o aE;obtain⟨a1,k1,e1,_,_⟩:=jy.o.form1;obtain⟨a2,k2,e2,_,_⟩:=hou.sv.form1;obtain⟨a3,k3,e3,_,_⟩:=Yz.sf.form;rw[ar]at e1 e2;subst e1 e2 e3;simp only at *;rcases HC.o with ⟨er,Yy,hu2,Zh⟩ | ⟨id,fs,r,Yy,Zh⟩
  ·have HN:jfp (jr b=none):=ae (by rw[pI.o,Yy])
   obtain⟨rfl,rfl,rfl,rfl⟩:R1=0/\R2=[]/\R3'=[]/\R4=er:=by simpa using Zh
   have fF:((R4:Int) != 0)=true:=by
    have:(R4:Int)≠0:=by omega
    simpa using this
   have aO:=ae hB2;clear Yy hu2 Zh Yz hou aE hB2 pI HC;go_wp2_with fail;go_ret3
   exact⟨.inl ⟨HN.o,_,_,rfl⟩,ai aO.o (am _ _)⟩
  ·obtain⟨rfl,rfl,rfl,rfl⟩:R1=id/\R2=fs/\R3'=r/\R4=0:=by simpa using Zh
   have hBr:=JO f _ _ Yy HQ2.o;obtain⟨Qk,_,_⟩:=ub Yy;have Yn:=ae (ig Qk);obtain⟨_,_,hf8,_⟩:=qx Qk;have HE:jfp (jr b=if (ie R2 c R3').2.2.2=true then none else some (R1,R2,gi 1 64 (dI R3'),(ie R2 c R3').1)):=ae (by rw[pI.o,Yy]);have hbA:=am w2 (.cells #[.int .u32 (R1:Int),.slice a3 R2.length k3] 25);have hbB:=am (w2.alloc (.cells #[.int .u32 (R1:Int),.slice a3 R2.length k3] 25)) (.cells #[.slice a1 c.length k1,.slice a2 R3'.length k2,.bool false] 157);have hAB:=ai hbA hbB;have sA:(w2.alloc (.cells #[.int .u32 (R1:Int),.slice a3 R2.length k3] 25)).heap.size=w2.heap.size+1:=jdx _ _;have hx:=jdW (w2.alloc (.cells #[.int .u32 (R1:Int),.slice a3 R2.length k3] 25)) (.cells #[.slice a1 c.length k1,.slice a2 R3'.length k2,.bool false] 157);rw[sA]at hx;have hw12:w.heap.size<=w2.heap.size:=hB2.size;have hfb:∀ i,(Value.slice a3 R2.length k3).ownBlock=some i->i<w2.heap.size+1:=fun i hi=>by have:=(aN Yz hi).2.1;omega
   have hR3:R3 ((w2.alloc (.cells #[.int .u32 (R1:Int),.slice a3 R2.length k3] 25)).alloc (.cells #[.slice a1 c.length k1,.slice a2 R3'.length k2,.bool false] 157)) (w2.heap.size+1) c R3' false :=
    ⟨a1,k1,a2,k2,hx,⟨(jy.o.kept aE).kept hAB,fun i hi=>by have:=Ah.o i hi;omega,HQ1.o⟩,hou.sv.kept hAB,fun i hi=>by have:=(aN hou hi).2.1;omega,hBr⟩
   have Cb:=ae (JF hR3 (Yz.sf.kept hAB) hfb Yn.o R1 hf8 (by omega));have nA:=ae (ai hB2 hAB);have Ab:=ae (Yz.kept hAB);have We:=ae hfb;have VZ:=ae hw12;have lF:jfp (((w2.alloc (.cells #[.int .u32 (R1:Int),.slice a3 R2.length k3] 25)).alloc (.cells #[.slice a1 c.length k1,.slice a2 R3'.length k2,.bool false] 157)).heap.size=w2.heap.size+2):=ae (by rw[jdx,jdx]);have HS01:=ae aQ.o.size;clear Yy Zh Yz hou aE hB2 pI HC hBr Qk hbA hbB hAB sA hx hR3 hfb;go_wp2_with fail;generalize (w2.alloc (.cells #[.int .u32 (R1:Int),.slice a3 R2.length k3] 25)).alloc (.cells #[.slice a1 c.length k1,.slice a2 R3'.length k2,.bool false] 157)=W4 at *;refine Cb.o.mono ?_;rintro e w4 ⟨fp,rfl,⟨c',f',ZG⟩,Cg,pG⟩;have xG:jfp (Below w.heap.size w w4):=ae (nA.o.trans (pG.below (by omega) (by have:=lF.o;omega)))
   have HOE:jfp (fD w4 w.heap.size (.slice a3 R2.length k3) R2):=ae (by
    have h1:fD w4 w1.heap.size (.slice a3 R2.length k3) R2:=cm Ab.o fun k hk=>pG.block k (by have:=We.o k hk;have:=lF.o;omega) (by have:=We.o k hk;omega)
    exact⟨h1.1,h1.2.imp (fun x=>x) fun⟨g,cap,cur,hv,hb,r⟩=>⟨g,cap,cur,hv,jdF HS01.o hb,r⟩⟩)
   have LQ:jfp ((ie R2 c R3').2.2.2=false->Fil w4 w.heap.size fp R1 (.slice a3 R2.length k3) (ie R2 c R3').1):=ae (fun h=>(Cg h).low (by have:=lF.o;omega));obtain⟨_,_,_,_,⟨_,_,r2⟩,⟨_,_,r3⟩,_,_⟩:=ZG.cells;clear ZG Cg pG;cases hF:(ie R2 c R3').2.2.2
   ·rw[hF]at r2 HE LQ
    have HFL2:=ae (LQ.o rfl);have HE2:jfp (jr b=some (R1,R2,gi 1 64 (dI R3'),(ie R2 c R3').1)):=ae (by rw[HE.o,jdt (by decide)]);clear hF HE LQ;go_wp2_with fail;go_quiet (fail)
    go_wp2_with fail;go_ret3
    exact⟨.inr ⟨_,_,_,_,_,_,HE2.o,rfl,HFL2.o.kept (ap (jdv _ _) _),HOE.o.kept (ap (jdv _ _) _)⟩,ap xG.o _⟩
   ·rw[hF]at r2 HE
    have HE2:jfp (jr b=none):=ae (by rw[HE.o,jdu rfl]);clear hF HE LQ;go_wp2_with fail;go_quiet (fail)
    go_wp2_with fail;go_ret3
    exact⟨.inl ⟨HE2.o,_,_,rfl⟩,ap xG.o _⟩
theorem Gro.rows{W:World}{B:Nat}{a b:Value}{rows:List Row}{sts:List Stt}(h:Gro W B (.agg #[a,b]) rows sts) :
  ∃ R,a=.slice (some ⟨R,0,none⟩) rows.length rows.length/\B<=R/\R<W.heap.size/\(∃ va vn vc,b=.slice va vn vc)/\∀ i (h:i<rows.length),∃ rv,W.cell? ⟨R,i,none⟩=some rv/\OwnV W B rv rows[i]:=by
 obtain⟨R,rvs,vs,e,h1,h2,h3⟩:=h;simp only[Value.agg.injEq,Array.mk.injEq,List.cons.injEq,and_true]at e;obtain⟨rfl,rfl⟩:=e;obtain⟨b1,b2,_⟩:=aN h1 (k:=R) rfl;refine⟨R,rfl,b1,b2,eP h3,fun i hi=>?_⟩;obtain⟨rv,e1,e2⟩:=h2 i hi;obtain⟨g,e,_,_,hc⟩:=ij h1 e1;cases e
 exact⟨rv,hc,e2⟩
theorem mq{gs:List Gr}{j:Nat}(h:j<gs.length):cp (gs.take (j+1))=cp (gs.take j)++gs[j].1:=by
 unfold cp;rw[jdM h,jdQ,je8];simp
theorem EZ{gs:List Gr}{j:Nat}(h:j<gs.length){r:Row}(hr:r∈gs[j].1):r∈cp gs:=by
 unfold cp;exact List.mem_flatten.2 ⟨gs[j].1,jdR.2 ⟨gs[j],jdA h,rfl⟩,hr⟩
theorem fo(gs:List Gr)(j:Nat):(cp (gs.take j)).length<=(cp gs).length:=by
 have:cp gs=cp (gs.take j)++cp (gs.drop j):=by
  unfold cp;rw[← je8,← jdQ,jeP]
 rw[this,jdy];omega
theorem Pi{w:World}{B fp id:Nat}{fv:Value}{gs:List Gr}(h:Fil w B fp id fv gs)(bR:∀ r∈cp gs,r.length<=1000)(Ch:(cp gs).length<=100000) :
  Calls Tryz.prog 23 #[.pointer (some ⟨fp,0,none⟩)] w fun e w'=>(∃ v l,e=.returned v/\Ow w' w.heap.size v l/\l.map Prod.snd=cp gs)/\Below w.heap.size w w':=by
 obtain⟨gv,xs,h1,h2,h3,h4⟩:=h;obtain⟨ga,gc,rfl,hgc,hgm⟩:=bI h3;have c2:w.cell? ⟨fp,2,none⟩=some (.slice ga gs.length gc):=by rw[ay h1];rfl
 have HG:jfp (∀ k (hk:k<gs.length),∃ G R va vn vc,ga=some ⟨G,0,none⟩/\gs[k].1.length<=100000/\∀ W,Below w.heap.size w W->W.cell? ⟨G,k*2,none⟩=some (.slice (some ⟨R,0,none⟩) gs[k].1.length gs[k].1.length)/\W.cell? ⟨G,k*2+1,none⟩=some (.slice va vn vc) /\
   ∀ i (h:i<gs[k].1.length),∃ ra rc,W.cell? ⟨R,i,none⟩=some (.slice ra gs[k].1[i].length rc)/\gs[k].1[i].length<=1000/\Sv W (.slice ra gs[k].1[i].length rc) (aI gs[k].1[i])):=ae (fun k hk=>by
  obtain⟨a,b,e1,e2,e3⟩:=h4 k hk;obtain⟨R,rfl,g1,g2,⟨va,vn,vc,rfl⟩,g4⟩:=e3.rows;obtain⟨G,rfl,_,hG,lp⟩:=ij h3 e1;obtain⟨_,e,_,_,jT⟩:=ij h3 e2;cases e
  have hr:=mq hk;have BT:=fo gs (k+1);rw[hr,jdy]at BT;refine⟨G,R,va,vn,vc,rfl,by omega,fun W hb=>⟨(hb.cell (p:=⟨G,k*2,none⟩) hG).trans (by rw[jd4];exact lp),(hb.cell (p:=⟨G,k*2+1,none⟩) hG).trans (by rw[jd4 k];exact jT),fun i hi=>?_⟩⟩;obtain⟨rv,f1,f2⟩:=g4 i hi;have fs:=f2.sv;obtain⟨ra,rc,rfl,_,_⟩:=fs.form1;rw[aG]at *;exact⟨ra,rc,(hb.cell (p:=⟨R,i,none⟩) g2).trans f1,bR _ (EZ hk (jdA hi)),fs.kept hb⟩)
 have HT:=ae (fun j=>fo gs j);have rQ:=ae (fun j (h:j<gs.length)=>mq h);have HTA:jfp (cp (gs.take gs.length)=cp gs):=ae (by rw[jdE]);have HT0:jfp (cp (gs.take 0)=[]):=ae rfl;have Ql:=ae Ch;clear h1 h2 h3 h4 bR Ch;go_enter Tryz.func23,Tryz.ntmps23
 go_wp2_with fail;go_loopw [3,13] (fun a i wr=>∃(k:Nat) (l:List (Value×Row)),i=.int .i64 (k:Int)/\k<=gs.length/\Ow wr w.heap.size a l/\l.map Prod.snd=cp (gs.take k)/\Below w.heap.size w wr) (fun _ i _=>gs.length-(intOf i).toNat)
 case atStart=>exact⟨0,[],rfl,by omega,Ow.nil _ _,HT0.o.symm,jdv _ _⟩
 case round =>
  obtain⟨k,l,rfl,hk,how,uW,az⟩:=hrel;have HB:=ae az;have HO:=ae how;have tw:=ae uW;obtain⟨la,lc,rfl,UL,Aa,_⟩:=how.form;clear az how uW;by_cases aB:k<gs.length
  ·obtain⟨G,R,va,vn,vc,rfl,Yx,hcells⟩:=HG.o k aB
   obtain⟨ca,cb,_⟩:=hcells wr HB.o;have HC:=ae hcells;have hlt':(k:Int)<(gs.length:Int):=(by omega);have hBW:Below w.heap.size w (wr.alloc (.cells #[.slice (some ⟨R,0,none⟩) gs[k].1.length gs[k].1.length,.slice va vn vc] 109)):=HB.o.alloc HB.o.size _;have nA:=ae hBW;obtain⟨cg,_⟩:=bx wr (.slice (some ⟨R,0,none⟩) gs[k].1.length gs[k].1.length) (.slice va vn vc) 109;have HCG:=ae cg;have hOW:=(HO.o.kept (am wr (.cells #[.slice (some ⟨R,0,none⟩) gs[k].1.length gs[k].1.length,.slice va vn vc] 109)));have FO:=ae hOW;have YA:=ae (rQ.o k aB);have HKL:=ae (HT.o (k+1));clear hcells hBW hOW cg;go_wp2_with fail;generalize wr.alloc (.cells #[.slice (some ⟨R,0,none⟩) gs[k].1.length gs[k].1.length,.slice va vn vc] 109)=WA at *
   have HLL:jfp (∀ m,(cp (gs.take k)++gs[k].1.take m).length<=100000):=ae (fun m=>by
    have h1:=YA.o;have h2:=HKL.o;have h3:=Ql.o;rw[h1,jdy]at h2;rw[jdy,jdC];omega)
   clear HO ca cb;go_loopw [3,20] (fun a i wx=>∃(m:Nat) (l2:List (Value×Row)),i=.int .i64 (m:Int)/\m<=gs[k].1.length/\Ow wx w.heap.size a l2/\l2.map Prod.snd=cp (gs.take k)++gs[k].1.take m/\Below w.heap.size w wx) (fun _ i _=>gs[k].1.length-(intOf i).toNat)
   case atStart=>exact⟨0,l,rfl,by omega,FO.o,by rw[jeU,jdT];exact tw.o,nA.o⟩
   case round =>
    obtain⟨m,l2,rfl,hm,jcg,jch,om⟩:=hrel;have aO:=ae om;have du:=ae jcg;have FQ:=ae jch;obtain⟨la2,lc2,rfl,hl12,hl22,_⟩:=jcg.form;have bv:=om.size
    have hl2n:l2.length<=100000:=by
     have h1:=jdB List.length jch;have h2:=HLL.o m;rw[jdz]at h1;omega
    clear om jcg jch;by_cases hmt:m<gs[k].1.length
    ·have hmt':(m:Int)<(gs[k].1.length:Int):=by omega
     obtain⟨_,_,hcr⟩:=HC.o _ aO.o;obtain⟨ra,rc,hrc,pE,ZB⟩:=hcr m hmt;have rP:jfp (gs[k].1.take (m+1)=gs[k].1.take m++[gs[k].1[m]]):=ae (jdM hmt);have qr:=ae (pY ZB pE);generalize gs[k].1[m]=r at *;clear hcr ZB;go_wp2_with fail;refine qr.o.mono ?_;rintro e w3 ⟨⟨v3,rfl,fA⟩,aS⟩;have HV3:=ae fA;have dh:=ae (du.o.kept aS);have bP:=ae (aO.o.trans (aS.mono bv));have iH:=aS.size;obtain⟨ra',rc',rfl,_,_⟩:=bI fA;have kP:=ae (aK w3 (.slice ra' r.length rc') 79);clear aS fA qr du;go_wp2_with (first | (at_builtin;refine gL rfl _ _ rfl w.heap.size _ _ l2 [(.slice ra' r.length rc',r)] rfl (dh.o.kept (am _ _)) rfl (uR kP.o (by rw[jdx];omega)) ?c1 ?c2 ?c3 ?_))
     case c1 =>
      intro x hx;rw[jef.1 hx];exact(HV3.o.kept (am _ _)).of_le (by omega)
     case c2=>simp only[jd6];omega
     case c3=>rw[jdx];omega
     intro v' w5 o5 b5;have dE:=ae o5;have aR:=ae ((bP.o.alloc (by omega) _).trans b5);clear o5 b5;go_wp2_with fail;go_roundw
     case rel=>exact⟨m+1,_,by go_num,by omega,dE.o,by rw[rP.o,jdQ,FQ.o,jdL];rfl,aR.o⟩
     case measure=>simp[intOf];omega
    ·obtain rfl:m=gs[k].1.length:=by omega
     have gj:¬ ((gs[k].1.length:Nat):Int)<(gs[k].1.length:Int):=(by omega);have YB:jfp (l2.map Prod.snd=cp (gs.take (k+1))):=ae (by rw[YA.o,FQ.o,jdE]);go_wp2_with fail;go_roundw
     case rel=>exact⟨k+1,l2,by go_num,by omega,du.o,YB.o,aO.o⟩
     case measure=>simp[intOf];omega
  ·obtain rfl:k=gs.length:=by omega
   have gj:¬ ((gs.length:Nat):Int)<(gs.length:Int):=(by omega);have YB:jfp (l.map Prod.snd=cp gs):=ae (tw.o.trans HTA.o);go_wp2_with fail;go_ret
   first | exact⟨⟨_,_,rfl,HO.o,YB.o⟩,HB.o⟩ | exact⟨⟨_,rfl,_,HO.o,YB.o⟩,HB.o⟩
theorem BC{w:World}{B fp id:Nat}{fv:Value}{gs:List Gr}(h:Fil w B fp id fv gs) :
  Calls Tryz.prog 21 #[.pointer (some ⟨fp,0,none⟩)] w fun e w'=>e=.returned (.int .i64 (gs.length:Int))/\w'=w:=by
 obtain⟨gv,xs,h1,h2,h3,h4⟩:=h
 have hgv:∃ ga gc,gv=.slice ga gs.length gc:=by
  rcases h3.2 with ⟨e,e2⟩ | ⟨_,_,_,e,_⟩
  ·rw[e2];exact⟨_,_,e⟩
  ·exact⟨_,_,e⟩
 obtain⟨ga,gc,rfl⟩:=hgv;have c2:w.cell? ⟨fp,2,none⟩=some (.slice ga gs.length gc):=by rw[ay h1];rfl
 clear h1 h2 h3 h4;go_enter Tryz.func21,Tryz.ntmps21
 go_wp2_with fail;go_ret
 exact⟨rfl,rfl⟩
theorem uvL1{n:Nat}(h:n<128):(uv n).length=1:=by rw[vJ h];rfl
theorem uvL2{n:Nat}(h:n<16384):(uv n).length<=2:=by
 rw[my];exact uvarint_length 1 n (by omega)
theorem uvL3{n:Nat}(h:n<2097152):(uv n).length<=3:=by
 rw[my];exact uvarint_length 2 n (by omega)
theorem wvL2{x:Int}(h0:0<=x)(h:x<=64):(wv x).length<=2:=by
 unfold wv;refine uvL2 ?_;unfold zigzag;rw[jdu h0];omega
theorem Fa:∀{l:List Int},(∀ x∈l,0<=x/\x<=64)->(gy l).length<=2*l.length
 | [],_=>by simp[gy]
 | x::t,h=>by
  have h1:=Fa (l:=t) (fun y hy=>h y (jeM _ hy));have h2:=h x (List.mem_cons_self ..);have h3:=wvL2 h2.1 h2.2;simp only[gy,jdy,jdD];omega
theorem TZ(n:Nat):by8 n<=n:=by unfold by8;omega
theorem Ua{l:List Int}(h:∀ x∈l,0<=x/\x<=64):(cQ l).length<=2*l.length+1:=by
 have h1:=ox l 4 0 (by omega);have h2:=Fa h;have:(im 0 l).length=(gy l).length:=rfl;unfold cQ;omega
theorem Ub{l:List Int}(h:Is l):(cQ l).length<=10*l.length+1:=by
 have h1:=ox l 4 0 (by omega);have h2:=(lS h).1;have:(im 0 l).length=(gy l).length:=rfl;unfold cQ;omega
theorem Fb{l:List (List Nat)}(h:Ts l)(hm:l.length<=64):(eL l).length<=4+66*l.length:=by
 obtain⟨b1,_⟩:=oD h
 have h1:=Ua (l:=ec l) (fun x hx=>by
  obtain⟨s,hs,rfl⟩:=jdR.1 hx;have:=(h s hs).1;omega)
 rw[bJ]at h1;have h2:=uvL2 (n:=(cQ (ec l)).length) (by omega)
 have hp:(plain l).length<=4+66*l.length:=by
  unfold plain fC cnt;simp only[jdD,jdy];omega
 unfold eL;split<;>omega
theorem JR{l:List (Nat×Int×List Nat)}(hm:l.length<=256):(dK l).length<=1+l.length:=by
 unfold dK;split
 ·have hl:=eI (dY l) (by rw[bn];exact hm)
  rw[bn]at hl;have:=TZ l.length;rw[jdD,hl];omega
 ·simp
theorem JS{k:Nat}{l:List Cl}(h:Col k l)(hm:l.length<=64):(eo k l).length<=5+67*l.length:=by
 obtain⟨hk,py,hc⟩:=h;have ho:=ia l;have hh:=JR py;unfold eo;rw[jdy];obtain rfl | rfl | rfl:k=1∨k=2∨k=3:=by omega
 ·have b1:=Ub (iS hc).1
  rw[jdz]at b1;rw[vV];omega
 ·have hl:=eI (fM hc).1 (by rw[jdz];omega)
  rw[jdz]at hl;have:=TZ (bS l).length;rw[vW,hl];omega
 ·have hw:=Fb (gO hc).1 (by rw[jdz];omega)
  rw[jdz]at hw;rw[vX];omega
theorem Uc{l:List UInt8}(hc:dP l=true):(bW l 4).length<=16:=by
 unfold bW;rw[Aq hc,jdC];have:=rk (rs:=iK l) (4:Int).toNat;have h4:(4:Int).toNat=4:=rfl;omega
theorem Lw:∀ rs:List Nat,(lJ rs).length<=4*rs.length
 | []=>by simp[lJ]
 | r::t=>by
  have:=Lw t;have:=ip r;unfold lJ at *;simp only[jeQ,jdy,jdD];omega
theorem Ud{l a:List UInt8}(h:gQ l 4=some a)(hl:l.length<=64):a.length<=16:=by
 have h0:=h;rw[wP]at h;unfold dZ at h;split at h
 ·next hc =>
  have hv:=Aq hc;split at h
  ·next h4 =>
   obtain rfl:=Option.some.inj h;have e:=(lw _ l (jdw _) hc).1;have h16:=Lw (iK l);rw[hv,jdz]at h4;have e2:=jdB List.length e;omega
  ·split at h
   ·cases h
   ·unfold upL at h
    cases hg:ib (V l) (4:Int).toNat with
    | none=>rw[hg]at h;cases h
    | some i =>
     rw[hg]at h;have hi:=(qL hg).1;simp only[jeF,Option.some.injEq]at h;subst h;have:=ip (nx ((V l).getD i (0,0)).1);have:=rk (rs:=iK l) i;rw[← hv]at this;have h4:(4:Int).toNat=4:=rfl;simp only[jdy,jdC];omega
 ·cases h
theorem jaW{x:Cl}(hf:aT x){cl:Bool}(hc:cl=true->eM x=true):(nP x cl).2.2.length<=16:=by
 unfold nP;by_cases h:x.1=3/\cl=false
 ·rw[jdu h];simp
 ·rw[jdt h]
  show (nb _).length<=16
  rw[oM];cases cl with
  | true=>exact Uc (hc rfl)
  | false =>
   have hx:x.1≠3:=fun e=>h ⟨e,rfl⟩
   have h2:x.2.2=[]:=by
    rcases hf with rfl | ⟨n,rfl,_⟩ | ⟨n,rfl,_⟩ | ⟨s,rfl,_,_⟩
    ·rfl
    ·rfl
    ·rfl
    ·exact absurd rfl hx
   have:=pS (lb (ak x.2.2)) 4;rw[cJ,bg,h2]at this;rw[h2];simp only[jdX]at this;omega
theorem XJ{x:Cl}(hf:aT x){cl:Bool}:(gF x cl).1.2.2.length<=16:=by
 unfold gF;by_cases h:x.1=3
 ·rw[jdu h]
  cases ha:gQ (lb (ak x.2.2)) 4 with
  | none=>exact jeh _
  | some a =>
   cases cl
   ·exact jeh _
   ·show (nb a).length<=16
    rw[oM];refine Ud ha ?_;rw[cJ];exact hf.short
 ·rw[jdt h]
  show x.2.2.length<=16
  rcases hf with rfl | ⟨n,rfl,_⟩ | ⟨n,rfl,_⟩ | ⟨s,rfl,_,_⟩
  ·exact jeh _
  ·exact jeh _
  ·exact jeh _
  ·exact absurd rfl h
theorem Ue{cs:List Cl}(hf:∀ c∈cs,aT c):(cA cs).lo.2.2.length<=16/\(cA cs).hi.2.2.length<=16:=by
 have LV:∀ c∈aZ cs,aT c:=fun c hc=>hf c (by unfold aZ at hc;exact(jfg.1 hc).1)
 unfold cA;cases hn:aZ cs with
 | nil=>exact⟨jeh _,jeh _⟩
 | cons y r =>
  rw[hn]at LV;have hy:=LV y (by simp);have hr:∀ c∈r,aT c:=fun c hc=>LV c (by simp[hc])
  refine⟨jaW (lY hy hr) (fun cX=>?_),XJ (nO hy hr)⟩;rw[List.all_eq_true]at cX;exact lY (P:=fun c=>eM c=true) (cX y (by simp)) (fun c hc=>cX c (by simp[hc]))
theorem Lx{c:Cl}(h:aT c)(h16:c.2.2.length<=16):(gG c).length<=17:=by
 unfold gG;split
 ·rcases h with rfl | ⟨n,rfl,h1⟩ | ⟨n,rfl,h1⟩ | ⟨s,rfl,h1,h2⟩<;>first | (have:=fq h1;unfold wv at this;simp only;omega) | (simp_all [nul])
 ·split
  ·simp
  ·rw[jdy,uvL1 (by omega)]
   omega
theorem Uf{cs:List Cl}(hf:∀ c∈cs,aT c)(hl:cs.length<=64):(et (cA cs)).length<=37:=by
 obtain⟨a1,a2⟩:=kD hf;obtain⟨b1,b2⟩:=Ue hf;have c1:=Lx a1 b1;have c2:=Lx a2 b2;obtain⟨n,hn,LH⟩:=ll cs;have hu:=uvL1 (n:=n) (by omega);unfold et;rw[hn,jd1];simp only[jdy,jd6];split<;>split<;>(try simp only[jdX])<;>omega
theorem JT{fs:List Fd}{p:List Row}(hl:p.length<=64)(dW:∀ k,k<fs.length->Col (mb fs k) (cW p k)):∀{k:Nat},k<=fs.length->(eN fs p k).length<=(5+67*p.length)*k:=by
 intro k;induction k with
 | zero=>exact fun _=>by simp[eN]
 | succ k ih =>
  intro hk;have h1:=ih (by omega);have h2:=JS (dW k (by omega)) (by rw[dr];exact hl);rw[dr]at h2;rw[me,jdy,Nat.mul_succ];omega
theorem Pj{fs:List Fd}{p:List Row}(h:jQ fs p)(hl:p.length<=64)(dW:∀ k,k<fs.length->Col (mb fs k) (cW p k)):∀{k:Nat},k<=fs.length->(ftK fs p k).length<=40*k:=by
 intro k;induction k with
 | zero=>exact fun _=>by simp[ftK]
 | succ k ih =>
  intro hk;have h1:=ih (by omega);have h2:=(iw (dW k (by omega))).1;have h3:=Uf (mj h k) (by rw[dr];exact hl);have h4:=uvL3 (n:=(eo (mb fs k) (cW p k)).length) (by omega);rw[nR];simp only[jdy];omega
theorem xq{fs:List Fd}{rs:List Row}{g:Nat}(kj:fs.length<=8)(ik:g<=64)(hk:∀ f∈fs,1<=f.2.2.1/\f.2.2.1<=3)(dC:jQ fs rs):∀ j,(iy fs g rs j).length<=40*j+536*min (j*g) rs.length
 | 0=>by simp[iy]
 | j+1=>by
  have h0:=xq kj ik hk dC j;have kN:(prt g rs j).length<=64:=by rw[bZ];omega
  have h1:=JT kN (fun k lq=>eX (dC.part g j) hk (by omega) lq) (jdw _);have h2:(5+67*(prt g rs j).length)*fs.length<=(5+67*(prt g rs j).length)*8:=jey _ kj;rw[bZ]at h1 h2;rw[sV,jdy,jd9,jeB];omega
theorem zS{fs:List Fd}{rs:List Row}{g:Nat}(kj:fs.length<=8)(ik:g<=64)(hk:∀ f∈fs,1<=f.2.2.1/\f.2.2.1<=3)(dC:jQ fs rs):∀ j,(ftJ fs g rs j).length<=320*j
 | 0=>by simp[ftJ]
 | j+1=>by
  have h0:=zS kj ik hk dC j;have kN:(prt g rs j).length<=64:=by rw[bZ];omega
  have h1:=Pj (dC.part g j) kN (fun k lq=>eX (dC.part g j) hk (by omega) lq) (jdw _);rw[wW,jdy];omega
theorem xr{id:Nat}{fs:List Fd}{rs:List Row}{g:Nat}(ho:∀ f∈fs,Okf f)(np:id<4294967296)(hc:chk id fs=0)(pE:rs.length<=60)(eS:1<=g)(ik:g<=64)(dC:jQ fs rs):(bX (ew id fs rs g)).length<=65536:=by
 obtain⟨hz,kj,_⟩:=oS hc;have hk:=ig hc;have h1:=fN ho (by omega) hz fs.length;rw[jdE]at h1;have h2:=gE id (by omega);have h3:=gE fs.length (by omega);have h4:=gE rs.length (by omega);have h5:=gE g (by omega)
 have hn:nps g rs.length<=60:=by
  rcases jdY 60 (nps g rs.length)with h | h
  ·have:=(kH (j:=60) (show 0<g by omega)).1 h
   have:60*1<=60*g:=jey _ eS;omega
  ·exact h
 have h6:=xq kj ik hk dC (nps g rs.length);have h7:=zS kj ik hk dC (nps g rs.length)
 have h8:(iy fs g rs (nps g rs.length)).length<=34560:=by
  have:=Nat.min_le_right (nps g rs.length*g) rs.length;omega
 unfold bX ew md ge dF;simp only[jdy,jdD,jdX,le4];omega
theorem Ly{fs:List Fd}:∀{rs:List Row},(∀ r∈rs,jK fs r=0)->kF fs rs=0
 | [],_=>rfl
 | x::t,h=>by
  unfold kF;rw[jdu (h x (List.mem_cons_self ..))];exact Ly fun r hr=>h r (jeM _ hr)
theorem Fc{id:Nat}{fs:List Fd}{rs:List Row}{g:Nat}(hc:chk id fs=0)(eS:1<=g)(ik:g<=64)(hl:rs.length<=256)(hf:jQ fs rs):dV id fs rs (g:Int)=0:=by
 unfold dV;rw[jdt (by omega),jdt (by omega),jdt (by omega)];exact Ly fun r hr=>(hf r hr).1
theorem BD{id:Nat}{fs:List Fd}{rs:List Row}{g:Nat}(ho:∀ f∈fs,Okf f)(np:id<4294967296)(hc:chk id fs=0)(hl:rs.length<=60)(eS:1<=g)(ik:g<=64)(hf:jQ fs rs):bT id fs rs (g:Int)=(bX (ew id fs rs g),0):=by
 have h1:=Fc (g:=g) hc eS ik (show rs.length<=256 by omega) hf;have h2:=xr ho np hc hl eS ik hf;unfold bT;rw[h1,jdt (by simp),jd1,jdt (by omega)]
theorem BE{id:Nat}{fs:List Fd}{rs:List Row}{g:Nat}{b:List Nat}(ho:∀ f∈fs,Okf f)(np:id<4294967296)(Vp:∀ r∈rs,∀ c∈r,aT c)(h:bT id fs rs (g:Int)=(b,0)) :
  rt b=.ok (id,fs,g,(List.range (nps g rs.length)).map fun i=>grp fs (prt g rs i)):=by
 have hw:=h;unfold bT at h;by_cases h0:dV id fs rs (g:Int)≠0
 ·rw[jdu h0]at h
  exact absurd (Prod.mk.inj h).2 h0
 rw[jdt h0]at h;obtain⟨hc,⟨eS,ik⟩,hl,kL⟩:=lm (Decidable.not_not.1 h0);rw[jd1]at h;by_cases hz:65536<(bX (ew id fs rs g)).length
 ·rw[jdu hz]at h
  cases (Prod.mk.inj h).2
 rw[jdt hz]at h;obtain⟨rfl,_⟩:=Prod.mk.inj h;have hf:jQ fs rs:=fun r hr=>⟨mo kL r hr,Vp r hr⟩
 have jw:(ge id fs rs g).length<4294967296:=by
  have:=(rI (g:=g) ho np hc hl (by omega) (by omega) hf).1;omega
 unfold rt;rw[Jd];simp only;have ht:(ew id fs rs g).take 3=[67,70,49]:=rfl;have hd:(ew id fs rs g).drop 3=md id fs rs g:=rfl;rw[jdu ht,hd,Jw np ho hc hf hl (by omega) (by omega) jw];simp only;rw[TL fs (by omega) rs,jdu hw]
theorem Ug{w:World}(ht:Tab w){v fv:Value}{b:List Nat}{B fp id:Nat}{fs:List Fd}{gs:List Gr}{g:Nat}(hs:Sv w v (aF .u8 b))(h8:Bs b)(h:Fil w B fp id fv gs)(hf:Sf w fv fs)(ho:∀ f∈fs,Okf f)(np:id<4294967296)
  (hr:∀ r∈cp gs,r.length<=1000/\∀ c∈r,aT c) (Ch:(cp gs).length<=1000) :
  Calls Tryz.prog 54 #[v,.pointer (some ⟨fp,0,none⟩),.int .i64 (g:Int)] w fun e w'=>e=.returned (.bool (decide (bT id fs (cp gs) (g:Int)=(b,0))))/\Below w.heap.size w w':=by
 have HT:=ae ht;have HS:=ae hs;have HF:=ae hf;have h':=h;obtain⟨gv,xs,jW,hB,_,_⟩:=h';have KH:=(Array.getElem?_eq_some_iff.1 jW).1;obtain⟨fa,fc,rfl,_,_⟩:=hf.form;obtain⟨ba,bc,rfl,_,_⟩:=hs.form1;rw[ar]at *
 have FK:jfp (∀ U,Below w.heap.size w U->U.cell? ⟨fp,0,none⟩=some (.int .u32 (id:Int))/\U.cell? ⟨fp,1,none⟩=some (.slice fa fs.length fc)):=ae (fun U hU=>by
  have hh:=(hU.block fp KH).trans jW;constructor<;>(rw[ay hh];rfl))
 have HA:jfp (∀ U,Below w.heap.size w U->Calls Tryz.prog 23 #[.pointer (some ⟨fp,0,none⟩)] U fun e w'=>∃ a c,e=.returned (.slice a (cp gs).length c)/\Rv w' (.slice a (cp gs).length c) (cp gs)/\Below w.heap.size w w'/\w'.cell? ⟨fp,0,none⟩=some (.int .u32 (id:Int))/\w'.cell? ⟨fp,1,none⟩=some (.slice fa fs.length fc)):=ae (fun U hU=>by
  refine(Pi (h.kept hU) (fun r hh=>(hr r hh).1) (by omega)).mono ?_;rintro e w' ⟨⟨v,l,rfl,how,uW⟩,hb⟩;have aE:=ai hU hb;have xS:=how.rv;rw[uW]at xS;obtain⟨a,c,rfl,_⟩:=xS.form;exact⟨a,c,rfl,xS,aE,FK.o _ aE⟩)
 have HW:jfp (∀ U ra rc,Below w.heap.size w U->Rv U (.slice ra (cp gs).length rc) (cp gs)->Calls Tryz.prog 12 #[.agg #[.int .u32 (id:Int),.slice fa fs.length fc],.slice ra (cp gs).length rc,.int .i64 (g:Int)] U fun e w'=>∃ a c,e=.returned (.tuple #[.slice a (bT id fs (cp gs) (g:Int)).1.length c,.int .i64 ((bT id fs (cp gs) (g:Int)).2:Int)])/\Sv w' (.slice a (bT id fs (cp gs) (g:Int)).1.length c) (aF .u8 (bT id fs (cp gs) (g:Int)).1)/\Below w.heap.size w w'):=ae (fun U ra rc hU xS=>by
  refine(nW (HT.o.kept hU) (HF.o.kept hU) xS ho np (fun r hh=>(hr r hh).2) (g:Int)).mono ?_;rintro e w' ⟨⟨v,rfl,how⟩,hb⟩;have iO:=how.sv;obtain⟨a,c,rfl,_,_⟩:=iO.form1;rw[ar]at *;exact⟨a,c,rfl,iO,ai hU hb⟩)
 have uK:jfp (Bs (bT id fs (cp gs) (g:Int)).1):=ae (by
  unfold bT;split
  ·exact fun x hx=>by simp at hx
  ·next h0 =>
   split
   ·exact fun x hx=>by simp at hx
   ·obtain⟨hc,⟨eS,ik⟩,hl,kL⟩:=lm (Decidable.not_not.1 h0)
    rw[jd1];exact(mn ho np hc hl (by omega) (by omega) (fun r hh=>⟨mo kL r hh,(hr r hh).2⟩)).2.seal)
 obtain⟨WM,hWM⟩:∃ WM,bT id fs (cp gs) (g:Int)=WM:=⟨_,rfl⟩;rw[hWM]at HW uK ⊢;obtain⟨D,hD⟩:∃ D,decide (WM=(b,0))=D:=⟨_,rfl⟩;rw[hD];obtain⟨wb,we⟩:=WM;simp only at HW uK;have HD:=ae hD;clear hD;have xD:=ae h8;clear hs hf h jW ho hr h8 hWM;obtain⟨c0,c1⟩:=FK.o w (jdv _ _);generalize (cp gs).length=n at *;go_enter Tryz.func54,Tryz.ntmps54
 go_wp2_with fail;refine wp_region_noPanic ?_
 go_region_law (first
  | (go_simp;go_at_call 23;refine(HA.o _ ?_).mono ?_;exact ap (jdv w.heap.size w) _;rintro e w1 ⟨ra,rc,rfl,Vq,aH,d0,d1⟩;have Vr:=ae Vq;have aQ:=ae aH;clear Vq aH;dsimp only)
  | (go_simp;go_at_call 12;refine(HW.o _ _ _ ?_ ?_).mono ?_;(first | exact aQ.o | exact ap aQ.o _);(first | exact Vr.o | exact Vr.o.kept (ap (jdv w1.heap.size w1) _));rintro e w2 ⟨a2,cc2,rfl,dN,aE⟩;have gl:=ae dN;have aO:=ae aE;clear dN aE;dsimp only)
  | fail)
 all_goals refine NoPanic.normal ?_
 all_goals
  by_cases he:we=0
  ·have hez:(((we:Nat):Int)==0)=true:=by rw[he];rfl
   have Ga:=ae (oN gl.o (HS.o.kept aO.o) uK.o xD.o)
   have yG:jfp (decide (wb=b)=D):=ae (by
    rw[← HD.o,he];by_cases xO:wb=b
    ·rw[xO];simp
    ·simp[xO])
   rw[yG.o]at Ga;go_wp2_with fail;refine Ga.o.mono ?_;rintro e w3 ⟨rfl,rfl⟩;go_wp2_with fail;go_ret
   exact⟨rfl,aO.o⟩
  ·have hez:(((we:Nat):Int)==0)=false:=by simpa using he
   have yG:jfp (D=false):=ae (by rw[← HD.o];simp[he]);go_wp2_with fail;go_ret
   exact⟨by rw[yG.o];rfl,aO.o⟩
end Go.Proofs.YtpljdjmpamjkhaaGreatDoor
