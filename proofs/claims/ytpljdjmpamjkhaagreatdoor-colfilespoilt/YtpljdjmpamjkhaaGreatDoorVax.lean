import Derived.Test.YtpljdjmpamjkhaaGreatDoorVaw
set_option linter.unusedVariables false
set_option linter.unusedSimpArgs false
set_option maxRecDepth 100000
set_option maxHeartbeats 4000000
namespace Go.Proofs.YtpljdjmpamjkhaaGreatDoor
open Go.RowKit Go.Lib
theorem xW{b:List Nat}(h:spl b=none):iW b=none:=by
 unfold spl at h;unfold iW;split
 ·rfl
 ·next h4 =>
  rw[jeh h4]at h;split
  ·rfl
  ·next h5 =>
   rw[jeh h5]at h;cases h
theorem PU{b c f:List Nat}(h:spl b=some (c,f)):iW b=match di f with
  | .error _=>none
  | .ok ((id,fs),r)=>if (io fs c r).2.2.2=true then none else some (id,fs,gy 1 64 (dK r),(io fs c r).1):=by
 unfold spl at h;unfold iW;split
 ·next h4 =>
  rw[jei h4]at h;cases h
 ·next h4 =>
  rw[jeh h4]at h;split
  ·next h5 =>
   rw[jei h5]at h;cases h
  ·next h5 =>
   rw[jeh h5]at h;simp only[Option.some.injEq,Prod.mk.injEq]at h;obtain⟨rfl,rfl⟩:=h;rfl
theorem jbH{b c f:List Nat}(h:spl b=some (c,f))(h8:Bs b):Bs c/\Bs f/\c.length<=b.length/\f.length<=b.length:=by
 unfold spl at h;split at h
 ·cases h
 ·split at h
  ·cases h
  ·simp only[Option.some.injEq,Prod.mk.injEq]at h
   obtain⟨rfl,rfl⟩:=h;refine⟨h8.take _,(h8.take _).drop _,by rw[jeq];omega,by rw[jeR,jeq];omega⟩
def NeR{α : Type}(m:List Nat->Except Nat (α×List Nat)):Prop:=∀ b c,m b=.error c->c≠0
theorem NeR.bind{α β : Type}{m:List Nat->Except Nat (α×List Nat)}{k:α->List Nat->Except Nat (β×List Nat)}(h:NeR m)(hk:∀ x,NeR (k x)):NeR (aC m k):=by
 intro b c e;cases hm:m b with
 | error d =>
  rw[cE hm]at e;cases e
  exact h b _ hm
 | ok q =>
  obtain⟨x,s⟩:=q;rw[db hm]at e;exact hk x s c e
theorem NeR.num(n:Nat):NeR (iy n):=by
 intro b c e;unfold iy at e;split at e
 ·next h=>cases e;exact h
 ·split at e
  ·cases e;decide
  ·cases e
theorem NeR.textR(n:Nat):NeR (textR n):=by
 intro b c e;unfold Go.Proofs.YtpljdjmpamjkhaaGreatDoor.textR at e;split at e
 ·cases e;decide
 ·cases e
theorem NeR.fld:NeR uX:=(NeR.num _).bind λi=>((NeR.num _).bind λn=>NeR.textR n).bind λs=>(NeR.num _).bind λk=>(NeR.num _).bind λn=>λb c e=>by cases e
theorem NeR.flds:∀ n,NeR (li n)
 | 0=>λb c e=>by cases e
 | n+1=>(NeR.flds n).bind λl=>NeR.fld.bind λf=>λb c e=>by cases e
theorem Ku:NeR di :=
 ((NeR.num _).bind λi=>(NeR.num _).bind λn=>(NeR.flds n).bind λl=>λb c e=>by cases e).bind λs=>by
  intro b c e;simp only at e;split at e
  ·cases e
  ·next h=>cases e;exact h
def BsR{α : Type}(m:List Nat->Except Nat (α×List Nat)):Prop:=∀ b x r,m b=.ok (x,r)->Bs b->Bs r
theorem BsR.bind{α β : Type}{m:List Nat->Except Nat (α×List Nat)}{k:α->List Nat->Except Nat (β×List Nat)}(h:BsR m)(hk:∀ x,BsR (k x)):BsR (aC m k):=by
 intro b y r e hb;cases hm:m b with
 | error c=>rw[cE hm]at e;cases e
 | ok q =>
  obtain⟨x,s⟩:=q;rw[db hm]at e;exact hk x s y r e (h b x s hm hb)
theorem BsR.pure{α : Type}(x:α):BsR (λb=>.ok (x,b)):=λb y r e hb=>by cases e;exact hb
theorem BsR.num(n:Nat):BsR (iy n):=by
 intro b x r e hb;unfold iy at e;split at e
 ·cases e
 ·split at e
  ·cases e
  ·cases e;exact hb.drop _
theorem BsR.textR(n:Nat):BsR (textR n):=by
 intro b x r e hb;unfold Go.Proofs.YtpljdjmpamjkhaaGreatDoor.textR at e;split at e
 ·cases e
 ·cases e;exact hb.drop _
theorem BsR.fld:BsR uX:=(BsR.num _).bind λi=>((BsR.num _).bind λn=>BsR.textR n).bind λs=>(BsR.num _).bind λk=>(BsR.num _).bind λn=>BsR.pure _
theorem BsR.flds:∀ n,BsR (li n)
 | 0=>BsR.pure _
 | n+1=>(BsR.flds n).bind λl=>BsR.fld.bind λf=>BsR.pure _
theorem Kv:BsR di :=
 ((BsR.num _).bind λi=>(BsR.num _).bind λn=>(BsR.flds n).bind λl=>BsR.pure _).bind λs=>by
  intro b x r e hb;simp only at e;split at e
  ·cases e;exact hb
  ·cases e
theorem Kw(f:List Nat):(∃ c,di f=.error c/\c≠0/\yZ f=(0,[],[],c))∨∃ id fs r,di f=.ok ((id,fs),r)/\yZ f=(id,fs,r,0):=by
 unfold yZ;cases h:di f with
 | error c=>exact .inl ⟨c,rfl,Ku f c h,rfl⟩
 | ok q =>
  obtain⟨⟨id,fs⟩,r⟩:=q;exact .inr ⟨id,fs,r,rfl,rfl⟩
theorem Kx{w:World}{v:Value}{b:List Nat}(hs:Sv w v (aF .u8 b))(h8:Bs b)(hl:b.length<=80000000)(hw:ot w.heap.size v) :
  Calls Tryz.prog 53 #[v] w λe w'=>((iW b=none/\∃ fp g,e=.returned (.tuple #[.pointer fp,.int .i64 g,.bool false])) ∨
   ∃ id fs g gs fp fv,iW b=some (id,fs,g,gs)/\e=.returned (.tuple #[.pointer (some ⟨fp,0,none⟩),.int .i64 ((g:Nat):Int),.bool true])/\Fil w' w.heap.size fp id fv gs/\ea w' w.heap.size fv fs)/\Below w.heap.size w w':=by
 have HSP:=ae (PH hs h8 (by omega) hw);obtain⟨va,vc,rfl,_,_⟩:=hs.form1;rw[ap]at *;cases hsp:spl b with
 | none =>
  have HN:=ae (xW hsp);rw[hsp]at HSP;clear hs h8 hsp;go_enter Tryz.func53,Tryz.ntmps53
  go_wp2_with fail;refine HSP.o.mono ?_;rintro e w1 ⟨⟨v1,v2,rfl,_⟩,aH⟩;have aP:=ae aH;clear aH;go_wp2_with fail;go_ret3
  exact⟨.inl ⟨HN.o,_,_,rfl⟩,aP.o⟩
 | some cf =>
  obtain⟨c,f⟩:=cf;have oK:=ae (PU hsp);obtain⟨q1,q2,q3,q4⟩:=jbH hsp h8;rw[hsp]at HSP;have HC:=ae (Kw f);have HQ1:=ae q1;have HQ2:=ae q2;have QD:=ae (λ(U:World) (v2:Value) (hU:Sv U v2 (aF .u8 f))=>Kt hU q2 (by omega));generalize yZ f=R at *;obtain⟨R1,R2,R3',R4⟩:=R;clear hs h8 hsp q1 q2;go_enter Tryz.func53,Tryz.ntmps53
  go_wp2_with fail;refine HSP.o.mono ?_;rintro e w1 ⟨⟨v1,v2,rfl,gX⟩,aH⟩;obtain⟨s1,s2,s3,s4⟩:=gX c f rfl;have aP:=ae aH;have ja:=ae s1;have AY:=ae s3;have HU2:=ae (QD.o w1 v2 s2);clear aH gX s1 s2 s3 s4 QD;go_wp2_with fail;refine HU2.o.mono ?_;rintro e w2 ⟨⟨fv,u,rfl,Rp,hou⟩,aE⟩;have hB2:=ai aP.o aE;obtain⟨a1,k1,e1,_,_⟩:=ja.o.form1;obtain⟨a2,k2,e2,_,_⟩:=hou.sv.form1;obtain⟨a3,k3,e3,_,_⟩:=Rp.sf.form;rw[ap]at e1 e2;subst e1 e2 e3;simp only at *;rcases HC.o with ⟨er,Zo,hu2,ZZ⟩ | ⟨id,fs,r,Zo,ZZ⟩
  ·have HN:jgf (iW b=none):=ae (by rw[oK.o,Zo])
   obtain⟨rfl,rfl,rfl,rfl⟩:R1=0/\R2=[]/\R3'=[]/\R4=er:=by simpa using ZZ
   have fJ:((R4:Int) != 0)=true:=by
    have:(R4:Int)≠0:=by omega
    simpa using this
   have aN:=ae hB2;clear Zo hu2 ZZ Rp hou aE hB2 oK HC;go_wp2_with fail;go_ret3
   exact⟨.inl ⟨HN.o,_,_,rfl⟩,ai aN.o (ak _ _)⟩
  ·obtain⟨rfl,rfl,rfl,rfl⟩:R1=id/\R2=fs/\R3'=r/\R4=0:=by simpa using ZZ
   have hBr:=Kv f _ _ Zo HQ2.o;obtain⟨QT,_,_⟩:=uJ Zo;have Zd:=ae (ip QT);obtain⟨_,_,hf8,_⟩:=qN QT;have HE:jgf (iW b=if (io R2 c R3').2.2.2=true then none else some (R1,R2,gy 1 64 (dK R3'),(io R2 c R3').1)):=ae (by rw[oK.o,Zo]);have hbA:=ak w2 (.cells #[.int .u32 (R1:Int),.slice a3 R2.length k3] 25);have hbB:=ak (w2.alloc (.cells #[.int .u32 (R1:Int),.slice a3 R2.length k3] 25)) (.cells #[.slice a1 c.length k1,.slice a2 R3'.length k2,.bool false] 157);have hAB:=ai hbA hbB;have sA:(w2.alloc (.cells #[.int .u32 (R1:Int),.slice a3 R2.length k3] 25)).heap.size=w2.heap.size+1:=jel _ _;have hx:=jeK (w2.alloc (.cells #[.int .u32 (R1:Int),.slice a3 R2.length k3] 25)) (.cells #[.slice a1 c.length k1,.slice a2 R3'.length k2,.bool false] 157);rw[sA]at hx;have hw12:w.heap.size<=w2.heap.size:=hB2.size;have hfb:∀ i,(Value.slice a3 R2.length k3).ownBlock=some i->i<w2.heap.size+1:=λi hi=>by have:=(aM Rp hi).2.1;omega
   have hR3:R3 ((w2.alloc (.cells #[.int .u32 (R1:Int),.slice a3 R2.length k3] 25)).alloc (.cells #[.slice a1 c.length k1,.slice a2 R3'.length k2,.bool false] 157)) (w2.heap.size+1) c R3' false :=
    ⟨a1,k1,a2,k2,hx,⟨(ja.o.kept aE).kept hAB,λi hi=>by have:=AY.o i hi;omega,HQ1.o⟩,hou.sv.kept hAB,λi hi=>by have:=(aM hou hi).2.1;omega,hBr⟩
   have GL:=ae (Km hR3 (Rp.sf.kept hAB) hfb Zd.o R1 hf8 (by omega));have nH:=ae (ai hB2 hAB);have yi:=ae (Rp.kept hAB);have WY:=ae hfb;have WS:=ae hw12;have lN:jgf (((w2.alloc (.cells #[.int .u32 (R1:Int),.slice a3 R2.length k3] 25)).alloc (.cells #[.slice a1 c.length k1,.slice a2 R3'.length k2,.bool false] 157)).heap.size=w2.heap.size+2):=ae (by rw[jel,jel]);have HS01:=ae aP.o.size;clear Zo ZZ Rp hou aE hB2 oK HC hBr QT hbA hbB hAB sA hx hR3 hfb;go_wp2_with fail;generalize (w2.alloc (.cells #[.int .u32 (R1:Int),.slice a3 R2.length k3] 25)).alloc (.cells #[.slice a1 c.length k1,.slice a2 R3'.length k2,.bool false] 157)=W4 at *;refine GL.o.mono ?_;rintro e w4 ⟨fp,rfl,⟨c',f',hr4⟩,vS,pT⟩;have yp:jgf (Below w.heap.size w w4):=ae (nH.o.trans (pT.below (by omega) (by have:=lN.o;omega)))
   have YZ:jgf (ea w4 w.heap.size (.slice a3 R2.length k3) R2):=ae (by
    have h1:ea w4 w1.heap.size (.slice a3 R2.length k3) R2:=bX yi.o λk hk=>pT.block k (by have:=WY.o k hk;have:=lN.o;omega) (by have:=WY.o k hk;omega)
    exact⟨h1.1,h1.2.imp (λx=>x) λ⟨g,cap,cur,hv,hb,r⟩=>⟨g,cap,cur,hv,jet HS01.o hb,r⟩⟩)
   have zr:jgf ((io R2 c R3').2.2.2=false->Fil w4 w.heap.size fp R1 (.slice a3 R2.length k3) (io R2 c R3').1):=ae (λh=>(vS h).low (by have:=lN.o;omega));obtain⟨_,_,_,_,⟨_,_,r2⟩,⟨_,_,r3⟩,_,_⟩:=hr4.cells;clear hr4 vS pT;cases hF:(io R2 c R3').2.2.2
   ·rw[hF]at r2 HE zr
    have HFL2:=ae (zr.o rfl);have HE2:jgf (iW b=some (R1,R2,gy 1 64 (dK R3'),(io R2 c R3').1)):=ae (by rw[HE.o,jeh (by decide)]);clear hF HE zr;go_wp2_with fail;go_quiet (fail)
    go_wp2_with fail;go_ret3
    exact⟨.inr ⟨_,_,_,_,_,_,HE2.o,rfl,HFL2.o.kept (ar (jej _ _) _),YZ.o.kept (ar (jej _ _) _)⟩,ar yp.o _⟩
   ·rw[hF]at r2 HE
    have HE2:jgf (iW b=none):=ae (by rw[HE.o,jei rfl]);clear hF HE zr;go_wp2_with fail;go_quiet (fail)
    go_wp2_with fail;go_ret3
    exact⟨.inl ⟨HE2.o,_,_,rfl⟩,ar yp.o _⟩
theorem Gro.rows{W:World}{B:Nat}{a b:Value}{rows:List Row}{sts:List Stt}(h:Gro W B (.agg #[a,b]) rows sts) :
  ∃ R,a=.slice (some ⟨R,0,none⟩) rows.length rows.length/\B<=R/\R<W.heap.size/\(∃ va vn vc,b=.slice va vn vc)/\∀ i (h:i<rows.length),∃ rv,W.cell? ⟨R,i,none⟩=some rv/\OwnV W B rv rows[i]:=by
 obtain⟨R,rvs,vs,e,h1,h2,h3⟩:=h;simp only[Value.agg.injEq,Array.mk.injEq,List.cons.injEq,and_true]at e;obtain⟨rfl,rfl⟩:=e;obtain⟨b1,b2,_⟩:=aM h1 (k:=R) rfl;refine⟨R,rfl,b1,b2,eA h3,λi hi=>?_⟩;obtain⟨rv,e1,e2⟩:=h2 i hi;obtain⟨g,e,_,_,hc⟩:=iq h1 e1;cases e
 exact⟨rv,hc,e2⟩
theorem mw{gs:List Gr}{j:Nat}(h:j<gs.length):bT (gs.take (j+1))=bT (gs.take j)++gs[j].1:=by
 unfold bT;rw[jeA h,jeE,jf0];simp
theorem FR{gs:List Gr}{j:Nat}(h:j<gs.length){r:Row}(hr:r∈gs[j].1):r∈bT gs:=by
 unfold bT;exact List.mem_flatten.2 ⟨gs[j].1,jeF.2 ⟨gs[j],jeo h,rfl⟩,hr⟩
theorem fB(gs:List Gr)(j:Nat):(bT (gs.take j)).length<=(bT gs).length:=by
 have:bT gs=bT (gs.take j)++bT (gs.drop j):=by
  unfold bT;rw[← jf0,← jeE,jfF]
 rw[this,jem];omega
theorem AE{w:World}{B fp id:Nat}{fv:Value}{gs:List Gr}(h:Fil w B fp id fv gs)(bR:∀ r∈bT gs,r.length<=1000)(Dd:(bT gs).length<=100000) :
  Calls Tryz.prog 23 #[.pointer (some ⟨fp,0,none⟩)] w λe w'=>(∃ v l,e=.returned v/\Ow w' w.heap.size v l/\l.map Prod.snd=bT gs)/\Below w.heap.size w w':=by
 obtain⟨gv,xs,h1,h2,h3,h4⟩:=h;obtain⟨ga,gc,rfl,hgc,hgm⟩:=be h3;have c2:w.cell? ⟨fp,2,none⟩=some (.slice ga gs.length gc):=by rw[ay h1];rfl
 have HG:jgf (∀ k (hk:k<gs.length),∃ G R va vn vc,ga=some ⟨G,0,none⟩/\gs[k].1.length<=100000/\∀ W,Below w.heap.size w W->W.cell? ⟨G,k*2,none⟩=some (.slice (some ⟨R,0,none⟩) gs[k].1.length gs[k].1.length)/\W.cell? ⟨G,k*2+1,none⟩=some (.slice va vn vc) /\
   ∀ i (h:i<gs[k].1.length),∃ ra rc,W.cell? ⟨R,i,none⟩=some (.slice ra gs[k].1[i].length rc)/\gs[k].1[i].length<=1000/\Sv W (.slice ra gs[k].1[i].length rc) (aJ gs[k].1[i])):=ae (λk hk=>by
  obtain⟨a,b,e1,e2,e3⟩:=h4 k hk;obtain⟨R,rfl,g1,g2,⟨va,vn,vc,rfl⟩,g4⟩:=e3.rows;obtain⟨G,rfl,_,hG,lK⟩:=iq h3 e1;obtain⟨_,e,_,_,ke⟩:=iq h3 e2;cases e
  have hr:=mw hk;have CK:=fB gs (k+1);rw[hr,jem]at CK;refine⟨G,R,va,vn,vc,rfl,by omega,λW hb=>⟨(hb.cell (p:=⟨G,k*2,none⟩) hG).trans (by rw[jeU];exact lK),(hb.cell (p:=⟨G,k*2+1,none⟩) hG).trans (by rw[jeU k];exact ke),λi hi=>?_⟩⟩;obtain⟨rv,f1,f2⟩:=g4 i hi;have fs:=f2.sv;obtain⟨ra,rc,rfl,_,_⟩:=fs.form1;rw[aG]at *;exact⟨ra,rc,(hb.cell (p:=⟨R,i,none⟩) g2).trans f1,bR _ (FR hk (jeo hi)),fs.kept hb⟩)
 have HT:=ae (λj=>fB gs j);have sC:=ae (λj (h:j<gs.length)=>mw h);have HTA:jgf (bT (gs.take gs.length)=bT gs):=ae (by rw[jes]);have HT0:jgf (bT (gs.take 0)=[]):=ae rfl;have QU:=ae Dd;clear h1 h2 h3 h4 bR Dd;go_enter Tryz.func23,Tryz.ntmps23
 go_wp2_with fail;go_loopw [3,13] (λa i wr=>∃(k:Nat) (l:List (Value×Row)),i=.int .i64 (k:Int)/\k<=gs.length/\Ow wr w.heap.size a l/\l.map Prod.snd=bT (gs.take k)/\Below w.heap.size w wr) (λ_ i _=>gs.length-(intOf i).toNat)
 case atStart=>exact⟨0,[],rfl,by omega,Ow.nil _ _,HT0.o.symm,jej _ _⟩
 case round =>
  obtain⟨k,l,rfl,hk,how,sR,az⟩:=hrel;have HB:=ae az;have HO:=ae how;have pV:=ae sR;obtain⟨la,lc,rfl,Rf,AO,_⟩:=how.form;clear az how sR;by_cases aB:k<gs.length
  ·obtain⟨G,R,va,vn,vc,rfl,Zn,hcells⟩:=HG.o k aB
   obtain⟨ca,cb,_⟩:=hcells wr HB.o;have HC:=ae hcells;have hlt':(k:Int)<(gs.length:Int):=(by omega);have hBW:Below w.heap.size w (wr.alloc (.cells #[.slice (some ⟨R,0,none⟩) gs[k].1.length gs[k].1.length,.slice va vn vc] 109)):=HB.o.alloc HB.o.size _;have nH:=ae hBW;obtain⟨cg,_⟩:=bx wr (.slice (some ⟨R,0,none⟩) gs[k].1.length gs[k].1.length) (.slice va vn vc) 109;have HCG:=ae cg;have hOW:=(HO.o.kept (ak wr (.cells #[.slice (some ⟨R,0,none⟩) gs[k].1.length gs[k].1.length,.slice va vn vc] 109)));have wo:=ae hOW;have Zq:=ae (sC.o k aB);have HKL:=ae (HT.o (k+1));clear hcells hBW hOW cg;go_wp2_with fail;generalize wr.alloc (.cells #[.slice (some ⟨R,0,none⟩) gs[k].1.length gs[k].1.length,.slice va vn vc] 109)=WA at *
   have HLL:jgf (∀ m,(bT (gs.take k)++gs[k].1.take m).length<=100000):=ae (λm=>by
    have h1:=Zq.o;have h2:=HKL.o;have h3:=QU.o;rw[h1,jem]at h2;rw[jem,jeq];omega)
   clear HO ca cb;go_loopw [3,20] (λa i wx=>∃(m:Nat) (l2:List (Value×Row)),i=.int .i64 (m:Int)/\m<=gs[k].1.length/\Ow wx w.heap.size a l2/\l2.map Prod.snd=bT (gs.take k)++gs[k].1.take m/\Below w.heap.size w wx) (λ_ i _=>gs[k].1.length-(intOf i).toNat)
   case atStart=>exact⟨0,l,rfl,by omega,wo.o,by rw[jfK,jeG];exact pV.o,nH.o⟩
   case round =>
    obtain⟨m,l2,rfl,hm,jcV,jcW,oL⟩:=hrel;have aN:=ae oL;have dz:=ae jcV;have Gy:=ae jcW;obtain⟨la2,lc2,rfl,hl12,hl22,_⟩:=jcV.form;have bv:=oL.size
    have hl2n:l2.length<=100000:=by
     have h1:=jep List.length jcW;have h2:=HLL.o m;rw[jen]at h1;omega
    clear oL jcV jcW;by_cases hmt:m<gs[k].1.length
    ·have hmt':(m:Int)<(gs[k].1.length:Int):=by omega
     obtain⟨_,_,hcr⟩:=HC.o _ aN.o;obtain⟨ra,rc,hrc,nD,hrs⟩:=hcr m hmt;have sy:jgf (gs[k].1.take (m+1)=gs[k].1.take m++[gs[k].1[m]]):=ae (jeA hmt);have pQ:=ae (qm hrs nD);generalize gs[k].1[m]=r at *;clear hcr hrs;go_wp2_with fail;refine pQ.o.mono ?_;rintro e w3 ⟨⟨v3,rfl,fW⟩,aS⟩;have HV3:=ae fW;have dd:=ae (dz.o.kept aS);have bN:=ae (aN.o.trans (aS.mono bv));have iN:=aS.size;obtain⟨ra',rc',rfl,_,_⟩:=be fW;have kf:=ae (aK w3 (.slice ra' r.length rc') 79);clear aS fW pQ dz;go_wp2_with (first | (at_builtin;refine gO rfl _ _ rfl w.heap.size _ _ l2 [(.slice ra' r.length rc',r)] rfl (dd.o.kept (ak _ _)) rfl (pn kf.o (by rw[jel];omega)) ?c1 ?c2 ?c3 ?_))
     case c1 =>
      intro x hx;rw[jeX.1 hx];exact(HV3.o.kept (ak _ _)).of_le (by omega)
     case c2=>simp only[jeS];omega
     case c3=>rw[jel];omega
     intro v' w5 o5 b5;have df:=ae o5;have aQ:=ae ((bN.o.alloc (by omega) _).trans b5);clear o5 b5;go_wp2_with fail;go_roundw
     case rel=>exact⟨m+1,_,by go_num,by omega,df.o,by rw[sy.o,jeE,Gy.o,jez];rfl,aQ.o⟩
     case measure=>simp[intOf];omega
    ·obtain rfl:m=gs[k].1.length:=by omega
     have gi:¬ ((gs[k].1.length:Nat):Int)<(gs[k].1.length:Int):=(by omega);have Zr:jgf (l2.map Prod.snd=bT (gs.take (k+1))):=ae (by rw[Zq.o,Gy.o,jes]);go_wp2_with fail;go_roundw
     case rel=>exact⟨k+1,l2,by go_num,by omega,dz.o,Zr.o,aN.o⟩
     case measure=>simp[intOf];omega
  ·obtain rfl:k=gs.length:=by omega
   have gi:¬ ((gs.length:Nat):Int)<(gs.length:Int):=(by omega);have Zr:jgf (l.map Prod.snd=bT gs):=ae (pV.o.trans HTA.o);go_wp2_with fail;go_ret
   first | exact⟨⟨_,_,rfl,HO.o,Zr.o⟩,HB.o⟩ | exact⟨⟨_,rfl,_,HO.o,Zr.o⟩,HB.o⟩
theorem Ct{w:World}{B fp id:Nat}{fv:Value}{gs:List Gr}(h:Fil w B fp id fv gs) :
  Calls Tryz.prog 21 #[.pointer (some ⟨fp,0,none⟩)] w λe w'=>e=.returned (.int .i64 (gs.length:Int))/\w'=w:=by
 obtain⟨gv,xs,h1,h2,h3,h4⟩:=h
 have hgv:∃ ga gc,gv=.slice ga gs.length gc:=by
  rcases h3.2 with ⟨e,e2⟩ | ⟨_,_,_,e,_⟩
  ·rw[e2];exact⟨_,_,e⟩
  ·exact⟨_,_,e⟩
 obtain⟨ga,gc,rfl⟩:=hgv;have c2:w.cell? ⟨fp,2,none⟩=some (.slice ga gs.length gc):=by rw[ay h1];rfl
 clear h1 h2 h3 h4;go_enter Tryz.func21,Tryz.ntmps21
 go_wp2_with fail;go_ret
 exact⟨rfl,rfl⟩
theorem uvL1{n:Nat}(h:n<128):(uv n).length=1:=by rw[wL h];rfl
theorem uvL2{n:Nat}(h:n<16384):(uv n).length<=2:=by
 rw[mF];exact uvarint_length 1 n (by omega)
theorem uvL3{n:Nat}(h:n<2097152):(uv n).length<=3:=by
 rw[mF];exact uvarint_length 2 n (by omega)
theorem wvL2{x:Int}(h0:0<=x)(h:x<=64):(wv x).length<=2:=by
 unfold wv;refine uvL2 ?_;unfold zigzag;rw[jei h0];omega
theorem FS:∀{l:List Int},(∀ x∈l,0<=x/\x<=64)->(gB l).length<=2*l.length
 | [],_=>by simp[gB]
 | x::t,h=>by
  have h1:=FS (l:=t) (λy hy=>h y (jfB _ hy));have h2:=h x (List.mem_cons_self ..);have h3:=wvL2 h2.1 h2.2;simp only[gB,jem,jer];omega
theorem UJ(n:Nat):by8 n<=n:=by unfold by8;omega
theorem UK{l:List Int}(h:∀ x∈l,0<=x/\x<=64):(cV l).length<=2*l.length+1:=by
 have h1:=oR l 4 0 (by omega);have h2:=FS h;have:(iv 0 l).length=(gB l).length:=rfl;unfold cV;omega
theorem UL{l:List Int}(h:Is l):(cV l).length<=10*l.length+1:=by
 have h1:=oR l 4 0 (by omega);have h2:=(mb h).1;have:(iv 0 l).length=(gB l).length:=rfl;unfold cV;omega
theorem FT{l:List (List Nat)}(h:Ts l)(hm:l.length<=64):(eS l).length<=4+66*l.length:=by
 obtain⟨b1,_⟩:=oT h
 have h1:=UK (l:=em l) (λx hx=>by
  obtain⟨s,hs,rfl⟩:=jeF.1 hx;have:=(h s hs).1;omega)
 rw[bM]at h1;have h2:=uvL2 (n:=(cV (em l)).length) (by omega)
 have hp:(plain l).length<=4+66*l.length:=by
  unfold plain fH cnt;simp only[jer,jem];omega
 unfold eS;split<;>omega
theorem Ky{l:List (Nat×Int×List Nat)}(hm:l.length<=256):(dO l).length<=1+l.length:=by
 unfold dO;split
 ·have hl:=eP (ee l) (by rw[br];exact hm)
  rw[br]at hl;have:=UJ l.length;rw[jer,hl];omega
 ·simp
theorem Kz{k:Nat}{l:List Cl}(h:Col k l)(hm:l.length<=64):(ey k l).length<=5+67*l.length:=by
 obtain⟨hk,oD,hc⟩:=h;have ho:=ik l;have hh:=Ky oD;unfold ey;rw[jem];obtain rfl | rfl | rfl:k=1∨k=2∨k=3:=by omega
 ·have b1:=UL (je hc).1
  rw[jen]at b1;rw[wX];omega
 ·have hl:=eP (fP hc).1 (by rw[jen];omega)
  rw[jen]at hl;have:=UJ (bV l).length;rw[wY,hl];omega
 ·have hw:=FT (gR hc).1 (by rw[jen];omega)
  rw[jen]at hw;rw[wZ];omega
theorem UM{l:List UInt8}(hc:dS l=true):(bZ l 4).length<=16:=by
 unfold bZ;rw[Bk hc,jeq];have:=rJ (rs:=iU l) (4:Int).toNat;have h4:(4:Int).toNat=4:=rfl;omega
theorem Mk:∀ rs:List Nat,(lQ rs).length<=4*rs.length
 | []=>by simp[lQ]
 | r::t=>by
  have:=Mk t;have:=iw r;unfold lQ at *;simp only[jfG,jem,jer];omega
theorem UN{l a:List UInt8}(h:gT l 4=some a)(hl:l.length<=64):a.length<=16:=by
 have h0:=h;rw[xz]at h;unfold ef at h;split at h
 ·next hc =>
  have hv:=Bk hc;split at h
  ·next h4 =>
   obtain rfl:=Option.some.inj h;have e:=(lE _ l (jek _) hc).1;have h16:=Mk (iU l);rw[hv,jen]at h4;have e2:=jep List.length e;omega
  ·split at h
   ·cases h
   ·unfold upL at h
    cases hg:il (V l) (4:Int).toNat with
    | none=>rw[hg]at h;cases h
    | some i =>
     rw[hg]at h;have hi:=(rh hg).1;simp only[jfu,Option.some.injEq]at h;subst h;have:=iw (nx ((V l).getD i (0,0)).1);have:=rJ (rs:=iU l) i;rw[← hv]at this;have h4:(4:Int).toNat=4:=rfl;simp only[jem,jeq];omega
 ·cases h
theorem jbI{x:Cl}(hf:aT x){cl:Bool}(hc:cl=true->eT x=true):(nX x cl).2.2.length<=16:=by
 unfold nX;by_cases h:x.1=3/\cl=false
 ·rw[jei h];simp
 ·rw[jeh h]
  show (nb _).length<=16
  rw[pe];cases cl with
  | true=>exact UM (hc rfl)
  | false =>
   have hx:x.1≠3:=λe=>h ⟨e,rfl⟩
   have h2:x.2.2=[]:=by
    rcases hf with rfl | ⟨n,rfl,_⟩ | ⟨n,rfl,_⟩ | ⟨s,rfl,_,_⟩
    ·rfl
    ·rfl
    ·rfl
    ·exact absurd rfl hx
   have:=qf (lb (am x.2.2)) 4;rw[cL,bi,h2]at this;rw[h2];simp only[jeL]at this;omega
theorem Yy{x:Cl}(hf:aT x){cl:Bool}:(gI x cl).1.2.2.length<=16:=by
 unfold gI;by_cases h:x.1=3
 ·rw[jei h]
  cases ha:gT (lb (am x.2.2)) 4 with
  | none=>exact je6 _
  | some a =>
   cases cl
   ·exact je6 _
   ·show (nb a).length<=16
    rw[pe];refine UN ha ?_;rw[cL];exact hf.short
 ·rw[jeh h]
  show x.2.2.length<=16
  rcases hf with rfl | ⟨n,rfl,_⟩ | ⟨n,rfl,_⟩ | ⟨s,rfl,_,_⟩
  ·exact je6 _
  ·exact je6 _
  ·exact je6 _
  ·exact absurd rfl h
theorem UO{cs:List Cl}(hf:∀ c∈cs,aT c):(cA cs).lo.2.2.length<=16/\(cA cs).hi.2.2.length<=16:=by
 have MC:∀ c∈aZ cs,aT c:=λc hc=>hf c (by unfold aZ at hc;exact(jf6.1 hc).1)
 unfold cA;cases hn:aZ cs with
 | nil=>exact⟨je6 _,je6 _⟩
 | cons y r =>
  rw[hn]at MC;have hy:=MC y (by simp);have hr:∀ c∈r,aT c:=λc hc=>MC c (by simp[hc])
  refine⟨jbI (mh hy hr) (λcZ=>?_),Yy (nW hy hr)⟩;rw[List.all_eq_true]at cZ;exact mh (P:=λc=>eT c=true) (cZ y (by simp)) (λc hc=>cZ c (by simp[hc]))
theorem Ml{c:Cl}(h:aT c)(h16:c.2.2.length<=16):(gJ c).length<=17:=by
 unfold gJ;split
 ·rcases h with rfl | ⟨n,rfl,h1⟩ | ⟨n,rfl,h1⟩ | ⟨s,rfl,h1,h2⟩<;>first | (have:=fC h1;unfold wv at this;simp only;omega) | (simp_all [nul])
 ·split
  ·simp
  ·rw[jem,uvL1 (by omega)]
   omega
theorem UP{cs:List Cl}(hf:∀ c∈cs,aT c)(hl:cs.length<=64):(eD (cA cs)).length<=37:=by
 obtain⟨a1,a2⟩:=kJ hf;obtain⟨b1,b2⟩:=UO hf;have c1:=Ml a1 b1;have c2:=Ml a2 b2;obtain⟨n,hn,Mt⟩:=lw cs;have hu:=uvL1 (n:=n) (by omega);unfold eD;rw[hn,jeQ];simp only[jem,jeS];split<;>split<;>(try simp only[jeL])<;>omega
theorem KA{fs:List Fd}{p:List Row}(hl:p.length<=64)(ec:∀ k,k<fs.length->Col (mj fs k) (cY p k)):∀{k:Nat},k<=fs.length->(eU fs p k).length<=(5+67*p.length)*k:=by
 intro k;induction k with
 | zero=>exact λ_=>by simp[eU]
 | succ k ih =>
  intro hk;have h1:=ih (by omega);have h2:=Kz (ec k (by omega)) (by rw[dx];exact hl);rw[dx]at h2;rw[mo,jem,Nat.mul_succ];omega
theorem PW{fs:List Fd}{p:List Row}(h:jR fs p)(hl:p.length<=64)(ec:∀ k,k<fs.length->Col (mj fs k) (cY p k)):∀{k:Nat},k<=fs.length->(ftK fs p k).length<=40*k:=by
 intro k;induction k with
 | zero=>exact λ_=>by simp[ftK]
 | succ k ih =>
  intro hk;have h1:=ih (by omega);have h2:=(iB (ec k (by omega))).1;have h3:=UP (mt h k) (by rw[dx];exact hl);have h4:=uvL3 (n:=(ey (mj fs k) (cY p k)).length) (by omega);rw[nZ];simp only[jem];omega
theorem xX{fs:List Fd}{rs:List Row}{g:Nat}(jH:fs.length<=8)(gY:g<=64)(hk:∀ f∈fs,1<=f.2.2.1/\f.2.2.1<=3)(dq:jR fs rs):∀ j,(iD fs g rs j).length<=40*j+536*min (j*g) rs.length
 | 0=>by simp[iD]
 | j+1=>by
  have h0:=xX jH gY hk dq j;have kV:(prt g rs j).length<=64:=by rw[cm];omega
  have h1:=KA kV (λk kQ=>fq (dq.part g j) hk (by omega) kQ) (jek _);have h2:(5+67*(prt g rs j).length)*fs.length<=(5+67*(prt g rs j).length)*8:=jfm _ jH;rw[cm]at h1 h2;rw[tA,jem,jeZ,jfp];omega
theorem AF{fs:List Fd}{rs:List Row}{g:Nat}(jH:fs.length<=8)(gY:g<=64)(hk:∀ f∈fs,1<=f.2.2.1/\f.2.2.1<=3)(dq:jR fs rs):∀ j,(ftJ fs g rs j).length<=320*j
 | 0=>by simp[ftJ]
 | j+1=>by
  have h0:=AF jH gY hk dq j;have kV:(prt g rs j).length<=64:=by rw[cm];omega
  have h1:=PW (dq.part g j) kV (λk kQ=>fq (dq.part g j) hk (by omega) kQ) (jek _);rw[xH,jem];omega
theorem qx{id:Nat}{fs:List Fd}{rs:List Row}{g:Nat}(ho:∀ f∈fs,Okf f)(lM:id<4294967296)(hc:chk id fs=0)(nD:rs.length<=60)(eZ:1<=g)(gY:g<=64)(dq:jR fs rs):(bE (dy id fs rs g)).length<=65536:=by
 obtain⟨hz,jH,_⟩:=mU hc;have hk:=ip hc;have h1:=fQ ho (by omega) hz fs.length;rw[jes]at h1;have h2:=gH id (by omega);have h3:=gH fs.length (by omega);have h4:=gH rs.length (by omega);have h5:=gH g (by omega)
 have hn:nps g rs.length<=60:=by
  rcases jeM 60 (nps g rs.length)with h | h
  ·have:=(kN (j:=60) (show 0<g by omega)).1 h
   have:60*1<=60*g:=jfm _ eZ;omega
  ·exact h
 have h6:=xX jH gY hk dq (nps g rs.length);have h7:=AF jH gY hk dq (nps g rs.length)
 have h8:(iD fs g rs (nps g rs.length)).length<=34560:=by
  have:=Nat.min_le_right (nps g rs.length*g) rs.length;omega
 unfold bE dy mn gm dH;simp only[jem,jer,jeL,le4];omega
theorem Mm{fs:List Fd}:∀{rs:List Row},(∀ r∈rs,iO fs r=0)->kL fs rs=0
 | [],_=>rfl
 | x::t,h=>by
  unfold kL;rw[jei (h x (List.mem_cons_self ..))];exact Mm λr hr=>h r (jfB _ hr)
theorem FU{id:Nat}{fs:List Fd}{rs:List Row}{g:Nat}(hc:chk id fs=0)(eZ:1<=g)(gY:g<=64)(hl:rs.length<=256)(hf:jR fs rs):eb id fs rs (g:Int)=0:=by
 unfold eb;rw[jeh (by omega),jeh (by omega),jeh (by omega)];exact Mm λr hr=>(hf r hr).1
theorem sj{id:Nat}{fs:List Fd}{rs:List Row}{g:Nat}(ho:∀ f∈fs,Okf f)(lM:id<4294967296)(hc:chk id fs=0)(hl:rs.length<=60)(eZ:1<=g)(gY:g<=64)(hf:jR fs rs):bW id fs rs (g:Int)=(bE (dy id fs rs g),0):=by
 have h1:=FU (g:=g) hc eZ gY (show rs.length<=256 by omega) hf;have h2:=qx ho lM hc hl eZ gY hf;unfold bW;rw[h1,jeh (by simp),jeQ,jeh (by omega)]
theorem Cu{id:Nat}{fs:List Fd}{rs:List Row}{g:Nat}{b:List Nat}(ho:∀ f∈fs,Okf f)(lM:id<4294967296)(hfi:∀ r∈rs,∀ c∈r,aT c)(h:bW id fs rs (g:Int)=(b,0)) :
  jB b=.ok (id,fs,g,(List.range (nps g rs.length)).map λi=>grp fs (prt g rs i)):=by
 have hw:=h;unfold bW at h;by_cases h0:eb id fs rs (g:Int)≠0
 ·rw[jei h0]at h
  exact absurd (Prod.mk.inj h).2 h0
 rw[jeh h0]at h;obtain⟨hc,⟨eZ,gY⟩,hl,kT⟩:=lx (Decidable.not_not.1 h0);rw[jeQ]at h;by_cases hz:65536<(bE (dy id fs rs g)).length
 ·rw[jei hz]at h
  cases (Prod.mk.inj h).2
 rw[jeh hz]at h;obtain⟨rfl,_⟩:=Prod.mk.inj h;have hf:jR fs rs:=λr hr=>⟨mv kT r hr,hfi r hr⟩
 have jG:(gm id fs rs g).length<4294967296:=by
  have:=(rZ (g:=g) ho lM hc hl (by omega) (by omega) hf).1;omega
 unfold jB;rw[xG];simp only;have ht:(dy id fs rs g).take 3=[67,70,49]:=rfl;have hd:(dy id fs rs g).drop 3=mn id fs rs g:=rfl;rw[jei ht,hd,Ke lM ho hc hf hl (by omega) (by omega) jG];simp only;rw[Uw fs (by omega) rs,jei hw]
theorem UQ{w:World}(ht:Tab w){v fv:Value}{b:List Nat}{B fp id:Nat}{fs:List Fd}{gs:List Gr}{g:Nat}(hs:Sv w v (aF .u8 b))(h8:Bs b)(h:Fil w B fp id fv gs)(hf:Sf w fv fs)(ho:∀ f∈fs,Okf f)(lM:id<4294967296)
  (hr:∀ r∈bT gs,r.length<=1000/\∀ c∈r,aT c) (Dd:(bT gs).length<=1000) :
  Calls Tryz.prog 54 #[v,.pointer (some ⟨fp,0,none⟩),.int .i64 (g:Int)] w λe w'=>e=.returned (.bool (decide (bW id fs (bT gs) (g:Int)=(b,0))))/\Below w.heap.size w w':=by
 have HT:=ae ht;have HS:=ae hs;have HF:=ae hf;have h':=h;obtain⟨gv,xs,kh,hB,_,_⟩:=h';have Gz:=(Array.getElem?_eq_some_iff.1 kh).1;obtain⟨fa,fc,rfl,_,_⟩:=hf.form;obtain⟨ba,bc,rfl,_,_⟩:=hs.form1;rw[ap]at *
 have Bc:jgf (∀ U,Below w.heap.size w U->U.cell? ⟨fp,0,none⟩=some (.int .u32 (id:Int))/\U.cell? ⟨fp,1,none⟩=some (.slice fa fs.length fc)):=ae (λU hU=>by
  have hh:=(hU.block fp Gz).trans kh;constructor<;>(rw[ay hh];rfl))
 have HA:jgf (∀ U,Below w.heap.size w U->Calls Tryz.prog 23 #[.pointer (some ⟨fp,0,none⟩)] U λe w'=>∃ a c,e=.returned (.slice a (bT gs).length c)/\Rv w' (.slice a (bT gs).length c) (bT gs)/\Below w.heap.size w w'/\w'.cell? ⟨fp,0,none⟩=some (.int .u32 (id:Int))/\w'.cell? ⟨fp,1,none⟩=some (.slice fa fs.length fc)):=ae (λU hU=>by
  refine(AE (h.kept hU) (λr hh=>(hr r hh).1) (by omega)).mono ?_;rintro e w' ⟨⟨v,l,rfl,how,sR⟩,hb⟩;have aE:=ai hU hb;have uU:=how.rv;rw[sR]at uU;obtain⟨a,c,rfl,_⟩:=uU.form;exact⟨a,c,rfl,uU,aE,Bc.o _ aE⟩)
 have HW:jgf (∀ U ra rc,Below w.heap.size w U->Rv U (.slice ra (bT gs).length rc) (bT gs)->Calls Tryz.prog 12 #[.agg #[.int .u32 (id:Int),.slice fa fs.length fc],.slice ra (bT gs).length rc,.int .i64 (g:Int)] U λe w'=>∃ a c,e=.returned (.tuple #[.slice a (bW id fs (bT gs) (g:Int)).1.length c,.int .i64 ((bW id fs (bT gs) (g:Int)).2:Int)])/\Sv w' (.slice a (bW id fs (bT gs) (g:Int)).1.length c) (aF .u8 (bW id fs (bT gs) (g:Int)).1)/\Below w.heap.size w w'):=ae (λU ra rc hU uU=>by
  refine(oq (HT.o.kept hU) (HF.o.kept hU) uU ho lM (λr hh=>(hr r hh).2) (g:Int)).mono ?_;rintro e w' ⟨⟨v,rfl,how⟩,hb⟩;have gX:=how.sv;obtain⟨a,c,rfl,_,_⟩:=gX.form1;rw[ap]at *;exact⟨a,c,rfl,gX,ai hU hb⟩)
 have sO:jgf (Bs (bW id fs (bT gs) (g:Int)).1):=ae (by
  unfold bW;split
  ·exact λx hx=>by simp at hx
  ·next h0 =>
   split
   ·exact λx hx=>by simp at hx
   ·obtain⟨hc,⟨eZ,gY⟩,hl,kT⟩:=lx (Decidable.not_not.1 h0)
    rw[jeQ];exact(kO ho lM hc hl (by omega) (by omega) (λr hh=>⟨mv kT r hh,(hr r hh).2⟩)).2.seal)
 obtain⟨WM,hWM⟩:∃ WM,bW id fs (bT gs) (g:Int)=WM:=⟨_,rfl⟩;rw[hWM]at HW sO ⊢;obtain⟨D,hD⟩:∃ D,decide (WM=(b,0))=D:=⟨_,rfl⟩;rw[hD];obtain⟨wb,we⟩:=WM;simp only at HW sO;have HD:=ae hD;clear hD;have qD:=ae h8;clear hs hf h kh ho hr h8 hWM;obtain⟨c0,c1⟩:=Bc.o w (jej _ _);generalize (bT gs).length=n at *;go_enter Tryz.func54,Tryz.ntmps54
 go_wp2_with fail;refine wp_region_noPanic ?_
 go_region_law (first
  | (go_simp;go_at_call 23;refine(HA.o _ ?_).mono ?_;exact ar (jej w.heap.size w) _;rintro e w1 ⟨ra,rc,rfl,Wc,aH,d0,d1⟩;have Wd:=ae Wc;have aP:=ae aH;clear Wc aH;dsimp only)
  | (go_simp;go_at_call 12;refine(HW.o _ _ _ ?_ ?_).mono ?_;(first | exact aP.o | exact ar aP.o _);(first | exact Wd.o | exact Wd.o.kept (ar (jej w1.heap.size w1) _));rintro e w2 ⟨a2,cc2,rfl,dR,aE⟩;have gj:=ae dR;have aN:=ae aE;clear dR aE;dsimp only)
  | fail)
 all_goals refine NoPanic.normal ?_
 all_goals
  by_cases he:we=0
  ·have hez:(((we:Nat):Int)==0)=true:=by rw[he];rfl
   have CV:=ae (pf gj.o (HS.o.kept aN.o) sO.o qD.o)
   have zt:jgf (decide (wb=b)=D):=ae (by
    rw[← HD.o,he];by_cases yx:wb=b
    ·rw[yx];simp
    ·simp[yx])
   rw[zt.o]at CV;go_wp2_with fail;refine CV.o.mono ?_;rintro e w3 ⟨rfl,rfl⟩;go_wp2_with fail;go_ret
   exact⟨rfl,aN.o⟩
  ·have hez:(((we:Nat):Int)==0)=false:=by simpa using he
   have zt:jgf (D=false):=ae (by rw[← HD.o];simp[he]);go_wp2_with fail;go_ret
   exact⟨by rw[zt.o];rfl,aN.o⟩
def ZT(w:World)(b:List Nat)(e:Ending)(w':World):Prop :=
 ((∃ c,jB b=.error c/\e=.returned (.tuple #[.pointer none,.int .i64 (c:Int)])) ∨
  ∃ id fs g gs fp fv,jB b=.ok (id,fs,g,gs)/\e=.returned (.tuple #[.pointer (some ⟨fp,0,none⟩),.int .i64 0])/\Fil w' w.heap.size fp id fv gs/\ea w' w.heap.size fv fs)/\Below w.heap.size w w'
theorem mX{b t:List Nat}(h:eC b=some t)(h8:Bs b):Bs t/\t.length<=b.length:=by
 unfold eC at h;split at h
 ·cases h
  exact⟨h8.take _,by rw[jeq];omega⟩
 ·cases h
theorem pre3(t:List Nat):([67,70,49]:List Nat).isPrefixOf t=true↔t.take 3=[67,70,49]:=by
 constructor
 ·intro h
  obtain⟨r,rfl⟩:=jfy.1 h;rfl
 ·intro h
  exact jfy.2 ⟨t.drop 3,by rw[← h,jfF]⟩
theorem qy{w:World}(ht:Tab w){v:Value}{b:List Nat}(hs:Sv w v (aF .u8 b))(h8:Bs b)(hl:b.length<=80000000) :
  Calls Tryz.prog 17 #[v] w (ZT w b):=by
 have HT:=ae ht;have HS:=ae hs;have H8:=ae h8;have HO:=ae (Ua ht hs.toK h8 (by omega));obtain⟨a,cap,rfl,_,_⟩:=hs.form1;rw[ap]at *
 have HE:jgf (jB b=match eC b with
  | none=>.error 101
  | some t=>if t.take 3=[67,70,49] then (match iW (t.drop 3)with
    | none=>.error 102
    | some x=>if bW x.1 x.2.1 (bT x.2.2.2) x.2.2.1=(b,0) then .ok x else .error 102) else .error 100):=ae rfl
 have yo:=ae (λt (h:eC b=some t)=>mX h h8);unfold ZT;generalize jB b=OF at *;clear ht hs h8;cases Dp:eC b with
 | none =>
  rw[Dp]at HE HO;clear Dp yo;go_enter Tryz.func17,Tryz.ntmps17
  go_wp2_with fail;refine HO.o.mono ?_;rintro e w1 ⟨⟨v1,rfl,o1⟩,aH⟩;have aP:=ae aH;clear o1 aH;simp only[Option.isSome];go_wp2_with fail;go_ret2
  exact⟨.inl ⟨101,HE.o,rfl⟩,aP.o⟩
 | some t =>
  obtain⟨t8,tl⟩:=yo.o t Dp;rw[Dp]at HE HO;simp only at HE;clear Dp yo;have T8:=ae t8;go_enter Tryz.func17,Tryz.ntmps17
  go_wp2_with fail;refine HO.o.mono ?_;rintro e w1 ⟨⟨v1,rfl,o1⟩,aH⟩;simp only[Option.isSome,Option.getD]at *;have aP:=ae aH;have eO:=ae o1;obtain⟨a1,cap1,rfl,_,_⟩:=be o1;have gX:=o1.sv;have zm:=o1.lt;have HWI:jgf (∀ i,(Value.slice a1 t.length cap1).ownBlock=some i->i<w1.heap.size):=ae (λi hi=>(zm i hi).2);have aE:=cF w1 (.cells #[.int .u8 67,.int .u8 70,.int .u8 49] 5 (3,4));have yf:fT (w1.alloc (.cells #[.int .u8 67,.int .u8 70,.int .u8 49] 5 (3,4))) w1.heap.size (.slice (some ⟨w1.heap.size,0,none⟩) 3 3) [67,70,49]:=Or.inr ⟨rfl,_,rfl,jek _,jeK _ _⟩;have VZ:=ae (Fx (gX.kept aE) yf.sv t8 (by intro x hx;simp at hx;omega));have aN:=ae (ai aP.o aE);have HTB2:=ae (HT.o.kept aN.o);have gj:=ae (HS.o.kept aN.o);have MB:jgf (∀ p,w1.heap.size<p->True):=ae (λ_ _=>trivial);have hsz2:w1.heap.size<=(w1.alloc (.cells #[.int .u8 67,.int .u8 70,.int .u8 49] 5 (3,4))).heap.size:=aE.size;have HSZ2:=ae hsz2
  have vL:(convert 30 30 (.slice (some ⟨w1.heap.size,0,none⟩) 3 3)).run Tryz.prog (w1.alloc (.cells #[.int .u8 67,.int .u8 70,.int .u8 49] 5))=.ok (.slice (some ⟨w1.heap.size,0,none⟩) 3 3) (w1.alloc (.cells #[.int .u8 67,.int .u8 70,.int .u8 49] 5 (3,4))) :=
   run_convert_bytes_const w1 30 5 #[.int .u8 67,.int .u8 70,.int .u8 49] 3 3 Tryz.underlying30 Tryz.underlying5
  clear aH o1 gX zm aE yf hsz2 t8 HO;go_wp2_with fail;refine VZ.o.mono ?_;rintro e w3 ⟨⟨v3,rfl,lB,hw3⟩,rfl⟩;generalize w1.alloc (.cells #[.int .u8 67,.int .u8 70,.int .u8 49] 5 (3,4))=W2 at *;have zv:jgf (ot W2.heap.size v3):=ae (hw3 W2.heap.size λi hi=>jeH (HWI.o i hi) HSZ2.o);clear hw3 VZ;by_cases hp:([67,70,49]:List Nat).isPrefixOf t=true
  ·have hp3:=(pre3 t).1 hp
   rw[jei hp]at lB;rw[jei hp3]at HE;rw[hp];have h38:Bs (t.drop 3):=λx hx=>T8.o x (jfS hx)
   have h3l:(t.drop 3).length<=80000000:=by rw[jeR];omega
   have HRD:=ae (Kx (b:=t.drop 3) lB h38 h3l zv.o);have HWH:=ae (λid g fs gs (h:iW (t.drop 3)=some (id,fs,g,gs))=>uK h38 h)
   obtain⟨va3,vn3,vc3,rfl⟩:∃ a n c,v3=.slice a n c:=by
    obtain⟨a,c,e,_⟩:=lB.form1;exact⟨_,_,_,e⟩
   clear hp hp3 lB h38 h3l;go_wp2_with fail;refine HRD.o.mono ?_;rintro e w4 ⟨⟨hrn,fp,g,rfl⟩ | ⟨id,fs,g,gs,fp,fv,hrs,rfl,vS,how⟩,bG⟩
   ·rw[hrn]at HE
    simp only at HE;have cp:=ae (ai aN.o bG);clear bG hrn HRD HWH;go_wp2_with fail;go_ret2
    exact⟨.inl ⟨102,HE.o,rfl⟩,cp.o⟩
   ·obtain⟨dN,lM,ho,eZ,gY,yh,ec,_⟩:=HWH.o _ _ _ _ hrs
    rw[hrs]at HE;simp only at HE;have jH:=(mU dN).2.1;have HSO:=ae (UQ (g:=g) (HTB2.o.kept bG) (gj.o.kept bG) H8.o vS how.sf ho lM (λr hr=>⟨by rw[(ec r hr).1];omega,(ec r hr).2⟩) (by omega));obtain⟨D,hD⟩:∃ D,decide (bW id fs (bT gs) (g:Int)=(b,0))=D:=⟨_,rfl⟩;rw[hD]at HSO;have HD:=ae hD;have cp:=ae (ai aN.o bG);have yr:=ae vS;have wo:=ae how;have KR:=aN.o.size;clear bG hrs HRD HWH dN lM ho eZ gY yh ec hD vS how jH;go_wp2_with fail;refine HSO.o.mono ?_;rintro e w5 ⟨rfl,bD⟩;have aQ:=ae (ai cp.o bD);have yz:=ae (yr.o.kept bD);have df:=ae (wo.o.kept bD);clear bD yr wo HSO;cases D with
    | true =>
     have hw:=of_decide_eq_true HD.o;rw[jei hw]at HE;clear hw HD;go_wp2_with fail;go_ret2
     exact⟨.inr ⟨id,fs,g,gs,fp,fv,HE.o,rfl,yz.o.low KR,df.o.low KR⟩,aQ.o⟩
    | false =>
     have hw:=of_decide_eq_false HD.o;rw[jeh hw]at HE;clear hw HD;go_wp2_with fail;go_ret2
     exact⟨.inl ⟨102,HE.o,rfl⟩,aQ.o⟩
  ·have QN:([67,70,49]:List Nat).isPrefixOf t=false:=Bool.eq_false_iff.2 hp
   rw[jeh (λe=>hp ((pre3 t).2 e))]at HE;rw[QN];clear hp QN lB;go_wp2_with fail;go_ret2
   exact⟨.inl ⟨100,HE.o,rfl⟩,aN.o⟩
theorem xY{w:World}{B fp id:Nat}{fv:Value}{gs:List Gr}(h:Fil w B fp id fv gs)(Dd:(bT gs).length<=100000) :
  Calls Tryz.prog 20 #[.pointer (some ⟨fp,0,none⟩)] w λe w'=>e=.returned (.int .i64 ((bT gs).length:Int))/\Below w.heap.size w w':=by
 obtain⟨gv,xs,h1,h2,h3,h4⟩:=h;obtain⟨ga,gc,rfl,hgc,hgm⟩:=be h3;have c2:w.cell? ⟨fp,2,none⟩=some (.slice ga gs.length gc):=by rw[ay h1];rfl
 have HG:jgf (∀ k (hk:k<gs.length),∃ G R va vn vc,ga=some ⟨G,0,none⟩/\∀ W,Below w.heap.size w W->W.cell? ⟨G,k*2,none⟩=some (.slice (some ⟨R,0,none⟩) gs[k].1.length gs[k].1.length)/\W.cell? ⟨G,k*2+1,none⟩=some (.slice va vn vc)):=ae (λk hk=>by
  obtain⟨a,b,e1,e2,e3⟩:=h4 k hk;obtain⟨R,rfl,g1,g2,⟨va,vn,vc,rfl⟩,g4⟩:=e3.rows;obtain⟨G,rfl,_,hG,lK⟩:=iq h3 e1;obtain⟨_,e,_,_,ke⟩:=iq h3 e2;cases e
  exact⟨G,R,va,vn,vc,rfl,λW hb=>⟨(hb.cell (p:=⟨G,k*2,none⟩) hG).trans (by rw[jeU];exact lK),(hb.cell (p:=⟨G,k*2+1,none⟩) hG).trans (by rw[jeU k];exact ke)⟩⟩)
 have HT:=ae (λj=>fB gs j);have sC:=ae (λj (h:j<gs.length)=>mw h);have HTA:jgf (bT (gs.take gs.length)=bT gs):=ae (by rw[jes]);have QU:=ae Dd;clear h1 h2 h3 h4 Dd;go_enter Tryz.func20,Tryz.ntmps20
 go_wp2_with fail;go_loopw [3,11] (λa i wr=>∃ k:Nat,i=.int .i64 (k:Int)/\k<=gs.length/\a=.int .i64 ((bT (gs.take k)).length:Int)/\Below w.heap.size w wr) (λ_ i _=>gs.length-(intOf i).toNat)
 case atStart=>exact⟨0,rfl,by omega,rfl,jej _ _⟩
 case round =>
  obtain⟨k,rfl,hk,rfl,az⟩:=hrel;have HB:=ae az;clear az;by_cases aB:k<gs.length
  ·obtain⟨G,R,va,vn,vc,rfl,hcells⟩:=HG.o k aB
   obtain⟨ca,cb⟩:=hcells wr HB.o;have hlt':(k:Int)<(gs.length:Int):=(by omega);have nH:=ae (HB.o.alloc HB.o.size (.cells #[.slice (some ⟨R,0,none⟩) gs[k].1.length gs[k].1.length,.slice va vn vc] 109));obtain⟨cg,_⟩:=bx wr (.slice (some ⟨R,0,none⟩) gs[k].1.length gs[k].1.length) (.slice va vn vc) 109;have We:=jep List.length (sC.o k aB);have oF:=HT.o (k+1);have htt:=QU.o;rw[jem]at We;have KW:IntKind.i64.wrap (((bT (gs.take k)).length:Int)+(gs[k].1.length:Int))=((bT (gs.take (k+1))).length:Int):=by rw[jeV];omega
   have Lq:=ae (show ((bT (gs.take (k+1))).length:Int)=((bT (gs.take (k+1))).length:Int) from rfl);clear We oF htt hcells;go_wp2_with fail;go_roundw
   case rel=>exact⟨k+1,by go_num,by omega,rfl,nH.o⟩
   case measure=>simp[intOf];omega
  ·obtain rfl:k=gs.length:=by omega
   have gi:¬ ((gs.length:Nat):Int)<(gs.length:Int):=(by omega);have HTE:jgf ((bT (gs.take gs.length)).length=(bT gs).length):=ae (jep List.length HTA.o);go_wp2_with fail;go_ret
   exact⟨by rw[← HTE.o];rfl,HB.o⟩
def Cv(l:List Fd)(j:Nat):Nat:=match l[j]? with
 | none=>0
 | some f=>f.2.2.1
def fvM(op:Nat)(c:Cl)(k:Nat):Int:=if op=5 then (if c.1=0 then 0 else 90) else if c.1=0 then 10 else if c.1≠k then 10 else if op=4/\k≠3 then 10 else 0
def KB(c:Cl):Int:=flt (c.1:Int) c.2.1 (am c.2.2)
def ffM(l:List Fd)(op f:Nat)(c:Cl)(n:Nat):Int:=if 0<n then 90 else match iV l f with
 | none=>81
 | some j=>if KB c=0 then fvM op c (Cv l j) else if KB c=1 then 90 else KB c
def fkM(op f:Nat)(c:Cl)(n:Nat):Int:=if f≠0 then 90 else if ¬ (c.1=0/\c.2.1=0/\(am c.2.2).toList.isEmpty=true) then 90 else if op=8/\n≠1 then 90 else 0
def ov(l:List Fd)(op f:Nat)(c:Cl)(n:Nat):Int:=if 1<=op/\op<=5 then ffM l op f c n else if 6<=op/\op<=8 then fkM op f c n else 90
 mutual
def mY(l:List Fd):PT->Int
 | .node op f c ks=>if ov l op f c ks.length≠0 then ov l op f c ks.length else firstAll l ks
def firstAll(l:List Fd):List PT->Int
 | []=>0
 | k::ks=>if mY l k≠0 then mY l k else firstAll l ks
 end
theorem Cw{l:List Fd}{ks:List PT}:firstAll l (ks.drop ks.length)=0:=by rw[jfg];simp only[firstAll]
theorem tK{w:World}{b off op f:Nat}{c:Cl}{kv:Value}(hn:gU w b off op f c kv)(k:Nat):Calls Tryz.prog 218 #[.pointer (some ⟨b,off,none⟩),.int .u8 (k:Int)] w λe w'=>e=.returned (.int .i64 (fvM op c k))/\Below w.heap.size w w':=by
 obtain⟨dL,x0,x1,x2,x3,x4,x5⟩:=hn;unfold fvM;by_cases h5:op=5
 ·subst h5
  rw[jei rfl];by_cases h0:c.1=0
  ·rw[jei h0]
   have h0':((c.1:Int)==0)=true:=by rw[h0];rfl
   clear h0;go_enter Tryz.func218,Tryz.ntmps218
   go_wp2_with fail;go_ret
   exact⟨rfl,jej _ _⟩
  ·rw[jeh h0]
   have h0':((c.1:Int)==0)=false:=jev.2 (by omega);clear h0;go_enter Tryz.func218,Tryz.ntmps218
   go_wp2_with fail;go_ret
   exact⟨rfl,jej _ _⟩
 ·rw[jeh h5]
  have n5:((op:Int)==5)=false:=jev.2 (by omega);clear h5;by_cases h0:c.1=0
  ·rw[jei h0]
   have h0':((c.1:Int)==0)=true:=by rw[h0];rfl
   clear h0;go_enter Tryz.func218,Tryz.ntmps218
   go_wp2_with fail;go_ret
   exact⟨rfl,jej _ _⟩
  ·rw[jeh h0]
   have h0':((c.1:Int)==0)=false:=jev.2 (by omega);clear h0;by_cases hk:c.1≠k
   ·rw[jei hk]
    have hk':((c.1:Int) != (k:Int))=true:=by simp;omega
    clear hk;go_enter Tryz.func218,Tryz.ntmps218
    go_wp2_with fail;go_ret
    exact⟨rfl,jej _ _⟩
   ·rw[jeh hk]
    have hk':((c.1:Int) != (k:Int))=false:=by simp;omega
    clear hk;by_cases h4:op=4
    ·subst h4
     by_cases h3:k=3
     ·subst h3
      rw[jeh (by simp)];go_enter Tryz.func218,Tryz.ntmps218
      go_wp2_with fail;go_ret
      exact⟨rfl,jej _ _⟩
     ·rw[jei ⟨rfl,h3⟩]
      have h3':((k:Int) != 3)=true:=by simp;omega
      clear h3;go_enter Tryz.func218,Tryz.ntmps218
      go_wp2_with fail;go_ret
      exact⟨rfl,jej _ _⟩
    ·rw[jeh (λh=>h4 h.1)]
     have h4':((op:Int)==4)=false:=jev.2 (by omega);clear h4;go_enter Tryz.func218,Tryz.ntmps218
     go_wp2_with fail;go_ret
     exact⟨rfl,jej _ _⟩
theorem tL{w:World}{b off op f si:Nat}{c:Cl}{a:Option Addr}{n cap:Nat}{fv:Value}{l:List Fd}(hn:gU w b off op f c (.slice a n cap))(hs:Sf w fv l)(iY:Okc c):Calls Tryz.prog 190 #[.pointer (some ⟨b,off,none⟩),.agg #[.int .u32 (si:Int),fv]] w λe w'=>e=.returned (.int .i64 (ffM l op f c n))/\Below w.heap.size w w':=by
 obtain⟨fa,fcap,rfl,hfc,WP⟩:=hs.form;have aH:=ak w (.cells #[.int .u32 (si:Int),.slice fa l.length fcap] 25);have aP:=ae aH;obtain⟨e0,e1⟩:=bx w (.int .u32 (si:Int)) (.slice fa l.length fcap) 25;have hz:w.heap.size<(w.alloc (.cells #[.int .u32 (si:Int),.slice fa l.length fcap] 25)).heap.size:=by rw[jel];omega
 have HS:=ae (hs.kept aH);have HN:=ae (hn.kept aH);have HO:=ae iY;generalize hA:w.alloc (.cells #[.int .u32 (si:Int),.slice fa l.length fcap] 25)=A at *;clear aH hs hn iY;obtain⟨dL,x0,x1,x2,x3,x4,x5⟩:=HN.o
 have HD:jgf (ffM l op f c n=if 0<n then 90 else match iV l f with
  | none=>81
  | some j=>if KB c=0 then fvM op c (Cv l j) else if KB c=1 then 90 else KB c):=ae rfl
 generalize ffM l op f c n=R at *;by_cases qI:0<n
 ·rw[jei qI]at HD
  have hn0':(0:Int)<(n:Int):=by omega
  clear qI;go_enter Tryz.func190,Tryz.ntmps190
  go_wp2_with fail;go_ret
  rw[HD.o];exact⟨rfl,aP.o⟩
 ·rw[jeh qI]at HD
  obtain rfl:n=0:=by omega
  clear qI;have sL:=ae (λ(U:World) (hU:Below A.heap.size A U)=>tk (HS.o.kept hU) si f);have hr0:∀ s:bQ (λx=>Below A.heap.size A x),s.w.cell? ⟨w.heap.size,0,none⟩=some (.int .u32 (si:Int)):=λs=>(s.ok.cell (p:=⟨w.heap.size,0,none⟩) hz).trans e0
  have Bh:∀ s:bQ (λx=>Below A.heap.size A x),s.w.cell? ⟨w.heap.size,1,none⟩=some (.slice fa l.length fcap):=λs=>(s.ok.cell (p:=⟨w.heap.size,1,none⟩) hz).trans e1
  have CK:∀ s:bQ (λx=>Below A.heap.size A x),s.w.cell? ⟨b,off+1,none⟩=some (.int .u32 (f:Int)):=λs=>(s.ok.cell (p:=⟨b,off+1,none⟩) dL).trans x1
  haveI:Nonempty (bQ (λx=>Below A.heap.size A x)):=⟨bQ.mk A (jej _ _)⟩
  go_enter Tryz.func190,Tryz.ntmps190
  go_wp2_with fail;refine cz (S:=λx=>Below A.heap.size A x) (by kernel_rfl) (by kernel_rfl) (by first | exact(jej _ _).drew | (rw[hA];exact(jej _ _).drew)) ?_;repeat (go_big_quiet_step ((go_at_call 193;exact(sL.o _ (bQ.ok _)).mono (λe w' h=>⟨h.1,bQ.mk w' (ai (bQ.ok _) h.2),rfl⟩))))
  refine wpQuiet_nil ?_;rintro _ ⟨s2,rfl⟩;obtain⟨w2,pR⟩:∃ x,x=s2.w:=⟨_,rfl⟩;have aE:=s2.ok;rw[← pR]at aE ⊢;have aN:=ae aE;have gj:=ae (HS.o.kept aE);have GA:=ae (HN.o.kept aE);have g0:=(aE.cell (p:=⟨w.heap.size,0,none⟩) hz).trans e0;have g1:=(aE.cell (p:=⟨w.heap.size,1,none⟩) hz).trans e1;have bv:=jeH hz aE.size;clear pR aE hr0 Bh CK x0 x1 x2 x3 x4 x5 HN HS e0 e1 hz hA dL;obtain⟨dL,x0,x1,x2,x3,x4,x5⟩:=GA.o;cases hp:iV l f with
  | none =>
   rw[hp]at HD;simp only[Option.isSome_none,Option.getD_none];clear hp;go_wp2_with fail;go_ret
   rw[HD.o];exact⟨rfl,ai aP.o aN.o⟩
  | some j =>
   rw[hp]at HD;have hj:=Ry hp;simp only[Option.isSome_some,Option.getD_some];clear hp;go_wp2_with fail;refine(TF HO.o _).mono ?_;rintro e w3 ⟨rfl,aS⟩;have bN:=ae (ai aN.o aS);have hN3:=GA.o.kept aS;have k0:=(aS.cell (p:=⟨w.heap.size,0,none⟩) bv).trans g0;have k1:=(aS.cell (p:=⟨w.heap.size,1,none⟩) bv).trans g1;obtain⟨gb,goff,rfl,QB,y0,y1,y2,y3⟩:=(gj.o.kept aS).at hj;clear aS x0 x1 x2 x3 x4 x5 g0 g1 bv dL;have HN3:=ae hN3;clear hN3;have HKA:jgf (Cv l j=l[j].2.2.1):=ae (by unfold Cv;rw[List.getElem?_eq_getElem hj]);have hj':(j:Int)<(l.length:Int):=(by omega);have HE:jgf (KB c=flt (c.1:Int) c.2.1 (am c.2.2)):=ae rfl;rw[HKA.o]at HD;generalize l[j].2.2.1=kd at *;obtain⟨fl,jH⟩:∃ fl,fl=flt (c.1:Int) c.2.1 (am c.2.2):=⟨_,rfl⟩;rw[← jH]at HE ⊢;rw[HE.o]at HD;clear jH HE HKA;by_cases h0:fl=0
   ·subst h0
    simp only[if_true]at HD;go_wp2_with fail;refine(tK HN3.o kd).mono ?_;rintro e w4 ⟨rfl,bG⟩;have cp:=ae (ai bN.o bG);clear bG;go_wp2_with fail;go_ret
    rw[HD.o];exact⟨rfl,ai aP.o cp.o⟩
   ·have h0':(fl==0)=false:=jev.2 h0
    simp only[jeh h0]at HD;by_cases h1:fl=1
    ·subst h1
     simp only[if_true]at HD;clear h0;go_wp2_with fail;go_ret
     rw[HD.o];exact⟨rfl,ai aP.o bN.o⟩
    ·have h1':(fl==1)=false:=jev.2 h1
     simp only[jeh h1]at HD;clear h0 h1;go_wp2_with fail;go_ret
     rw[HD.o];exact⟨rfl,ai aP.o bN.o⟩
def FV(w:World)(t:PT)(m d:Nat)(e:Ending)(w':World):Prop:=(∃ n:Int,e=.returned (.int .i64 n)/\-1<=n/\n<100/\(∀ op f c,t=.node op f c []->0<m->0<d->n=(m:Int)-1))/\w'=w
def PX(w:World)(l:List Fd)(t:PT)(e:Ending)(w':World):Prop:=(∃ n:Int,e=.returned (.int .i64 n)/\(∀ op f c,t=.node op f c []->n=mY l t))/\Below w.heap.size w w'
def sId:ByteArray:=⟨#[105,100]⟩
def ZU:ByteArray:=⟨#[110,97,109,101]⟩
def fI:List Fd:=[(1,sId,1,true),(2,ZU,3,false)]
def rA1:Row:=[(1,1,[]),(3,0,[97])]
def rA2:Row:=[(1,2,[]),(0,0,[])]
def rA:List Row:=[rA1,rA2]
def pA:PT:=.node 1 1 (1,2,[]) []
theorem Yz:chk 1 fI=0:=by decide +kernel
theorem fitA1:iO fI rA1=0:=by decide +kernel
theorem fitA2:iO fI rA2=0:=by decide +kernel
theorem Mn{n:Int}(h:I64 n):aT (1,n,[]):=Or.inr (Or.inl ⟨n,rfl,h⟩)
theorem YA:aT (3,0,[97]):=Or.inr (Or.inr (Or.inr ⟨[97],rfl,by decide,λx hx=>by simp at hx;omega⟩))
theorem YB:aT (0,0,[]):=Or.inl rfl
theorem jbJ:∀ c∈rA1,aT c:=λc hc=>by
 rcases jeC.1 hc with rfl | hc
 ·exact Mn ⟨by omega,by omega⟩
 ·obtain rfl:c=(3,0,[97]):=by simpa using hc
  exact YA
theorem Cx:∀ c∈rA2,aT c:=λc hc=>by
 rcases jeC.1 hc with rfl | hc
 ·exact Mn ⟨by omega,by omega⟩
 ·obtain rfl:c=(0,0,[]):=by simpa using hc
  exact YB
theorem pP:jR fI rA:=λr hr=>by
 rcases jeC.1 hr with rfl | hr
 ·exact⟨fitA1,jbJ⟩
 ·obtain rfl:r=rA2:=by simpa using hr
  exact⟨fitA2,Cx⟩
theorem okA:∀ f∈fI,Okf f:=λf hf=>by
 rcases jeC.1 hf with rfl | hf
 ·exact⟨by decide,by decide⟩
 ·obtain rfl:f=(2,ZU,3,false):=by simpa using hf
  exact⟨by decide,by decide⟩
def bA:List Nat:=bE (dy 1 fI rA 1)
theorem UR:bW 1 fI rA (1:Int)=(bA,0):=sj (g:=1) okA (by omega) Yz (by decide) (by omega) (by omega) pP
theorem ZV:jB bA=.ok (1,fI,1,[grp fI [rA1],grp fI [rA2]]):=Cu (g:=1) okA (by omega) (λr hr=>(pP r hr).2) UR
theorem bsA:Bs bA:=(kO okA (by omega) Yz (by decide) (by omega) (by omega) pP).2.seal
theorem jbK:5<bA.length/\bA.length<=70000:=by
 constructor
 ·unfold bA
  rw[jh];unfold dy mn;simp only[jem,jer,jeL,le4];omega
 ·have:=qx okA (by omega) Yz (show rA.length<=60 by decide) (by omega) (show 1<=64 by omega) pP
  unfold bA;omega
theorem turnA:jB (bA.set 5 (bA[5]'jbK.1 ^^^ 1))=.error 101:=by
 have h:=Cb (b:=dy 1 fI rA 1) (j:=5) (y:=1) (kO okA (by omega) Yz (by decide) (by omega) (by omega) pP).2 jbK.1 (by omega) (by omega);unfold jB;have e:eC (bA.set 5 (bA[5]'jbK.1 ^^^ 1))=none:=h;rw[e]
theorem jbL:mY fI pA=0:=by decide +kernel
theorem mayA1:jbq (pq fI (grp fI [rA1]).2 pA) 2=false:=by decide +kernel
theorem mayA2:jbq (pq fI (grp fI [rA2]).2 pA) 2=true:=by decide +kernel
theorem jbM:jA fI rA2 pA=2:=by decide +kernel
theorem YC{W:World}{q:Nat}{x y a b:Value}{t:TypeId}(h:W.heap[q]?=some (.cells #[x,y] t (0,0))):((W.setCell ⟨q,0,none⟩ a).setCell ⟨q,1,none⟩ b).heap[q]?=some (.cells #[a,b] t (0,0)):=by
 have h1:(W.setCell ⟨q,0,none⟩ a).heap[q]?=some (.cells #[a,y] t (0,0)):=by rw[cU h];rfl
 rw[cU h1];rfl
theorem Cy{w:World}{B fp id:Nat}{fv:Value}{gs:List Gr}{fs:List Fd}(h:Fil w B fp id fv gs)(hf:Sf w fv fs)(hl:fs.length<=1000) :
  Calls Tryz.prog 19 #[.pointer (some ⟨fp,0,none⟩)] w λe w'=>(∃ v,e=.returned (.agg #[.int .u32 (id:Int),v])/\ea w' w.heap.size v fs)/\Below w.heap.size w w':=by
 obtain⟨gv,xs,h1,_,_,_⟩:=h;have Gz:=(Array.getElem?_eq_some_iff.1 h1).1;obtain⟨fa,fc,rfl,_,_⟩:=hf.form;have aH:=ak w (.cells #[.int .u32 0,.slice none 0 0] 25);have hq:=jeK w (.cells #[.int .u32 0,.slice none 0 0] 25);have hz:(w.alloc (.cells #[.int .u32 0,.slice none 0 0] 25)).heap.size=w.heap.size+1:=jel _ _;generalize hA:w.alloc (.cells #[.int .u32 0,.slice none 0 0] 25)=A at *
 have HT:jgf (∀ U,Below A.heap.size A U->U.cell? ⟨fp,0,none⟩=some (.int .u32 (id:Int))/\U.cell? ⟨fp,1,none⟩=some (.slice fa fs.length fc)):=ae (λU hU=>by
  have hfU:=(hU.block fp (by omega)).trans ((aH.block fp Gz).trans h1);exact⟨by rw[ay hfU];rfl,by rw[ay hfU];rfl⟩)
 have HQ:jgf (∀ U,Below A.heap.size A U->U.heap[w.heap.size]?=some (.cells #[.int .u32 0,.slice none 0 0] 25 (0,0))):=ae (λU hU=>(hU.block w.heap.size (by omega)).trans hq)
 have pQ:jgf (∀ U,Below A.heap.size A U->Calls Tryz.prog 55 #[.slice fa fs.length fc] U λe w'=>∃ a c,e=.returned (.slice a fs.length c)/\ea w' A.heap.size (.slice a fs.length c) fs/\Below A.heap.size A w'/\w'.frozen? ⟨w.heap.size,0,none⟩=false/\w'.frozen? ⟨w.heap.size,1,none⟩=false/\w'.cell? ⟨w.heap.size,0,none⟩=some (.int .u32 0)/\w'.cell? ⟨w.heap.size,1,none⟩=some (.slice none 0 0)):=ae (λU hU=>by
  refine(JN (hf.kept (aH.trans (hU.mono aH.size))|>.kept (jej _ _)) hl).mono ?_;rintro e w' ⟨⟨v,rfl,ho⟩,hb⟩;have hbU:=ai hU hb;have hqU:=HQ.o _ hbU;obtain⟨a,c,rfl,_,_⟩:=be ho;exact⟨a,c,rfl,ho.low hU.size,hbU,by simp[World.frozen?,hqU],by simp[World.frozen?,hqU],by rw[ay hqU];rfl,by rw[ay hqU];rfl⟩)
 have aP:=ae aH;have HZ:=ae hz;clear h1 hf aH hq hz;obtain⟨c0,c1⟩:=HT.o A (jej _ _);go_enter Tryz.func19,Tryz.ntmps19
 go_wp2_with fail;try rw[hA]
 clear hA;refine wp_region_noPanic ?_
 go_region_law (first
  | (go_simp;go_at_call 55;refine(pQ.o _ ?_).mono ?_;exact ar (jej A.heap.size A) _;rintro e w5 ⟨a5,c5,rfl,fD,bD,fr0,fr1,q0,q1⟩;obtain⟨d0,d1⟩:=HT.o w5 bD;have aQ:=ae bD;have df:=ae fD;clear bD fD;dsimp only)
  | fail)
 all_goals refine NoPanic.normal ?_
 all_goals go_wp2_with fail
 all_goals
  have iS:=YC (a:=.int .u32 (id:Int)) (b:=.slice a5 fs.length c5) (HQ.o w5 aQ.o)
  have AU:ea ((w5.setCell ⟨w.heap.size,0,none⟩ (.int .u32 (id:Int))).setCell ⟨w.heap.size,1,none⟩ (.slice a5 fs.length c5)) A.heap.size (.slice a5 fs.length c5) fs:=bX df.o λk hk=>by
   have kQ:=(aM df.o hk).1;have bv:=HZ.o;rw[Below.heap_setCell _ _ _ _ (by show k≠w.heap.size;omega),Below.heap_setCell _ _ _ _ (by show k≠w.heap.size;omega)]
  have dW:=((aP.o.trans (aQ.o.mono aP.o.size)).setCell (p:=⟨w.heap.size,0,none⟩) (jek _) (.int .u32 (id:Int))).setCell (p:=⟨w.heap.size,1,none⟩) (jek _) (.slice a5 fs.length c5);have t0:((w5.setCell ⟨w.heap.size,0,none⟩ (.int .u32 (id:Int))).setCell ⟨w.heap.size,1,none⟩ (.slice a5 fs.length c5)).cell? ⟨w.heap.size,0,none⟩=some (.int .u32 (id:Int)):=by rw[ay iS];rfl
  have t1:((w5.setCell ⟨w.heap.size,0,none⟩ (.int .u32 (id:Int))).setCell ⟨w.heap.size,1,none⟩ (.slice a5 fs.length c5)).cell? ⟨w.heap.size,1,none⟩=some (.slice a5 fs.length c5):=by rw[ay iS];rfl
  generalize (w5.setCell ⟨w.heap.size,0,none⟩ (.int .u32 (id:Int))).setCell ⟨w.heap.size,1,none⟩ (.slice a5 fs.length c5)=FW at *;have Zs:w.heap.size<=A.heap.size:=by have:=HZ.o;omega
  refine bodyPost_ret (v:=.agg #[.int .u32 (id:Int),.slice a5 fs.length c5]) (by simp[results,Tryz.results19,go_sem,t0,t1]) rfl ⟨⟨_,rfl,AU.low Zs⟩,dW⟩
theorem PY(w:World):Calls Tryz.prog 35 #[] w λe w'=>(∃ v',e=.returned (.agg #[.int .u32 1,v'])/\ea w' w.heap.size v' fI)/\Below w.heap.size w w':=by
 have HL:jgf (∀ W:World,ea (W.alloc (.cells #[.int .u32 1,.string ⟨#[105,100]⟩,.int .u8 1,.bool true,.int .u32 2,.string ⟨#[110,97,109,101]⟩,.int .u8 3,.bool false] 81)) W.heap.size (.slice (some ⟨W.heap.size,0,none⟩) 2 2) fI):=ae (λW=>ql W fI (by unfold maxLen;decide));have aH:=ak w (.cells #[.int .u32 0,.slice none 0 0] 25);have jG:(w.alloc (.cells #[.int .u32 0,.slice none 0 0] 25)).heap.size=w.heap.size+1:=jel _ _;have qG:=ae jG;clear jG;go_enter Tryz.func35,Tryz.ntmps35
 go_wp2;refine bodyPost_ret (v:=.agg #[.int .u32 1,.slice (some ⟨w.heap.size+1,0,none⟩) 2 2]) (by simp[results,Tryz.results35,go_sem]) rfl ?_;refine⟨⟨_,rfl,?_⟩,?_⟩
 ·have h:=HL.o (w.alloc (.cells #[.int .u32 1,.slice (some ⟨w.heap.size+1,0,none⟩) 2 2] 25))
  rw[jel]at h;exact h.low (by omega)
 ·exact((jej _ _).alloc (jek _) _).alloc (by rw[jel];omega) _
end Go.Proofs.YtpljdjmpamjkhaaGreatDoor
