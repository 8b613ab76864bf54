import Derived.Test.YtpljdjmpamjkhaaGreatDoorWav
set_option linter.unusedVariables false
set_option linter.unusedSimpArgs false
set_option maxRecDepth 100000
set_option maxHeartbeats 4000000
namespace Go.Proofs.YtpljdjmpamjkhaaGreatDoor
open Go.RowKit Go.Lib
theorem uD{b:List Nat}(h:spl b=none):im b=none:=by
 unfold spl at h;unfold im;split
 ·rfl
 ·next h4 =>
  rw[Yx h4]at h;split
  ·rfl
  ·next h5 =>
   rw[Yx h5]at h;cases h
theorem Ki{b c f:List Nat}(h:spl b=some (c,f)):im b=match cw f with
  | .error _=>none
  | .ok ((id,fs),r)=>if (fR fs c r).2.2.2=true then none else some (id,fs,eY 1 64 (cN r),(fR fs c r).1):=by
 unfold spl at h;unfold im;split
 ·next h4 =>
  rw[Yy h4]at h;cases h
 ·next h4 =>
  rw[Yx h4]at h;split
  ·next h5 =>
   rw[Yy h5]at h;cases h
  ·next h5 =>
   rw[Yx h5]at h;simp only[Option.some.injEq,Prod.mk.injEq]at h;obtain⟨rfl,rfl⟩:=h;rfl
theorem Wi{b c f:List Nat}(h:spl b=some (c,f))(h8:Bs b):Bs c/\Bs f/\c.length<=b.length/\f.length<=b.length:=by
 unfold spl at h;split at h
 ·cases h
 ·split at h
  ·cases h
  ·simp only[Option.some.injEq,Prod.mk.injEq]at h
   obtain⟨rfl,rfl⟩:=h;refine⟨h8.take _,(h8.take _).drop _,by rw[YH];omega,by rw[Zf,YH];omega⟩
def NeR{α : Type}(m:List Nat->Except Nat (α×List Nat)):Prop:=∀ b c,m b=.error c->c≠0
theorem NeR.bind{α β : Type}{m:List Nat->Except Nat (α×List Nat)}{k:α->List Nat->Except Nat (β×List Nat)}(h:NeR m)(hk:∀ x,NeR (k x)):NeR (ap m k):=by
 intro b c e;cases hm:m b with
 | error d =>
  rw[bQ hm]at e;cases e
  exact h b _ hm
 | ok q =>
  obtain⟨x,s⟩:=q;rw[ct hm]at e;exact hk x s c e
theorem NeR.num(n:Nat):NeR (fY n):=by
 intro b c e;unfold fY at e;split at e
 ·next h=>cases e;exact h
 ·split at e
  ·cases e;decide
  ·cases e
theorem NeR.textR(n:Nat):NeR (textR n):=by
 intro b c e;unfold Go.Proofs.YtpljdjmpamjkhaaGreatDoor.textR at e;split at e
 ·cases e;decide
 ·cases e
theorem NeR.fld:NeR su:=(NeR.num _).bind fun i=>((NeR.num _).bind fun n=>NeR.textR n).bind fun s=>(NeR.num _).bind fun k=>(NeR.num _).bind fun n=>fun b c e=>by cases e
theorem NeR.flds:∀ n,NeR (jP n)
 | 0=>fun b c e=>by cases e
 | n+1=>(NeR.flds n).bind fun l=>NeR.fld.bind fun f=>fun b c e=>by cases e
theorem EN:NeR cw :=
 ((NeR.num _).bind fun i=>(NeR.num _).bind fun n=>(NeR.flds n).bind fun l=>fun b c e=>by cases e).bind fun s=>by
  intro b c e;simp only at e;split at e
  ·cases e
  ·next h=>cases e;exact h
def BsR{α : Type}(m:List Nat->Except Nat (α×List Nat)):Prop:=∀ b x r,m b=.ok (x,r)->Bs b->Bs r
theorem BsR.bind{α β : Type}{m:List Nat->Except Nat (α×List Nat)}{k:α->List Nat->Except Nat (β×List Nat)}(h:BsR m)(hk:∀ x,BsR (k x)):BsR (ap m k):=by
 intro b y r e hb;cases hm:m b with
 | error c=>rw[bQ hm]at e;cases e
 | ok q =>
  obtain⟨x,s⟩:=q;rw[ct hm]at e;exact hk x s y r e (h b x s hm hb)
theorem BsR.pure{α : Type}(x:α):BsR (fun b=>.ok (x,b)):=fun b y r e hb=>by cases e;exact hb
theorem BsR.num(n:Nat):BsR (fY n):=by
 intro b x r e hb;unfold fY at e;split at e
 ·cases e
 ·split at e
  ·cases e
  ·cases e;exact hb.drop _
theorem BsR.textR(n:Nat):BsR (textR n):=by
 intro b x r e hb;unfold Go.Proofs.YtpljdjmpamjkhaaGreatDoor.textR at e;split at e
 ·cases e
 ·cases e;exact hb.drop _
theorem BsR.fld:BsR su:=(BsR.num _).bind fun i=>((BsR.num _).bind fun n=>BsR.textR n).bind fun s=>(BsR.num _).bind fun k=>(BsR.num _).bind fun n=>BsR.pure _
theorem BsR.flds:∀ n,BsR (jP n)
 | 0=>BsR.pure _
 | n+1=>(BsR.flds n).bind fun l=>BsR.fld.bind fun f=>BsR.pure _
theorem EO:BsR cw :=
 ((BsR.num _).bind fun i=>(BsR.num _).bind fun n=>(BsR.flds n).bind fun l=>BsR.pure _).bind fun s=>by
  intro b x r e hb;simp only at e;split at e
  ·cases e;exact hb
  ·cases e
theorem EP(f:List Nat):(∃ c,cw f=.error c/\c≠0/\vJ f=(0,[],[],c))∨∃ id fs r,cw f=.ok ((id,fs),r)/\vJ f=(id,fs,r,0):=by
 unfold vJ;cases h:cw f with
 | error c=>exact .inl ⟨c,rfl,EN f c h,rfl⟩
 | ok q =>
  obtain⟨⟨id,fs⟩,r⟩:=q;exact .inr ⟨id,fs,r,rfl,rfl⟩
theorem EQ{w:World}{v:Value}{b:List Nat}(hs:Sv w v (az .u8 b))(h8:Bs b)(hl:b.length<=80000000)(hw:mb w.heap.size v) :
  Calls Tryz.prog 53 #[v] w fun e w'=>((im b=none/\∃ fp g,e=.returned (.tuple #[.pointer fp,.int .i64 g,.bool false])) ∨
   ∃ id fs g gs fp fv,im b=some (id,fs,g,gs)/\e=.returned (.tuple #[.pointer (some ⟨fp,0,none⟩),.int .i64 ((g:Nat):Int),.bool true])/\Fil w' w.heap.size fp id fv gs/\de w' w.heap.size fv fs)/\Below w.heap.size w w':=by
 have Yl:=ae (JY hs h8 (by omega) hw);obtain⟨va,vc,rfl,_,_⟩:=hs.form1;rw[am]at *;cases hsp:spl b with
 | none =>
  have HN:=ae (uD hsp);rw[hsp]at Yl;clear hs h8 hsp;go_enter Tryz.func53,Tryz.ntmps53
  go_wp2_with fail;refine Yl.o.mono ?_;rintro e w1 ⟨⟨v1,v2,rfl,_⟩,aA⟩;have aN:=ae aA;clear aA;go_wp2_with fail;go_ret3
  exact⟨.inl ⟨HN.o,_,_,rfl⟩,aN.o⟩
 | some cf =>
  obtain⟨c,f⟩:=cf;have nw:=ae (Ki hsp);obtain⟨q1,q2,q3,q4⟩:=Wi hsp h8;rw[hsp]at Yl;have HC:=ae (EP f);have HQ1:=ae q1;have HQ2:=ae q2;have HUN:=ae (fun(U:World) (v2:Value) (hU:Sv U v2 (az .u8 f))=>EM hU q2 (by omega));generalize vJ f=R at *;obtain⟨R1,R2,R3',R4⟩:=R;clear hs h8 hsp q1 q2;go_enter Tryz.func53,Tryz.ntmps53
  go_wp2_with fail;refine Yl.o.mono ?_;rintro e w1 ⟨⟨v1,v2,rfl,fV⟩,aA⟩;obtain⟨s1,s2,s3,s4⟩:=fV c f rfl;have aN:=ae aA;have gI:=ae s1;have zl:=ae s3;have HU2:=ae (HUN.o w1 v2 s2);clear aA fV s1 s2 s3 s4 HUN;go_wp2_with fail;refine HU2.o.mono ?_;rintro e w2 ⟨⟨fv,u,rfl,Lt,hou⟩,ay⟩;have hB2:=ag aN.o ay;obtain⟨a1,k1,e1,_,_⟩:=gI.o.form1;obtain⟨a2,k2,e2,_,_⟩:=hou.sv.form1;obtain⟨a3,k3,e3,_,_⟩:=Lt.sf.form;rw[am]at e1 e2;subst e1 e2 e3;simp only at *;rcases HC.o with ⟨er,Vg,hu2,Ww⟩ | ⟨id,fs,r,Vg,Ww⟩
  ·have HN:jaH (im b=none):=ae (by rw[nw.o,Vg])
   obtain⟨rfl,rfl,rfl,rfl⟩:R1=0/\R2=[]/\R3'=[]/\R4=er:=by simpa using Ww
   have fb:((R4:Int) != 0)=true:=by
    have:(R4:Int)≠0:=by omega
    simpa using this
   have aK:=ae hB2;clear Vg hu2 Ww Lt hou ay hB2 nw HC;go_wp2_with fail;go_ret3
   exact⟨.inl ⟨HN.o,_,_,rfl⟩,ag aK.o (aj _ _)⟩
  ·obtain⟨rfl,rfl,rfl,rfl⟩:R1=id/\R2=fs/\R3'=r/\R4=0:=by simpa using Ww
   have hBr:=EO f _ _ Vg HQ2.o;obtain⟨KX,_,_⟩:=rX Vg;have XX:=ae (fS KX);obtain⟨_,_,hf8,_⟩:=ow KX;have HE:jaH (im b=if (fR R2 c R3').2.2.2=true then none else some (R1,R2,eY 1 64 (cN R3'),(fR R2 c R3').1)):=ae (by rw[nw.o,Vg]);have hbA:=aj w2 (.cells #[.int .u32 (R1:Int),.slice a3 R2.length k3] 25);have hbB:=aj (w2.alloc (.cells #[.int .u32 (R1:Int),.slice a3 R2.length k3] 25)) (.cells #[.slice a1 c.length k1,.slice a2 R3'.length k2,.bool false] 157);have hAB:=ag hbA hbB;have sA:(w2.alloc (.cells #[.int .u32 (R1:Int),.slice a3 R2.length k3] 25)).heap.size=w2.heap.size+1:=YB _ _;have hx:=Zb (w2.alloc (.cells #[.int .u32 (R1:Int),.slice a3 R2.length k3] 25)) (.cells #[.slice a1 c.length k1,.slice a2 R3'.length k2,.bool false] 157);rw[sA]at hx;have hw12:w.heap.size<=w2.heap.size:=hB2.size;have hfb:∀ i,(Value.slice a3 R2.length k3).ownBlock=some i->i<w2.heap.size+1:=fun i hi=>by have:=(aE Lt hi).2.1;omega
   have hR3:R3 ((w2.alloc (.cells #[.int .u32 (R1:Int),.slice a3 R2.length k3] 25)).alloc (.cells #[.slice a1 c.length k1,.slice a2 R3'.length k2,.bool false] 157)) (w2.heap.size+1) c R3' false :=
    ⟨a1,k1,a2,k2,hx,⟨(gI.o.kept ay).kept hAB,fun i hi=>by have:=zl.o i hi;omega,HQ1.o⟩,hou.sv.kept hAB,fun i hi=>by have:=(aE hou hi).2.1;omega,hBr⟩
   have zk:=ae (EF hR3 (Lt.sf.kept hAB) hfb XX.o R1 hf8 (by omega));have jb:=ae (ag hB2 hAB);have yW:=ae (Lt.kept hAB);have Yp:=ae hfb;have Rz:=ae hw12;have kj:jaH (((w2.alloc (.cells #[.int .u32 (R1:Int),.slice a3 R2.length k3] 25)).alloc (.cells #[.slice a1 c.length k1,.slice a2 R3'.length k2,.bool false] 157)).heap.size=w2.heap.size+2):=ae (by rw[YB,YB]);have HS01:=ae aN.o.size;clear Vg Ww Lt hou ay hB2 nw HC hBr KX hbA hbB hAB sA hx hR3 hfb;go_wp2_with fail;generalize (w2.alloc (.cells #[.int .u32 (R1:Int),.slice a3 R2.length k3] 25)).alloc (.cells #[.slice a1 c.length k1,.slice a2 R3'.length k2,.bool false] 157)=W4 at *;refine zk.o.mono ?_;rintro e w4 ⟨fp,rfl,⟨c',f',Vb⟩,sV,no⟩;have Qz:jaH (Below w.heap.size w w4):=ae (jb.o.trans (no.below (by omega) (by have:=kj.o;omega)))
   have HOE:jaH (de w4 w.heap.size (.slice a3 R2.length k3) R2):=ae (by
    have h1:de w4 w1.heap.size (.slice a3 R2.length k3) R2:=bF yW.o fun k hk=>no.block k (by have:=Yp.o k hk;have:=kj.o;omega) (by have:=Yp.o k hk;omega)
    exact⟨h1.1,h1.2.imp (fun x=>x) fun⟨g,cap,cur,hv,hb,r⟩=>⟨g,cap,cur,hv,YG HS01.o hb,r⟩⟩)
   have uZ:jaH ((fR R2 c R3').2.2.2=false->Fil w4 w.heap.size fp R1 (.slice a3 R2.length k3) (fR R2 c R3').1):=ae (fun h=>(sV h).low (by have:=kj.o;omega));obtain⟨_,_,_,_,⟨_,_,r2⟩,⟨_,_,r3⟩,_,_⟩:=Vb.cells;clear Vb sV no;cases hF:(fR R2 c R3').2.2.2
   ·rw[hF]at r2 HE uZ
    have HFL2:=ae (uZ.o rfl);have Xk:jaH (im b=some (R1,R2,eY 1 64 (cN R3'),(fR R2 c R3').1)):=ae (by rw[HE.o,Yx (by decide)]);clear hF HE uZ;go_wp2_with fail;go_quiet (fail)
    go_wp2_with fail;go_ret3
    exact⟨.inr ⟨_,_,_,_,_,_,Xk.o,rfl,HFL2.o.kept (ak (Yz _ _) _),HOE.o.kept (ak (Yz _ _) _)⟩,ak Qz.o _⟩
   ·rw[hF]at r2 HE
    have Xk:jaH (im b=none):=ae (by rw[HE.o,Yy rfl]);clear hF HE uZ;go_wp2_with fail;go_quiet (fail)
    go_wp2_with fail;go_ret3
    exact⟨.inl ⟨Xk.o,_,_,rfl⟩,ak Qz.o _⟩
theorem Gro.rows{W:World}{B:Nat}{a b:Value}{rows:List Row}{sts:List Stt}(h:Gro W B (.agg #[a,b]) rows sts) :
  ∃ R,a=.slice (some ⟨R,0,none⟩) rows.length rows.length/\B<=R/\R<W.heap.size/\(∃ va vn vc,b=.slice va vn vc)/\∀ i (h:i<rows.length),∃ rv,W.cell? ⟨R,i,none⟩=some rv/\OwnV W B rv rows[i]:=by
 obtain⟨R,rvs,vs,e,h1,h2,h3⟩:=h;simp only[Value.agg.injEq,Array.mk.injEq,List.cons.injEq,and_true]at e;obtain⟨rfl,rfl⟩:=e;obtain⟨b1,b2,_⟩:=aE h1 (k:=R) rfl;refine⟨R,rfl,b1,b2,du h3,fun i hi=>?_⟩;obtain⟨rv,e1,e2⟩:=h2 i hi;obtain⟨g,e,_,_,hc⟩:=eN h1 e1;cases e
 exact⟨rv,hc,e2⟩
theorem gR{gs:List Gr}{j:Nat}(h:j<gs.length):aZ (gs.take (j+1))=aZ (gs.take j)++gs[j].1:=by
 unfold aZ;rw[YP h,YX,jas];simp
theorem uE{gs:List Gr}{j:Nat}(h:j<gs.length){r:Row}(hr:r∈gs[j].1):r∈aZ gs:=by
 unfold aZ;exact List.mem_flatten.2 ⟨gs[j].1,YS.2 ⟨gs[j],YF h,rfl⟩,hr⟩
theorem cT(gs:List Gr)(j:Nat):(aZ (gs.take j)).length<=(aZ gs).length:=by
 have:aZ gs=aZ (gs.take j)++aZ (gs.drop j):=by
  unfold aZ;rw[← jas,← YX,ZZ]
 rw[this,YC];omega
theorem xn{w:World}{B fp id:Nat}{fv:Value}{gs:List Gr}(h:Fil w B fp id fv gs)(bg:∀ r∈aZ gs,r.length<=1000)(sW:(aZ gs).length<=100000) :
  Calls Tryz.prog 23 #[.pointer (some ⟨fp,0,none⟩)] w fun e w'=>(∃ v l,e=.returned v/\Ow w' w.heap.size v l/\l.map Prod.snd=aZ gs)/\Below w.heap.size w w':=by
 obtain⟨gv,xs,h1,h2,h3,h4⟩:=h;obtain⟨ga,gc,rfl,hgc,hgm⟩:=bf h3;have c2:w.cell? ⟨fp,2,none⟩=some (.slice ga gs.length gc):=by rw[an h1];rfl
 have HG:jaH (∀ k (hk:k<gs.length),∃ G R va vn vc,ga=some ⟨G,0,none⟩/\gs[k].1.length<=100000/\∀ W,Below w.heap.size w W->W.cell? ⟨G,k*2,none⟩=some (.slice (some ⟨R,0,none⟩) gs[k].1.length gs[k].1.length)/\W.cell? ⟨G,k*2+1,none⟩=some (.slice va vn vc) /\
   ∀ i (h:i<gs[k].1.length),∃ ra rc,W.cell? ⟨R,i,none⟩=some (.slice ra gs[k].1[i].length rc)/\gs[k].1[i].length<=1000/\Sv W (.slice ra gs[k].1[i].length rc) (aC gs[k].1[i])):=ae (fun k hk=>by
  obtain⟨a,b,e1,e2,e3⟩:=h4 k hk;obtain⟨R,rfl,g1,g2,⟨va,vn,vc,rfl⟩,g4⟩:=e3.rows;obtain⟨G,rfl,_,hG,jy⟩:=eN h3 e1;obtain⟨_,e,_,_,jH⟩:=eN h3 e2;cases e
  have hr:=gR hk;have vO:=cT gs (k+1);rw[hr,YC]at vO;refine⟨G,R,va,vn,vc,rfl,by omega,fun W hb=>⟨(hb.cell (p:=⟨G,k*2,none⟩) hG).trans (by rw[Zi];exact jy),(hb.cell (p:=⟨G,k*2+1,none⟩) hG).trans (by rw[Zi k];exact jH),fun i hi=>?_⟩⟩;obtain⟨rv,f1,f2⟩:=g4 i hi;have fs:=f2.sv;obtain⟨ra,rc,rfl,_,_⟩:=fs.form1;rw[ax]at *;exact⟨ra,rc,(hb.cell (p:=⟨R,i,none⟩) g2).trans f1,bg _ (uE hk (YF hi)),fs.kept hb⟩)
 have HT:=ae (fun j=>cT gs j);have sj:=ae (fun j (h:j<gs.length)=>gR h);have HTA:jaH (aZ (gs.take gs.length)=aZ gs):=ae (by rw[YK]);have HT0:jaH (aZ (gs.take 0)=[]):=ae rfl;have zg:=ae sW;clear h1 h2 h3 h4 bg sW;go_enter Tryz.func23,Tryz.ntmps23
 go_wp2_with fail;go_loopw [3,13] (fun a i wr=>∃(k:Nat) (l:List (Value×Row)),i=.int .i64 (k:Int)/\k<=gs.length/\Ow wr w.heap.size a l/\l.map Prod.snd=aZ (gs.take k)/\Below w.heap.size w wr) (fun _ i _=>gs.length-(intOf i).toNat)
 case atStart=>exact⟨0,[],rfl,by omega,Ow.nil _ _,HT0.o.symm,Yz _ _⟩
 case round =>
  obtain⟨k,l,rfl,hk,how,xC,ao⟩:=hrel;have HB:=ae ao;have HO:=ae how;have qg:=ae xC;obtain⟨la,lc,rfl,Qn,yV,_⟩:=how.form;clear ao how xC;by_cases ar:k<gs.length
  ·obtain⟨G,R,va,vn,vc,rfl,Ve,hcells⟩:=HG.o k ar
   obtain⟨ca,cb,_⟩:=hcells wr HB.o;have HC:=ae hcells;have hlt':(k:Int)<(gs.length:Int):=(by omega);have hBW:Below w.heap.size w (wr.alloc (.cells #[.slice (some ⟨R,0,none⟩) gs[k].1.length gs[k].1.length,.slice va vn vc] 109)):=HB.o.alloc HB.o.size _;have jb:=ae hBW;obtain⟨cg,_⟩:=aR wr (.slice (some ⟨R,0,none⟩) gs[k].1.length gs[k].1.length) (.slice va vn vc) 109;have HCG:=ae cg;have hOW:=(HO.o.kept (aj wr (.cells #[.slice (some ⟨R,0,none⟩) gs[k].1.length gs[k].1.length,.slice va vn vc] 109)));have vU:=ae hOW;have QR:=ae (sj.o k ar);have HKL:=ae (HT.o (k+1));clear hcells hBW hOW cg;go_wp2_with fail;generalize wr.alloc (.cells #[.slice (some ⟨R,0,none⟩) gs[k].1.length gs[k].1.length,.slice va vn vc] 109)=WA at *
   have Xx:jaH (∀ m,(aZ (gs.take k)++gs[k].1.take m).length<=100000):=ae (fun m=>by
    have h1:=QR.o;have h2:=HKL.o;have h3:=zg.o;rw[h1,YC]at h2;rw[YC,YH];omega)
   clear HO ca cb;go_loopw [3,20] (fun a i wx=>∃(m:Nat) (l2:List (Value×Row)),i=.int .i64 (m:Int)/\m<=gs[k].1.length/\Ow wx w.heap.size a l2/\l2.map Prod.snd=aZ (gs.take k)++gs[k].1.take m/\Below w.heap.size w wx) (fun _ i _=>gs[k].1.length-(intOf i).toNat)
   case atStart=>exact⟨0,l,rfl,by omega,vU.o,by rw[List.take_zero,YZ];exact qg.o,jb.o⟩
   case round =>
    obtain⟨m,l2,rfl,hm,Xy,Xz,QS⟩:=hrel;have aK:=ae QS;have ec:=ae Xy;have Ck:=ae Xz;obtain⟨la2,lc2,rfl,hl12,hl22,_⟩:=Xy.form;have bh:=QS.size
    have hl2n:l2.length<=100000:=by
     have h1:=YE List.length Xz;have h2:=Xx.o m;rw[YD]at h1;omega
    clear QS Xy Xz;by_cases hmt:m<gs[k].1.length
    ·have hmt':(m:Int)<(gs[k].1.length:Int):=by omega
     obtain⟨_,_,hcr⟩:=HC.o _ aK.o;obtain⟨ra,rc,hrc,pS,UX⟩:=hcr m hmt;have qc:jaH (gs[k].1.take (m+1)=gs[k].1.take m++[gs[k].1[m]]):=ae (YP hmt);have mH:=ae (nO UX pS);generalize gs[k].1[m]=r at *;clear hcr UX;go_wp2_with fail;refine mH.o.mono ?_;rintro e w3 ⟨⟨v3,rfl,eR⟩,aO⟩;have WQ:=ae eR;have dx:=ae (ec.o.kept aO);have bT:=ae (aK.o.trans (aO.mono bh));have jE:=aO.size;obtain⟨ra',rc',rfl,_,_⟩:=bf eR;have jI:=ae (aX w3 (.slice ra' r.length rc') 79);clear aO eR mH ec;go_wp2_with (first | (at_builtin;refine fB rfl _ _ rfl w.heap.size _ _ l2 [(.slice ra' r.length rc',r)] rfl (dx.o.kept (aj _ _)) rfl (mF jI.o (by rw[YB];omega)) ?c1 ?c2 ?c3 ?_))
     case c1 =>
      intro x hx;rw[Zl.1 hx];exact(WQ.o.kept (aj _ _)).of_le (by omega)
     case c2=>simp only[Zj];omega
     case c3=>rw[YB];omega
     intro v' w5 o5 b5;have cQ:=ae o5;have aJ:=ae ((bT.o.alloc (by omega) _).trans b5);clear o5 b5;go_wp2_with fail;go_roundw
     case rel=>exact⟨m+1,_,by go_num,by omega,cQ.o,by rw[qc.o,YX,Ck.o,YR];rfl,aJ.o⟩
     case measure=>simp[intOf];omega
    ·obtain rfl:m=gs[k].1.length:=by omega
     have eO:¬ ((gs[k].1.length:Nat):Int)<(gs[k].1.length:Int):=(by omega);have Ul:jaH (l2.map Prod.snd=aZ (gs.take (k+1))):=ae (by rw[QR.o,Ck.o,YK]);go_wp2_with fail;go_roundw
     case rel=>exact⟨k+1,l2,by go_num,by omega,ec.o,Ul.o,aK.o⟩
     case measure=>simp[intOf];omega
  ·obtain rfl:k=gs.length:=by omega
   have eO:¬ ((gs.length:Nat):Int)<(gs.length:Int):=(by omega);have Ul:jaH (l.map Prod.snd=aZ gs):=ae (qg.o.trans HTA.o);go_wp2_with fail;go_ret
   first | exact⟨⟨_,_,rfl,HO.o,Ul.o⟩,HB.o⟩ | exact⟨⟨_,rfl,_,HO.o,Ul.o⟩,HB.o⟩
theorem pL{w:World}{B fp id:Nat}{fv:Value}{gs:List Gr}(h:Fil w B fp id fv gs) :
  Calls Tryz.prog 21 #[.pointer (some ⟨fp,0,none⟩)] w fun e w'=>e=.returned (.int .i64 (gs.length:Int))/\w'=w:=by
 obtain⟨gv,xs,h1,h2,h3,h4⟩:=h
 have hgv:∃ ga gc,gv=.slice ga gs.length gc:=by
  rcases h3.2 with ⟨e,e2⟩ | ⟨_,_,_,e,_⟩
  ·rw[e2];exact⟨_,_,e⟩
  ·exact⟨_,_,e⟩
 obtain⟨ga,gc,rfl⟩:=hgv;have c2:w.cell? ⟨fp,2,none⟩=some (.slice ga gs.length gc):=by rw[an h1];rfl
 clear h1 h2 h3 h4;go_enter Tryz.func21,Tryz.ntmps21
 go_wp2_with fail;go_ret
 exact⟨rfl,rfl⟩
theorem uvL1{n:Nat}(h:n<128):(uv n).length=1:=by rw[LK h];rfl
theorem uvL2{n:Nat}(h:n<16384):(uv n).length<=2:=by
 rw[nB];exact uvarint_length 1 n (by omega)
theorem uvL3{n:Nat}(h:n<2097152):(uv n).length<=3:=by
 rw[nB];exact uvarint_length 2 n (by omega)
theorem wvL2{x:Int}(h0:0<=x)(h:x<=64):(wv x).length<=2:=by
 unfold wv;refine uvL2 ?_;unfold zigzag;rw[Yy h0];omega
theorem BL:∀{l:List Int},(∀ x∈l,0<=x/\x<=64)->(gd l).length<=2*l.length
 | [],_=>by simp[gd]
 | x::t,h=>by
  have h1:=BL (l:=t) (fun y hy=>h y (ZX _ hy));have h2:=h x (List.mem_cons_self ..);have h3:=wvL2 h2.1 h2.2;simp only[gd,YC,YI];omega
theorem Pz(n:Nat):by8 n<=n:=by unfold by8;omega
theorem PA{l:List Int}(h:∀ x∈l,0<=x/\x<=64):(dm l).length<=2*l.length+1:=by
 have h1:=ml l 4 0 (by omega);have h2:=BL h;have:(jf 0 l).length=(gd l).length:=rfl;unfold dm;omega
theorem PB{l:List Int}(h:Is l):(dm l).length<=10*l.length+1:=by
 have h1:=ml l 4 0 (by omega);have h2:=(mn h).1;have:(jf 0 l).length=(gd l).length:=rfl;unfold dm;omega
theorem BM{l:List (List Nat)}(h:Ts l)(hm:l.length<=64):(fE l).length<=4+66*l.length:=by
 obtain⟨b1,_⟩:=mq h
 have h1:=PA (l:=gh l) (fun x hx=>by
  obtain⟨s,hs,rfl⟩:=YS.1 hx;have:=(h s hs).1;omega)
 rw[bK]at h1;have h2:=uvL2 (n:=(dm (gh l)).length) (by omega)
 have hp:(plain l).length<=4+66*l.length:=by
  unfold plain iw cnt;simp only[YI,YC];omega
 unfold fE;split<;>omega
theorem ER{l:List (Nat×Int×List Nat)}(hm:l.length<=256):(iD l).length<=1+l.length:=by
 unfold iD;split
 ·have hl:=dM (eg l) (by rw[aT];exact hm)
  rw[aT]at hl;have:=Pz l.length;rw[YI,hl];omega
 ·simp
theorem ES{k:Nat}{l:List Cl}(h:Col k l)(hm:l.length<=64):(dS k l).length<=5+67*l.length:=by
 obtain⟨hk,uS,hc⟩:=h;have ho:=ib l;have hh:=ER uS;unfold dS;rw[YC];obtain rfl | rfl | rfl:k=1∨k=2∨k=3:=by omega
 ·have b1:=PB (kz hc).1
  rw[YD]at b1;rw[yb];omega
 ·have hl:=dM (ic hc).1 (by rw[YD];omega)
  rw[YD]at hl;have:=Pz (bH l).length;rw[yc,hl];omega
 ·have hw:=BM (jj hc).1 (by rw[YD];omega)
  rw[YD]at hw;rw[yd];omega
theorem PC{l:List UInt8}(hc:cV l=true):(bC l 4).length<=16:=by
 unfold bC;rw[xE hc,YH];have:=pf (rs:=gE l) (4:Int).toNat;have h4:(4:Int).toNat=4:=rfl;omega
theorem Gj:∀ rs:List Nat,(kn rs).length<=4*rs.length
 | []=>by simp[kn]
 | r::t=>by
  have:=Gj t;have:=fX r;unfold kn at *;simp only[jaa,YC,YI];omega
theorem PD{l a:List UInt8}(h:fG l 4=some a)(hl:l.length<=64):a.length<=16:=by
 have h0:=h;rw[ud]at h;unfold di at h;split at h
 ·next hc =>
  have hv:=xE hc;split at h
  ·next h4 =>
   obtain rfl:=Option.some.inj h;have e:=(jZ _ l (YA _) hc).1;have h16:=Gj (gE l);rw[hv,YD]at h4;have e2:=YE List.length e;omega
  ·split at h
   ·cases h
   ·unfold upL at h
    cases hg:fP (V l) (4:Int).toNat with
    | none=>rw[hg]at h;cases h
    | some i =>
     rw[hg]at h;have hi:=(oQ hg).1;simp only[ZU,Option.some.injEq]at h;subst h;have:=fX (nx ((V l).getD i (0,0)).1);have:=pf (rs:=gE l) i;rw[← hv]at this;have h4:(4:Int).toNat=4:=rfl;simp only[YC,YH];omega
 ·cases h
theorem Wj{x:Cl}(hf:aI x){cl:Bool}(hc:cl=true->dT x=true):(lP x cl).2.2.length<=16:=by
 unfold lP;by_cases h:x.1=3/\cl=false
 ·rw[Yy h];simp
 ·rw[Yx h]
  show (nb _).length<=16
  rw[my];cases cl with
  | true=>exact PC (hc rfl)
  | false =>
   have hx:x.1≠3:=fun e=>h ⟨e,rfl⟩
   have h2:x.2.2=[]:=by
    rcases hf with rfl | ⟨n,rfl,_⟩ | ⟨n,rfl,_⟩ | ⟨s,rfl,_,_⟩
    ·rfl
    ·rfl
    ·rfl
    ·exact absurd rfl hx
   have:=nH (lb (ai x.2.2)) 4;rw[bX,bx,h2]at this;rw[h2];simp only[Zc]at this;omega
theorem Tr{x:Cl}(hf:aI x){cl:Bool}:(fo x cl).1.2.2.length<=16:=by
 unfold fo;by_cases h:x.1=3
 ·rw[Yy h]
  cases ha:fG (lb (ai x.2.2)) 4 with
  | none=>exact Zq _
  | some a =>
   cases cl
   ·exact Zq _
   ·show (nb a).length<=16
    rw[my];refine PD ha ?_;rw[bX];exact hf.short
 ·rw[Yx h]
  show x.2.2.length<=16
  rcases hf with rfl | ⟨n,rfl,_⟩ | ⟨n,rfl,_⟩ | ⟨s,rfl,_,_⟩
  ·exact Zq _
  ·exact Zq _
  ·exact Zq _
  ·exact absurd rfl h
theorem PE{cs:List Cl}(hf:∀ c∈cs,aI c):(bJ cs).lo.2.2.length<=16/\(bJ cs).hi.2.2.length<=16:=by
 have GA:∀ c∈aP cs,aI c:=fun c hc=>hf c (by unfold aP at hc;exact(jaz.1 hc).1)
 unfold bJ;cases hn:aP cs with
 | nil=>exact⟨Zq _,Zq _⟩
 | cons y r =>
  rw[hn]at GA;have hy:=GA y (by simp);have hr:∀ c∈r,aI c:=fun c hc=>GA c (by simp[hc])
  refine⟨Wj (kE hy hr) (fun cz=>?_),Tr (lO hy hr)⟩;rw[List.all_eq_true]at cz;exact kE (P:=fun c=>dT c=true) (cz y (by simp)) (fun c hc=>cz c (by simp[hc]))
theorem Gk{c:Cl}(h:aI c)(h16:c.2.2.length<=16):(iA c).length<=17:=by
 unfold iA;split
 ·rcases h with rfl | ⟨n,rfl,h1⟩ | ⟨n,rfl,h1⟩ | ⟨s,rfl,h1,h2⟩<;>first | (have:=gL h1;unfold wv at this;simp only;omega) | (simp_all [nul])
 ·split
  ·simp
  ·rw[YC,uvL1 (by omega)]
   omega
theorem PG{cs:List Cl}(hf:∀ c∈cs,aI c)(hl:cs.length<=64):(eS (bJ cs)).length<=37:=by
 obtain⟨a1,a2⟩:=kV hf;obtain⟨b1,b2⟩:=PE hf;have c1:=Gk a1 b1;have c2:=Gk a2 b2;obtain⟨n,hn,Kv⟩:=lW cs;have hu:=uvL1 (n:=n) (by omega);unfold eS;rw[hn,Ze];simp only[YC,Zj];split<;>split<;>(try simp only[Zc])<;>omega
theorem ET{fs:List Fd}{p:List Row}(hl:p.length<=64)(eZ:∀ k,k<fs.length->Col (lA fs k) (bq p k)):∀{k:Nat},k<=fs.length->(fq fs p k).length<=(5+67*p.length)*k:=by
 intro k;induction k with
 | zero=>exact fun _=>by simp[fq]
 | succ k ih =>
  intro hk;have h1:=ih (by omega);have h2:=ES (eZ k (by omega)) (by rw[bR];exact hl);rw[bR]at h2;rw[mz,YC,Nat.mul_succ];omega
theorem Kj{fs:List Fd}{p:List Row}(h:jv fs p)(hl:p.length<=64)(eZ:∀ k,k<fs.length->Col (lA fs k) (bq p k)):∀{k:Nat},k<=fs.length->(ftK fs p k).length<=40*k:=by
 intro k;induction k with
 | zero=>exact fun _=>by simp[ftK]
 | succ k ih =>
  intro hk;have h1:=ih (by omega);have h2:=(ie (eZ k (by omega))).1;have h3:=PG (iY h k) (by rw[bR];exact hl);have h4:=uvL3 (n:=(dS (lA fs k) (bq p k)).length) (by omega);rw[pi];simp only[YC];omega
theorem uF{fs:List Fd}{rs:List Row}{g:Nat}(ja:fs.length<=8)(gx:g<=64)(hk:∀ f∈fs,1<=f.2.2.1/\f.2.2.1<=3)(dK:jv fs rs):∀ j,(mN fs g rs j).length<=40*j+536*min (j*g) rs.length
 | 0=>by simp[mN]
 | j+1=>by
  have h0:=uF ja gx hk dK j;have mO:(prt g rs j).length<=64:=by rw[bZ];omega
  have h1:=ET mO (fun k jJ=>eE (dK.part g j) hk (by omega) jJ) (YA _);have h2:(5+67*(prt g rs j).length)*fs.length<=(5+67*(prt g rs j).length)*8:=ZT _ ja;rw[bZ]at h1 h2;rw[xd,YC,Zt,jad];omega
theorem xo{fs:List Fd}{rs:List Row}{g:Nat}(ja:fs.length<=8)(gx:g<=64)(hk:∀ f∈fs,1<=f.2.2.1/\f.2.2.1<=3)(dK:jv fs rs):∀ j,(ftJ fs g rs j).length<=320*j
 | 0=>by simp[ftJ]
 | j+1=>by
  have h0:=xo ja gx hk dK j;have mO:(prt g rs j).length<=64:=by rw[bZ];omega
  have h1:=Kj (dK.part g j) mO (fun k jJ=>eE (dK.part g j) hk (by omega) jJ) (YA _);rw[AC,YC];omega
theorem nZ{id:Nat}{fs:List Fd}{rs:List Row}{g:Nat}(ho:∀ f∈fs,Okf f)(nl:id<4294967296)(hc:chk id fs=0)(pS:rs.length<=60)(ew:1<=g)(gx:g<=64)(dK:jv fs rs):(br (dw id fs rs g)).length<=65536:=by
 obtain⟨hz,ja,_⟩:=mD hc;have hk:=fS hc;have h1:=gj ho (by omega) hz fs.length;rw[YK]at h1;have h2:=iF id (by omega);have h3:=iF fs.length (by omega);have h4:=iF rs.length (by omega);have h5:=iF g (by omega)
 have hn:nps g rs.length<=60:=by
  rcases Zd 60 (nps g rs.length)with h | h
  ·have:=(kh (j:=60) (show 0<g by omega)).1 h
   have:60*1<=60*g:=ZT _ ew;omega
  ·exact h
 have h6:=uF ja gx hk dK (nps g rs.length);have h7:=xo ja gx hk dK (nps g rs.length)
 have h8:(mN fs g rs (nps g rs.length)).length<=34560:=by
  have:=Nat.min_le_right (nps g rs.length*g) rs.length;omega
 unfold br dw kF il ep;simp only[YC,YI,Zc,le4];omega
theorem Gl{fs:List Fd}:∀{rs:List Row},(∀ r∈rs,gW fs r=0)->lS fs rs=0
 | [],_=>rfl
 | x::t,h=>by
  unfold lS;rw[Yy (h x (List.mem_cons_self ..))];exact Gl fun r hr=>h r (ZX _ hr)
theorem BN{id:Nat}{fs:List Fd}{rs:List Row}{g:Nat}(hc:chk id fs=0)(ew:1<=g)(gx:g<=64)(hl:rs.length<=256)(hf:jv fs rs):en id fs rs (g:Int)=0:=by
 unfold en;rw[Yx (by omega),Yx (by omega),Yx (by omega)];exact Gl fun r hr=>(hf r hr).1
theorem pM{id:Nat}{fs:List Fd}{rs:List Row}{g:Nat}(ho:∀ f∈fs,Okf f)(nl:id<4294967296)(hc:chk id fs=0)(hl:rs.length<=60)(ew:1<=g)(gx:g<=64)(hf:jv fs rs):dG id fs rs (g:Int)=(br (dw id fs rs g),0):=by
 have h1:=BN (g:=g) hc ew gx (show rs.length<=256 by omega) hf;have h2:=nZ ho nl hc hl ew gx hf;unfold dG;rw[h1,Yx (by simp),Ze,Yx (by omega)]
theorem pN{id:Nat}{fs:List Fd}{rs:List Row}{g:Nat}{b:List Nat}(ho:∀ f∈fs,Okf f)(nl:id<4294967296)(QT:∀ r∈rs,∀ c∈r,aI c)(h:dG id fs rs (g:Int)=(b,0)) :
  pn b=.ok (id,fs,g,(List.range (nps g rs.length)).map fun i=>grp fs (prt g rs i)):=by
 have hw:=h;unfold dG at h;by_cases h0:en id fs rs (g:Int)≠0
 ·rw[Yy h0]at h
  exact absurd (Prod.mk.inj h).2 h0
 rw[Yx h0]at h;obtain⟨hc,⟨ew,gx⟩,hl,kJ⟩:=lY (Decidable.not_not.1 h0);rw[Ze]at h;by_cases hz:65536<(br (dw id fs rs g)).length
 ·rw[Yy hz]at h
  cases (Prod.mk.inj h).2
 rw[Yx hz]at h;obtain⟨rfl,_⟩:=Prod.mk.inj h;have hf:jv fs rs:=fun r hr=>⟨pI kJ r hr,QT r hr⟩
 have ll:(il id fs rs g).length<4294967296:=by
  have:=(Bo (g:=g) ho nl hc hl (by omega) (by omega) hf).1;omega
 unfold pn;rw[Ea];simp only;have ht:(dw id fs rs g).take 3=[67,70,49]:=rfl;have hd:(dw id fs rs g).drop 3=kF id fs rs g:=rfl;rw[Yy ht,hd,Ew nl ho hc hf hl (by omega) (by omega) ll];simp only;rw[Bk fs (by omega) rs,Yy hw]
theorem PH{w:World}(ht:Tab w){v fv:Value}{b:List Nat}{B fp id:Nat}{fs:List Fd}{gs:List Gr}{g:Nat}(hs:Sv w v (az .u8 b))(h8:Bs b)(h:Fil w B fp id fv gs)(hf:Sf w fv fs)(ho:∀ f∈fs,Okf f)(nl:id<4294967296)
  (hr:∀ r∈aZ gs,r.length<=1000/\∀ c∈r,aI c) (sW:(aZ gs).length<=1000) :
  Calls Tryz.prog 54 #[v,.pointer (some ⟨fp,0,none⟩),.int .i64 (g:Int)] w fun e w'=>e=.returned (.bool (decide (dG id fs (aZ gs) (g:Int)=(b,0))))/\Below w.heap.size w w':=by
 have HT:=ae ht;have HS:=ae hs;have HF:=ae hf;have h':=h;obtain⟨gv,xs,kk,hB,_,_⟩:=h';have KY:=(Array.getElem?_eq_some_iff.1 kk).1;obtain⟨fa,fc,rfl,_,_⟩:=hf.form;obtain⟨ba,bc,rfl,_,_⟩:=hs.form1;rw[am]at *
 have Yk:jaH (∀ U,Below w.heap.size w U->U.cell? ⟨fp,0,none⟩=some (.int .u32 (id:Int))/\U.cell? ⟨fp,1,none⟩=some (.slice fa fs.length fc)):=ae (fun U hU=>by
  have hh:=(hU.block fp KY).trans kk;constructor<;>(rw[an hh];rfl))
 have HA:jaH (∀ U,Below w.heap.size w U->Calls Tryz.prog 23 #[.pointer (some ⟨fp,0,none⟩)] U fun e w'=>∃ a c,e=.returned (.slice a (aZ gs).length c)/\Rv w' (.slice a (aZ gs).length c) (aZ gs)/\Below w.heap.size w w'/\w'.cell? ⟨fp,0,none⟩=some (.int .u32 (id:Int))/\w'.cell? ⟨fp,1,none⟩=some (.slice fa fs.length fc)):=ae (fun U hU=>by
  refine(xn (h.kept hU) (fun r hh=>(hr r hh).1) (by omega)).mono ?_;rintro e w' ⟨⟨v,l,rfl,how,xC⟩,hb⟩;have ay:=ag hU hb;have oh:=how.rv;rw[xC]at oh;obtain⟨a,c,rfl,_⟩:=oh.form;exact⟨a,c,rfl,oh,ay,Yk.o _ ay⟩)
 have HW:jaH (∀ U ra rc,Below w.heap.size w U->Rv U (.slice ra (aZ gs).length rc) (aZ gs)->Calls Tryz.prog 12 #[.agg #[.int .u32 (id:Int),.slice fa fs.length fc],.slice ra (aZ gs).length rc,.int .i64 (g:Int)] U fun e w'=>∃ a c,e=.returned (.tuple #[.slice a (dG id fs (aZ gs) (g:Int)).1.length c,.int .i64 ((dG id fs (aZ gs) (g:Int)).2:Int)])/\Sv w' (.slice a (dG id fs (aZ gs) (g:Int)).1.length c) (az .u8 (dG id fs (aZ gs) (g:Int)).1)/\Below w.heap.size w w'):=ae (fun U ra rc hU oh=>by
  refine(lZ (HT.o.kept hU) (HF.o.kept hU) oh ho nl (fun r hh=>(hr r hh).2) (g:Int)).mono ?_;rintro e w' ⟨⟨v,rfl,how⟩,hb⟩;have fV:=how.sv;obtain⟨a,c,rfl,_,_⟩:=fV.form1;rw[am]at *;exact⟨a,c,rfl,fV,ag hU hb⟩)
 have Cg:jaH (Bs (dG id fs (aZ gs) (g:Int)).1):=ae (by
  unfold dG;split
  ·exact fun x hx=>by simp at hx
  ·next h0 =>
   split
   ·exact fun x hx=>by simp at hx
   ·obtain⟨hc,⟨ew,gx⟩,hl,kJ⟩:=lY (Decidable.not_not.1 h0)
    rw[Ze];exact(lX ho nl hc hl (by omega) (by omega) (fun r hh=>⟨pI kJ r hh,(hr r hh).2⟩)).2.seal)
 obtain⟨WM,hWM⟩:∃ WM,dG id fs (aZ gs) (g:Int)=WM:=⟨_,rfl⟩;rw[hWM]at HW Cg ⊢;obtain⟨D,hD⟩:∃ D,decide (WM=(b,0))=D:=⟨_,rfl⟩;rw[hD];obtain⟨wb,we⟩:=WM;simp only at HW Cg;have HD:=ae hD;clear hD;have uL:=ae h8;clear hs hf h kk ho hr h8 hWM;obtain⟨c0,c1⟩:=Yk.o w (Yz _ _);generalize (aZ gs).length=n at *;go_enter Tryz.func54,Tryz.ntmps54
 go_wp2_with fail;refine wp_region_noPanic ?_
 go_region_law (first
  | (go_simp;go_at_call 23;refine(HA.o _ ?_).mono ?_;exact ak (Yz w.heap.size w) _;rintro e w1 ⟨ra,rc,rfl,QU,aA,d0,d1⟩;have QV:=ae QU;have aN:=ae aA;clear QU aA;dsimp only)
  | (go_simp;go_at_call 12;refine(HW.o _ _ _ ?_ ?_).mono ?_;(first | exact aN.o | exact ak aN.o _);(first | exact QV.o | exact QV.o.kept (ak (Yz w1.heap.size w1) _));rintro e w2 ⟨a2,cc2,rfl,cP,ay⟩;have eP:=ae cP;have aK:=ae ay;clear cP ay;dsimp only)
  | fail)
 all_goals refine NoPanic.normal ?_
 all_goals
  by_cases he:we=0
  ·have hez:(((we:Nat):Int)==0)=true:=by rw[he];rfl
   have Ce:=ae (mA eP.o (HS.o.kept aK.o) Cg.o uL.o)
   have sU:jaH (decide (wb=b)=D):=ae (by
    rw[← HD.o,he];by_cases sd:wb=b
    ·rw[sd];simp
    ·simp[sd])
   rw[sU.o]at Ce;go_wp2_with fail;refine Ce.o.mono ?_;rintro e w3 ⟨rfl,rfl⟩;go_wp2_with fail;go_ret
   exact⟨rfl,aK.o⟩
  ·have hez:(((we:Nat):Int)==0)=false:=by simpa using he
   have sU:jaH (D=false):=ae (by rw[← HD.o];simp[he]);go_wp2_with fail;go_ret
   exact⟨by rw[sU.o];rfl,aK.o⟩
def Uy(w:World)(b:List Nat)(e:Ending)(w':World):Prop :=
 ((∃ c,pn b=.error c/\e=.returned (.tuple #[.pointer none,.int .i64 (c:Int)])) ∨
  ∃ id fs g gs fp fv,pn b=.ok (id,fs,g,gs)/\e=.returned (.tuple #[.pointer (some ⟨fp,0,none⟩),.int .i64 0])/\Fil w' w.heap.size fp id fv gs/\de w' w.heap.size fv fs)/\Below w.heap.size w w'
theorem EU{b t:List Nat}(h:ik b=some t)(h8:Bs b):Bs t/\t.length<=b.length:=by
 unfold ik at h;split at h
 ·cases h
  exact⟨h8.take _,by rw[YH];omega⟩
 ·cases h
theorem pre3(t:List Nat):([67,70,49]:List Nat).isPrefixOf t=true↔t.take 3=[67,70,49]:=by
 constructor
 ·intro h
  obtain⟨r,rfl⟩:=ZV.1 h;rfl
 ·intro h
  exact ZV.2 ⟨t.drop 3,by rw[← h,ZZ]⟩
theorem oa{w:World}(ht:Tab w){v:Value}{b:List Nat}(hs:Sv w v (az .u8 b))(h8:Bs b)(hl:b.length<=80000000) :
  Calls Tryz.prog 17 #[v] w (Uy w b):=by
 have HT:=ae ht;have HS:=ae hs;have H8:=ae h8;have HO:=ae (NO ht hs.toK h8 (by omega));obtain⟨a,cap,rfl,_,_⟩:=hs.form1;rw[am]at *
 have HE:jaH (pn b=match ik b with
  | none=>.error 101
  | some t=>if t.take 3=[67,70,49] then (match im (t.drop 3)with
    | none=>.error 102
    | some x=>if dG x.1 x.2.1 (aZ x.2.2.2) x.2.2.1=(b,0) then .ok x else .error 102) else .error 100):=ae rfl
 have xx:=ae (fun t (h:ik b=some t)=>EU h h8);unfold Uy;generalize pn b=OF at *;clear ht hs h8;cases hom:ik b with
 | none =>
  rw[hom]at HE HO;clear hom xx;go_enter Tryz.func17,Tryz.ntmps17
  go_wp2_with fail;refine HO.o.mono ?_;rintro e w1 ⟨⟨v1,rfl,o1⟩,aA⟩;have aN:=ae aA;clear o1 aA;simp only[Option.isSome];go_wp2_with fail;go_ret2
  exact⟨.inl ⟨101,HE.o,rfl⟩,aN.o⟩
 | some t =>
  obtain⟨t8,tl⟩:=xx.o t hom;rw[hom]at HE HO;simp only at HE;clear hom xx;have T8:=ae t8;go_enter Tryz.func17,Tryz.ntmps17
  go_wp2_with fail;refine HO.o.mono ?_;rintro e w1 ⟨⟨v1,rfl,o1⟩,aA⟩;simp only[Option.isSome,Option.getD]at *;have aN:=ae aA;have fK:=ae o1;obtain⟨a1,cap1,rfl,_,_⟩:=bf o1;have fV:=o1.sv;have vQ:=o1.lt;have HWI:jaH (∀ i,(Value.slice a1 t.length cap1).ownBlock=some i->i<w1.heap.size):=ae (fun i hi=>(vQ i hi).2);have ay:=dN w1 (.cells #[.int .u8 67,.int .u8 70,.int .u8 49] 5 (3,4));have QW:fJ (w1.alloc (.cells #[.int .u8 67,.int .u8 70,.int .u8 49] 5 (3,4))) w1.heap.size (.slice (some ⟨w1.heap.size,0,none⟩) 3 3) [67,70,49]:=Or.inr ⟨rfl,_,rfl,YA _,Zb _ _⟩;have QO:=ae (Br (fV.kept ay) QW.sv t8 (by intro x hx;simp at hx;omega));have aK:=ae (ag aN.o ay);have HTB2:=ae (HT.o.kept aK.o);have eP:=ae (HS.o.kept aK.o);have Gz:jaH (∀ p,w1.heap.size<p->True):=ae (fun _ _=>trivial);have hsz2:w1.heap.size<=(w1.alloc (.cells #[.int .u8 67,.int .u8 70,.int .u8 49] 5 (3,4))).heap.size:=ay.size;have HSZ2:=ae hsz2
  have Le:(convert 30 30 (.slice (some ⟨w1.heap.size,0,none⟩) 3 3)).run Tryz.prog (w1.alloc (.cells #[.int .u8 67,.int .u8 70,.int .u8 49] 5))=.ok (.slice (some ⟨w1.heap.size,0,none⟩) 3 3) (w1.alloc (.cells #[.int .u8 67,.int .u8 70,.int .u8 49] 5 (3,4))) :=
   run_convert_bytes_const w1 30 5 #[.int .u8 67,.int .u8 70,.int .u8 49] 3 3 Tryz.underlying30 Tryz.underlying5
  clear aA o1 fV vQ ay QW hsz2 t8 HO;go_wp2_with fail;refine QO.o.mono ?_;rintro e w3 ⟨⟨v3,rfl,jX,hw3⟩,rfl⟩;generalize w1.alloc (.cells #[.int .u8 67,.int .u8 70,.int .u8 49] 5 (3,4))=W2 at *;have zf:jaH (mb W2.heap.size v3):=ae (hw3 W2.heap.size fun i hi=>Za (HWI.o i hi) HSZ2.o);clear hw3 QO;by_cases hp:([67,70,49]:List Nat).isPrefixOf t=true
  ·have hp3:=(pre3 t).1 hp
   rw[Yy hp]at jX;rw[Yy hp3]at HE;rw[hp];have h38:Bs (t.drop 3):=fun x hx=>T8.o x (jav hx)
   have h3l:(t.drop 3).length<=80000000:=by rw[Zf];omega
   have Yf:=ae (EQ (b:=t.drop 3) jX h38 h3l zf.o);have HWH:=ae (fun id g fs gs (h:im (t.drop 3)=some (id,fs,g,gs))=>BE h38 h)
   obtain⟨va3,vn3,vc3,rfl⟩:∃ a n c,v3=.slice a n c:=by
    obtain⟨a,c,e,_⟩:=jX.form1;exact⟨_,_,_,e⟩
   clear hp hp3 jX h38 h3l;go_wp2_with fail;refine Yf.o.mono ?_;rintro e w4 ⟨⟨hrn,fp,g,rfl⟩ | ⟨id,fs,g,gs,fp,fv,UX,rfl,sV,how⟩,bm⟩
   ·rw[hrn]at HE
    simp only at HE;have cA:=ae (ag aK.o bm);clear bm hrn Yf HWH;go_wp2_with fail;go_ret2
    exact⟨.inl ⟨102,HE.o,rfl⟩,cA.o⟩
   ·obtain⟨ek,nl,ho,ew,gx,qa,eZ,_⟩:=HWH.o _ _ _ _ UX
    rw[UX]at HE;simp only at HE;have ja:=(mD ek).2.1;have HSO:=ae (PH (g:=g) (HTB2.o.kept bm) (eP.o.kept bm) H8.o sV how.sf ho nl (fun r hr=>⟨by rw[(eZ r hr).1];omega,(eZ r hr).2⟩) (by omega));obtain⟨D,hD⟩:∃ D,decide (dG id fs (aZ gs) (g:Int)=(b,0))=D:=⟨_,rfl⟩;rw[hD]at HSO;have HD:=ae hD;have cA:=ae (ag aK.o bm);have pX:=ae sV;have vU:=ae how;have Kx:=aK.o.size;clear bm UX Yf HWH ek nl ho ew gx qa eZ hD sV how ja;go_wp2_with fail;refine HSO.o.mono ?_;rintro e w5 ⟨rfl,bv⟩;have aJ:=ae (ag cA.o bv);have Gx:=ae (pX.o.kept bv);have cQ:=ae (vU.o.kept bv);clear bv pX vU HSO;cases D with
    | true =>
     have hw:=of_decide_eq_true HD.o;rw[Yy hw]at HE;clear hw HD;go_wp2_with fail;go_ret2
     exact⟨.inr ⟨id,fs,g,gs,fp,fv,HE.o,rfl,Gx.o.low Kx,cQ.o.low Kx⟩,aJ.o⟩
    | false =>
     have hw:=of_decide_eq_false HD.o;rw[Yx hw]at HE;clear hw HD;go_wp2_with fail;go_ret2
     exact⟨.inl ⟨102,HE.o,rfl⟩,aJ.o⟩
  ·have Xj:([67,70,49]:List Nat).isPrefixOf t=false:=Bool.eq_false_iff.2 hp
   rw[Yx (fun e=>hp ((pre3 t).2 e))]at HE;rw[Xj];clear hp Xj jX;go_wp2_with fail;go_ret2
   exact⟨.inl ⟨100,HE.o,rfl⟩,aK.o⟩
theorem uG{w:World}{B fp id:Nat}{fv:Value}{gs:List Gr}(h:Fil w B fp id fv gs)(sW:(aZ gs).length<=100000) :
  Calls Tryz.prog 20 #[.pointer (some ⟨fp,0,none⟩)] w fun e w'=>e=.returned (.int .i64 ((aZ gs).length:Int))/\Below w.heap.size w w':=by
 obtain⟨gv,xs,h1,h2,h3,h4⟩:=h;obtain⟨ga,gc,rfl,hgc,hgm⟩:=bf h3;have c2:w.cell? ⟨fp,2,none⟩=some (.slice ga gs.length gc):=by rw[an h1];rfl
 have HG:jaH (∀ k (hk:k<gs.length),∃ G R va vn vc,ga=some ⟨G,0,none⟩/\∀ W,Below w.heap.size w W->W.cell? ⟨G,k*2,none⟩=some (.slice (some ⟨R,0,none⟩) gs[k].1.length gs[k].1.length)/\W.cell? ⟨G,k*2+1,none⟩=some (.slice va vn vc)):=ae (fun k hk=>by
  obtain⟨a,b,e1,e2,e3⟩:=h4 k hk;obtain⟨R,rfl,g1,g2,⟨va,vn,vc,rfl⟩,g4⟩:=e3.rows;obtain⟨G,rfl,_,hG,jy⟩:=eN h3 e1;obtain⟨_,e,_,_,jH⟩:=eN h3 e2;cases e
  exact⟨G,R,va,vn,vc,rfl,fun W hb=>⟨(hb.cell (p:=⟨G,k*2,none⟩) hG).trans (by rw[Zi];exact jy),(hb.cell (p:=⟨G,k*2+1,none⟩) hG).trans (by rw[Zi k];exact jH)⟩⟩)
 have HT:=ae (fun j=>cT gs j);have sj:=ae (fun j (h:j<gs.length)=>gR h);have HTA:jaH (aZ (gs.take gs.length)=aZ gs):=ae (by rw[YK]);have zg:=ae sW;clear h1 h2 h3 h4 sW;go_enter Tryz.func20,Tryz.ntmps20
 go_wp2_with fail;go_loopw [3,11] (fun a i wr=>∃ k:Nat,i=.int .i64 (k:Int)/\k<=gs.length/\a=.int .i64 ((aZ (gs.take k)).length:Int)/\Below w.heap.size w wr) (fun _ i _=>gs.length-(intOf i).toNat)
 case atStart=>exact⟨0,rfl,by omega,rfl,Yz _ _⟩
 case round =>
  obtain⟨k,rfl,hk,rfl,ao⟩:=hrel;have HB:=ae ao;clear ao;by_cases ar:k<gs.length
  ·obtain⟨G,R,va,vn,vc,rfl,hcells⟩:=HG.o k ar
   obtain⟨ca,cb⟩:=hcells wr HB.o;have hlt':(k:Int)<(gs.length:Int):=(by omega);have jb:=ae (HB.o.alloc HB.o.size (.cells #[.slice (some ⟨R,0,none⟩) gs[k].1.length gs[k].1.length,.slice va vn vc] 109));obtain⟨cg,_⟩:=aR wr (.slice (some ⟨R,0,none⟩) gs[k].1.length gs[k].1.length) (.slice va vn vc) 109;have QX:=YE List.length (sj.o k ar);have te:=HT.o (k+1);have htt:=zg.o;rw[YC]at QX;have UJ:IntKind.i64.wrap (((aZ (gs.take k)).length:Int)+(gs[k].1.length:Int))=((aZ (gs.take (k+1))).length:Int):=by rw[Zy];omega
   have KL:=ae (show ((aZ (gs.take (k+1))).length:Int)=((aZ (gs.take (k+1))).length:Int) from rfl);clear QX te htt hcells;go_wp2_with fail;go_roundw
   case rel=>exact⟨k+1,by go_num,by omega,rfl,jb.o⟩
   case measure=>simp[intOf];omega
  ·obtain rfl:k=gs.length:=by omega
   have eO:¬ ((gs.length:Nat):Int)<(gs.length:Int):=(by omega);have HTE:jaH ((aZ (gs.take gs.length)).length=(aZ gs).length):=ae (YE List.length HTA.o);go_wp2_with fail;go_ret
   exact⟨by rw[← HTE.o];rfl,HB.o⟩
def yN(l:List Fd)(j:Nat):Nat:=match l[j]? with
 | none=>0
 | some f=>f.2.2.1
def fvM(op:Nat)(c:Cl)(k:Nat):Int:=if op=5 then (if c.1=0 then 0 else 90) else if c.1=0 then 10 else if c.1≠k then 10 else if op=4/\k≠3 then 10 else 0
def EV(c:Cl):Int:=flt (c.1:Int) c.2.1 (ai c.2.2)
def ffM(l:List Fd)(op f:Nat)(c:Cl)(n:Nat):Int:=if 0<n then 90 else match gF l f with
 | none=>81
 | some j=>if EV c=0 then fvM op c (yN l j) else if EV c=1 then 90 else EV c
def fkM(op f:Nat)(c:Cl)(n:Nat):Int:=if f≠0 then 90 else if ¬ (c.1=0/\c.2.1=0/\(ai c.2.2).toList.isEmpty=true) then 90 else if op=8/\n≠1 then 90 else 0
def mc(l:List Fd)(op f:Nat)(c:Cl)(n:Nat):Int:=if 1<=op/\op<=5 then ffM l op f c n else if 6<=op/\op<=8 then fkM op f c n else 90
 mutual
def li(l:List Fd):PT->Int
 | .node op f c ks=>if mc l op f c ks.length≠0 then mc l op f c ks.length else firstAll l ks
def firstAll(l:List Fd):List PT->Int
 | []=>0
 | k::ks=>if li l k≠0 then li l k else firstAll l ks
 end
theorem yO{l:List Fd}{ks:List PT}:firstAll l (ks.drop ks.length)=0:=by rw[ZO];simp only[firstAll]
theorem qT{w:World}{b off op f:Nat}{c:Cl}{kv:Value}(hn:fH w b off op f c kv)(k:Nat):Calls Tryz.prog 218 #[.pointer (some ⟨b,off,none⟩),.int .u8 (k:Int)] w fun e w'=>e=.returned (.int .i64 (fvM op c k))/\Below w.heap.size w w':=by
 obtain⟨cO,x0,x1,x2,x3,x4,x5⟩:=hn;unfold fvM;by_cases h5:op=5
 ·subst h5
  rw[Yy rfl];by_cases h0:c.1=0
  ·rw[Yy h0]
   have h0':((c.1:Int)==0)=true:=by rw[h0];rfl
   clear h0;go_enter Tryz.func218,Tryz.ntmps218
   go_wp2_with fail;go_ret
   exact⟨rfl,Yz _ _⟩
  ·rw[Yx h0]
   have h0':((c.1:Int)==0)=false:=YN.2 (by omega);clear h0;go_enter Tryz.func218,Tryz.ntmps218
   go_wp2_with fail;go_ret
   exact⟨rfl,Yz _ _⟩
 ·rw[Yx h5]
  have n5:((op:Int)==5)=false:=YN.2 (by omega);clear h5;by_cases h0:c.1=0
  ·rw[Yy h0]
   have h0':((c.1:Int)==0)=true:=by rw[h0];rfl
   clear h0;go_enter Tryz.func218,Tryz.ntmps218
   go_wp2_with fail;go_ret
   exact⟨rfl,Yz _ _⟩
  ·rw[Yx h0]
   have h0':((c.1:Int)==0)=false:=YN.2 (by omega);clear h0;by_cases hk:c.1≠k
   ·rw[Yy hk]
    have hk':((c.1:Int) != (k:Int))=true:=by simp;omega
    clear hk;go_enter Tryz.func218,Tryz.ntmps218
    go_wp2_with fail;go_ret
    exact⟨rfl,Yz _ _⟩
   ·rw[Yx hk]
    have hk':((c.1:Int) != (k:Int))=false:=by simp;omega
    clear hk;by_cases h4:op=4
    ·subst h4
     by_cases h3:k=3
     ·subst h3
      rw[Yx (by simp)];go_enter Tryz.func218,Tryz.ntmps218
      go_wp2_with fail;go_ret
      exact⟨rfl,Yz _ _⟩
     ·rw[Yy ⟨rfl,h3⟩]
      have h3':((k:Int) != 3)=true:=by simp;omega
      clear h3;go_enter Tryz.func218,Tryz.ntmps218
      go_wp2_with fail;go_ret
      exact⟨rfl,Yz _ _⟩
    ·rw[Yx (fun h=>h4 h.1)]
     have h4':((op:Int)==4)=false:=YN.2 (by omega);clear h4;go_enter Tryz.func218,Tryz.ntmps218
     go_wp2_with fail;go_ret
     exact⟨rfl,Yz _ _⟩
theorem qU{w:World}{b off op f si:Nat}{c:Cl}{a:Option Addr}{n cap:Nat}{fv:Value}{l:List Fd}(hn:fH w b off op f c (.slice a n cap))(hs:Sf w fv l)(iZ:Okc c):Calls Tryz.prog 190 #[.pointer (some ⟨b,off,none⟩),.agg #[.int .u32 (si:Int),fv]] w fun e w'=>e=.returned (.int .i64 (ffM l op f c n))/\Below w.heap.size w w':=by
 obtain⟨fa,fcap,rfl,hfc,Ru⟩:=hs.form;have aA:=aj w (.cells #[.int .u32 (si:Int),.slice fa l.length fcap] 25);have aN:=ae aA;obtain⟨e0,e1⟩:=aR w (.int .u32 (si:Int)) (.slice fa l.length fcap) 25;have hz:w.heap.size<(w.alloc (.cells #[.int .u32 (si:Int),.slice fa l.length fcap] 25)).heap.size:=by rw[YB];omega
 have HS:=ae (hs.kept aA);have HN:=ae (hn.kept aA);have HO:=ae iZ;generalize hA:w.alloc (.cells #[.int .u32 (si:Int),.slice fa l.length fcap] 25)=A at *;clear aA hs hn iZ;obtain⟨cO,x0,x1,x2,x3,x4,x5⟩:=HN.o
 have HD:jaH (ffM l op f c n=if 0<n then 90 else match gF l f with
  | none=>81
  | some j=>if EV c=0 then fvM op c (yN l j) else if EV c=1 then 90 else EV c):=ae rfl
 generalize ffM l op f c n=R at *;by_cases mP:0<n
 ·rw[Yy mP]at HD
  have hn0':(0:Int)<(n:Int):=by omega
  clear mP;go_enter Tryz.func190,Tryz.ntmps190
  go_wp2_with fail;go_ret
  rw[HD.o];exact⟨rfl,aN.o⟩
 ·rw[Yx mP]at HD
  obtain rfl:n=0:=by omega
  clear mP;have zh:=ae (fun(U:World) (hU:Below A.heap.size A U)=>qy (HS.o.kept hU) si f);have hr0:∀ s:aW (fun x=>Below A.heap.size A x),s.w.cell? ⟨w.heap.size,0,none⟩=some (.int .u32 (si:Int)):=fun s=>(s.ok.cell (p:=⟨w.heap.size,0,none⟩) hz).trans e0
  have xB:∀ s:aW (fun x=>Below A.heap.size A x),s.w.cell? ⟨w.heap.size,1,none⟩=some (.slice fa l.length fcap):=fun s=>(s.ok.cell (p:=⟨w.heap.size,1,none⟩) hz).trans e1
  have vO:∀ s:aW (fun x=>Below A.heap.size A x),s.w.cell? ⟨b,off+1,none⟩=some (.int .u32 (f:Int)):=fun s=>(s.ok.cell (p:=⟨b,off+1,none⟩) cO).trans x1
  haveI:Nonempty (aW (fun x=>Below A.heap.size A x)):=⟨aW.mk A (Yz _ _)⟩
  go_enter Tryz.func190,Tryz.ntmps190
  go_wp2_with fail;refine bD (S:=fun x=>Below A.heap.size A x) (by kernel_rfl) (by kernel_rfl) (by first | exact(Yz _ _).drew | (rw[hA];exact(Yz _ _).drew)) ?_;repeat (go_big_quiet_step ((go_at_call 193;exact(zh.o _ (aW.ok _)).mono (fun e w' h=>⟨h.1,aW.mk w' (ag (aW.ok _) h.2),rfl⟩))))
  refine wpQuiet_nil ?_;rintro _ ⟨s2,rfl⟩;obtain⟨w2,np⟩:∃ x,x=s2.w:=⟨_,rfl⟩;have ay:=s2.ok;rw[← np]at ay ⊢;have aK:=ae ay;have eP:=ae (HS.o.kept ay);have Cm:=ae (HN.o.kept ay);have g0:=(ay.cell (p:=⟨w.heap.size,0,none⟩) hz).trans e0;have g1:=(ay.cell (p:=⟨w.heap.size,1,none⟩) hz).trans e1;have bh:=Za hz ay.size;clear np ay hr0 xB vO x0 x1 x2 x3 x4 x5 HN HS e0 e1 hz hA cO;obtain⟨cO,x0,x1,x2,x3,x4,x5⟩:=Cm.o;cases hp:gF l f with
  | none =>
   rw[hp]at HD;simp only[Option.isSome_none,Option.getD_none];clear hp;go_wp2_with fail;go_ret
   rw[HD.o];exact⟨rfl,ag aN.o aK.o⟩
  | some j =>
   rw[hp]at HD;have hj:=Ly hp;simp only[Option.isSome_some,Option.getD_some];clear hp;go_wp2_with fail;refine(Nr HO.o _).mono ?_;rintro e w3 ⟨rfl,aO⟩;have bT:=ae (ag aK.o aO);have hN3:=Cm.o.kept aO;have k0:=(aO.cell (p:=⟨w.heap.size,0,none⟩) bh).trans g0;have k1:=(aO.cell (p:=⟨w.heap.size,1,none⟩) bh).trans g1;obtain⟨gb,goff,rfl,Lk,y0,y1,y2,y3⟩:=(eP.o.kept aO).at hj;clear aO x0 x1 x2 x3 x4 x5 g0 g1 bh cO;have HN3:=ae hN3;clear hN3;have HKA:jaH (yN l j=l[j].2.2.1):=ae (by unfold yN;rw[List.getElem?_eq_getElem hj]);have hj':(j:Int)<(l.length:Int):=(by omega);have HE:jaH (EV c=flt (c.1:Int) c.2.1 (ai c.2.2)):=ae rfl;rw[HKA.o]at HD;generalize l[j].2.2.1=kd at *;obtain⟨fl,ja⟩:∃ fl,fl=flt (c.1:Int) c.2.1 (ai c.2.2):=⟨_,rfl⟩;rw[← ja]at HE ⊢;rw[HE.o]at HD;clear ja HE HKA;by_cases h0:fl=0
   ·subst h0
    simp only[if_true]at HD;go_wp2_with fail;refine(qT HN3.o kd).mono ?_;rintro e w4 ⟨rfl,bm⟩;have cA:=ae (ag bT.o bm);clear bm;go_wp2_with fail;go_ret
    rw[HD.o];exact⟨rfl,ag aN.o cA.o⟩
   ·have h0':(fl==0)=false:=YN.2 h0
    simp only[Yx h0]at HD;by_cases h1:fl=1
    ·subst h1
     simp only[if_true]at HD;clear h0;go_wp2_with fail;go_ret
     rw[HD.o];exact⟨rfl,ag aN.o bT.o⟩
    ·have h1':(fl==1)=false:=YN.2 h1
     simp only[Yx h1]at HD;clear h0 h1;go_wp2_with fail;go_ret
     rw[HD.o];exact⟨rfl,ag aN.o bT.o⟩
def BO(w:World)(t:PT)(m d:Nat)(e:Ending)(w':World):Prop:=(∃ n:Int,e=.returned (.int .i64 n)/\-1<=n/\n<100/\(∀ op f c,t=.node op f c []->0<m->0<d->n=(m:Int)-1))/\w'=w
def Kk(w:World)(l:List Fd)(t:PT)(e:Ending)(w':World):Prop:=(∃ n:Int,e=.returned (.int .i64 n)/\(∀ op f c,t=.node op f c []->n=li l t))/\Below w.heap.size w w'
def sId:ByteArray:=⟨#[105,100]⟩
def Uz:ByteArray:=⟨#[110,97,109,101]⟩
def eA:List Fd:=[(1,sId,1,true),(2,Uz,3,false)]
def rA1:Row:=[(1,1,[]),(3,0,[97])]
def rA2:Row:=[(1,2,[]),(0,0,[])]
def rA:List Row:=[rA1,rA2]
def pA:PT:=.node 1 1 (1,2,[]) []
theorem Tt:chk 1 eA=0:=by decide +kernel
theorem fitA1:gW eA rA1=0:=by decide +kernel
theorem fitA2:gW eA rA2=0:=by decide +kernel
theorem Gm{n:Int}(h:I64 n):aI (1,n,[]):=Or.inr (Or.inl ⟨n,rfl,h⟩)
theorem Tu:aI (3,0,[97]):=Or.inr (Or.inr (Or.inr ⟨[97],rfl,by decide,fun x hx=>by simp at hx;omega⟩))
theorem Tv:aI (0,0,[]):=Or.inl rfl
theorem Wk:∀ c∈rA1,aI c:=fun c hc=>by
 rcases YQ.1 hc with rfl | hc
 ·exact Gm ⟨by omega,by omega⟩
 ·obtain rfl:c=(3,0,[97]):=by simpa using hc
  exact Tu
theorem yP:∀ c∈rA2,aI c:=fun c hc=>by
 rcases YQ.1 hc with rfl | hc
 ·exact Gm ⟨by omega,by omega⟩
 ·obtain rfl:c=(0,0,[]):=by simpa using hc
  exact Tv
theorem nk:jv eA rA:=fun r hr=>by
 rcases YQ.1 hr with rfl | hr
 ·exact⟨fitA1,Wk⟩
 ·obtain rfl:r=rA2:=by simpa using hr
  exact⟨fitA2,yP⟩
theorem okA:∀ f∈eA,Okf f:=fun f hf=>by
 rcases YQ.1 hf with rfl | hf
 ·exact⟨by decide,by decide⟩
 ·obtain rfl:f=(2,Uz,3,false):=by simpa using hf
  exact⟨by decide,by decide⟩
def bA:List Nat:=br (dw 1 eA rA 1)
theorem PI:dG 1 eA rA (1:Int)=(bA,0):=pM (g:=1) okA (by omega) Tt (by decide) (by omega) (by omega) nk
theorem UA:pn bA=.ok (1,eA,1,[grp eA [rA1],grp eA [rA2]]):=pN (g:=1) okA (by omega) (fun r hr=>(nk r hr).2) PI
theorem bsA:Bs bA:=(lX okA (by omega) Tt (by decide) (by omega) (by omega) nk).2.seal
theorem Wl:5<bA.length/\bA.length<=70000:=by
 constructor
 ·unfold bA
  rw[iX];unfold dw kF;simp only[YC,YI,Zc,le4];omega
 ·have:=nZ okA (by omega) Tt (show rA.length<=60 by decide) (by omega) (show 1<=64 by omega) nk
  unfold bA;omega
theorem turnA:pn (bA.set 5 (bA[5]'Wl.1 ^^^ 1))=.error 101:=by
 have h:=yv (b:=dw 1 eA rA 1) (j:=5) (y:=1) (lX okA (by omega) Tt (by decide) (by omega) (by omega) nk).2 Wl.1 (by omega) (by omega);unfold pn;have e:ik (bA.set 5 (bA[5]'Wl.1 ^^^ 1))=none:=h;rw[e]
theorem Wm:li eA pA=0:=by decide +kernel
theorem mayA1:VR (mM eA (grp eA [rA1]).2 pA) 2=false:=by decide +kernel
theorem mayA2:VR (mM eA (grp eA [rA2]).2 pA) 2=true:=by decide +kernel
theorem Wn:ii eA rA2 pA=2:=by decide +kernel
theorem Tw{W:World}{q:Nat}{x y a b:Value}{t:TypeId}(h:W.heap[q]?=some (.cells #[x,y] t (0,0))):((W.setCell ⟨q,0,none⟩ a).setCell ⟨q,1,none⟩ b).heap[q]?=some (.cells #[a,b] t (0,0)):=by
 have h1:(W.setCell ⟨q,0,none⟩ a).heap[q]?=some (.cells #[a,y] t (0,0)):=by rw[ce h];rfl
 rw[ce h1];rfl
theorem yQ{w:World}{B fp id:Nat}{fv:Value}{gs:List Gr}{fs:List Fd}(h:Fil w B fp id fv gs)(hf:Sf w fv fs)(hl:fs.length<=1000) :
  Calls Tryz.prog 19 #[.pointer (some ⟨fp,0,none⟩)] w fun e w'=>(∃ v,e=.returned (.agg #[.int .u32 (id:Int),v])/\de w' w.heap.size v fs)/\Below w.heap.size w w':=by
 obtain⟨gv,xs,h1,_,_,_⟩:=h;have KY:=(Array.getElem?_eq_some_iff.1 h1).1;obtain⟨fa,fc,rfl,_,_⟩:=hf.form;have aA:=aj w (.cells #[.int .u32 0,.slice none 0 0] 25);have hq:=Zb w (.cells #[.int .u32 0,.slice none 0 0] 25);have hz:(w.alloc (.cells #[.int .u32 0,.slice none 0 0] 25)).heap.size=w.heap.size+1:=YB _ _;generalize hA:w.alloc (.cells #[.int .u32 0,.slice none 0 0] 25)=A at *
 have HT:jaH (∀ U,Below A.heap.size A U->U.cell? ⟨fp,0,none⟩=some (.int .u32 (id:Int))/\U.cell? ⟨fp,1,none⟩=some (.slice fa fs.length fc)):=ae (fun U hU=>by
  have hfU:=(hU.block fp (by omega)).trans ((aA.block fp KY).trans h1);exact⟨by rw[an hfU];rfl,by rw[an hfU];rfl⟩)
 have HQ:jaH (∀ U,Below A.heap.size A U->U.heap[w.heap.size]?=some (.cells #[.int .u32 0,.slice none 0 0] 25 (0,0))):=ae (fun U hU=>(hU.block w.heap.size (by omega)).trans hq)
 have mH:jaH (∀ U,Below A.heap.size A U->Calls Tryz.prog 55 #[.slice fa fs.length fc] U fun e w'=>∃ a c,e=.returned (.slice a fs.length c)/\de w' A.heap.size (.slice a fs.length c) fs/\Below A.heap.size A w'/\w'.frozen? ⟨w.heap.size,0,none⟩=false/\w'.frozen? ⟨w.heap.size,1,none⟩=false/\w'.cell? ⟨w.heap.size,0,none⟩=some (.int .u32 0)/\w'.cell? ⟨w.heap.size,1,none⟩=some (.slice none 0 0)):=ae (fun U hU=>by
  refine(Ec (hf.kept (aA.trans (hU.mono aA.size))|>.kept (Yz _ _)) hl).mono ?_;rintro e w' ⟨⟨v,rfl,ho⟩,hb⟩;have hbU:=ag hU hb;have hqU:=HQ.o _ hbU;obtain⟨a,c,rfl,_,_⟩:=bf ho;exact⟨a,c,rfl,ho.low hU.size,hbU,by simp[World.frozen?,hqU],by simp[World.frozen?,hqU],by rw[an hqU];rfl,by rw[an hqU];rfl⟩)
 have aN:=ae aA;have HZ:=ae hz;clear h1 hf aA hq hz;obtain⟨c0,c1⟩:=HT.o A (Yz _ _);go_enter Tryz.func19,Tryz.ntmps19
 go_wp2_with fail;try rw[hA]
 clear hA;refine wp_region_noPanic ?_
 go_region_law (first
  | (go_simp;go_at_call 55;refine(mH.o _ ?_).mono ?_;exact ak (Yz A.heap.size A) _;rintro e w5 ⟨a5,c5,rfl,eo,bv,fr0,fr1,q0,q1⟩;obtain⟨d0,d1⟩:=HT.o w5 bv;have aJ:=ae bv;have cQ:=ae eo;clear bv eo;dsimp only)
  | fail)
 all_goals refine NoPanic.normal ?_
 all_goals go_wp2_with fail
 all_goals
  have gD:=Tw (a:=.int .u32 (id:Int)) (b:=.slice a5 fs.length c5) (HQ.o w5 aJ.o)
  have xw:de ((w5.setCell ⟨w.heap.size,0,none⟩ (.int .u32 (id:Int))).setCell ⟨w.heap.size,1,none⟩ (.slice a5 fs.length c5)) A.heap.size (.slice a5 fs.length c5) fs:=bF cQ.o fun k hk=>by
   have jJ:=(aE cQ.o hk).1;have bh:=HZ.o;rw[Below.heap_setCell _ _ _ _ (by show k≠w.heap.size;omega),Below.heap_setCell _ _ _ _ (by show k≠w.heap.size;omega)]
  have dP:=((aN.o.trans (aJ.o.mono aN.o.size)).setCell (p:=⟨w.heap.size,0,none⟩) (YA _) (.int .u32 (id:Int))).setCell (p:=⟨w.heap.size,1,none⟩) (YA _) (.slice a5 fs.length c5);have t0:((w5.setCell ⟨w.heap.size,0,none⟩ (.int .u32 (id:Int))).setCell ⟨w.heap.size,1,none⟩ (.slice a5 fs.length c5)).cell? ⟨w.heap.size,0,none⟩=some (.int .u32 (id:Int)):=by rw[an gD];rfl
  have t1:((w5.setCell ⟨w.heap.size,0,none⟩ (.int .u32 (id:Int))).setCell ⟨w.heap.size,1,none⟩ (.slice a5 fs.length c5)).cell? ⟨w.heap.size,1,none⟩=some (.slice a5 fs.length c5):=by rw[an gD];rfl
  generalize (w5.setCell ⟨w.heap.size,0,none⟩ (.int .u32 (id:Int))).setCell ⟨w.heap.size,1,none⟩ (.slice a5 fs.length c5)=FW at *;have Um:w.heap.size<=A.heap.size:=by have:=HZ.o;omega
  refine bodyPost_ret (v:=.agg #[.int .u32 (id:Int),.slice a5 fs.length c5]) (by simp[results,Tryz.results19,go_sem,t0,t1]) rfl ⟨⟨_,rfl,xw.low Um⟩,dP⟩
theorem Kl(w:World):Calls Tryz.prog 35 #[] w fun e w'=>(∃ v',e=.returned (.agg #[.int .u32 1,v'])/\de w' w.heap.size v' eA)/\Below w.heap.size w w':=by
 have HL:jaH (∀ W:World,de (W.alloc (.cells #[.int .u32 1,.string ⟨#[105,100]⟩,.int .u8 1,.bool true,.int .u32 2,.string ⟨#[110,97,109,101]⟩,.int .u8 3,.bool false] 81)) W.heap.size (.slice (some ⟨W.heap.size,0,none⟩) 2 2) eA):=ae (fun W=>nN W eA (by unfold maxLen;decide));have aA:=aj w (.cells #[.int .u32 0,.slice none 0 0] 25);have ll:(w.alloc (.cells #[.int .u32 0,.slice none 0 0] 25)).heap.size=w.heap.size+1:=YB _ _;have uX:=ae ll;clear ll;go_enter Tryz.func35,Tryz.ntmps35
 go_wp2;refine bodyPost_ret (v:=.agg #[.int .u32 1,.slice (some ⟨w.heap.size+1,0,none⟩) 2 2]) (by simp[results,Tryz.results35,go_sem]) rfl ?_;refine⟨⟨_,rfl,?_⟩,?_⟩
 ·have h:=HL.o (w.alloc (.cells #[.int .u32 1,.slice (some ⟨w.heap.size+1,0,none⟩) 2 2] 25))
  rw[YB]at h;exact h.low (by omega)
 ·exact((Yz _ _).alloc (YA _) _).alloc (by rw[YB];omega) _
end Go.Proofs.YtpljdjmpamjkhaaGreatDoor
