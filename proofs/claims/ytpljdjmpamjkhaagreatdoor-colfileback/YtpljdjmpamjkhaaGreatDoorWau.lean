import Derived.Test.YtpljdjmpamjkhaaGreatDoorWat
set_option linter.unusedVariables false
set_option linter.unusedSimpArgs false
set_option maxRecDepth 100000
set_option maxHeartbeats 4000000
namespace Go.Proofs.YtpljdjmpamjkhaaGreatDoor
open Go.RowKit Go.Lib
theorem Gh{fs:List Fd}{g tot:Nat}{s:S3}:∀ j:Nat,(fiJ fs g tot s j).2.1.length<=s.1.length
 | 0=>YA _
 | j+1=>YG (BA (YA _)).2.2.1 (Gh j)
theorem EE{fs:List Fd}{g tot:Nat}{s:S3}{m j:Nat}(h:j<=m)(hf:(fiJ fs g tot s j).2.2.2=true):(fiJ fs g tot s m).2.2.2=true:=by
 cases e:(fiJ fs g tot s m).2.2.2 with
 | true=>rfl
 | false =>
  rw[nR h e]at hf;cases hf
theorem BD{fs:List Fd}{g tot:Nat}{s:S3}:∀ j:Nat,(fiJ fs g tot s j).1.length=j
 | 0=>rfl
 | j+1=>by
  show (_++[_]).length=_
  rw[YC,BD j];rfl
def lf(W:World)(B fp id:Nat)(fv gv:Value)(xs:List Value)(gs:List Gr):Prop :=
 W.heap[fp]?=some (.cells #[.int .u32 (id:Int),fv,gv] 105 (0,0))/\B<=fp/\W.ownsRow B 109 2 gv gs.length xs /\
  ∀ j (h:j<gs.length),∃ a b,xs[2*j]?=some a/\xs[2*j+1]?=some b/\Gro W B (.agg #[a,b]) gs[j].1 gs[j].2
theorem lf.fil{W:World}{B fp id:Nat}{fv gv:Value}{xs:List Value}{gs:List Gr}(h:lf W B fp id fv gv xs gs):Fil W B fp id fv gs:=⟨gv,xs,h⟩
theorem lf.turn{W W':World}{B fp id:Nat}{fv gv:Value}{xs:List Value}{gs:List Gr}(h:lf W B fp id fv gv xs gs)(hb:∀ k,B<=k->k<W.heap.size->W'.heap[k]?=W.heap[k]?):lf W' B fp id fv gv xs gs:=by
 obtain⟨h1,h2,h3,h4⟩:=h;refine⟨(hb fp h2 (Array.getElem?_eq_some_iff.1 h1).1).trans h1,h2,bF h3 fun k hk=>?_,fun j hj=>?_⟩
 ·obtain⟨a,b,_⟩:=aE h3 hk
  exact hb k a b
 ·obtain⟨a,b,e1,e2,e3⟩:=h4 j hj
  exact⟨a,b,e1,e2,e3.turn fun k _ _ k1 k2 _ _ _=>hb k k1 k2⟩
theorem lf.kept{W W':World}{B fp id:Nat}{fv gv:Value}{xs:List Value}{gs:List Gr}(h:lf W B fp id fv gv xs gs)(hb:Below W.heap.size W W'):lf W' B fp id fv gv xs gs:=h.turn fun k _ hk=>hb.block k hk
theorem lf.frp{W W':World}{B fp id p:Nat}{fv gv:Value}{xs:List Value}{gs:List Gr}(h:lf W B fp id fv gv xs gs)(hf:Fr p W.heap.size W W')(hp:p<B):lf W' B fp id fv gv xs gs:=h.turn fun k hB hk=>hf.block k hk (by omega)
theorem lf.lt{W:World}{B fp id:Nat}{fv gv:Value}{xs:List Value}{gs:List Gr}(h:lf W B fp id fv gv xs gs):fp<W.heap.size:=(Array.getElem?_eq_some_iff.1 h.1).1
theorem lf.cell{W:World}{B fp id:Nat}{fv gv:Value}{xs:List Value}{gs:List Gr}(h:lf W B fp id fv gv xs gs):W.cell? ⟨fp,2,none⟩=some gv:=by
 rw[an h.1];rfl
theorem Fil.low{W:World}{B B' fp id:Nat}{fv:Value}{gs:List Gr}(h:Fil W B fp id fv gs)(hB:B'<=B):Fil W B' fp id fv gs:=by
 obtain⟨gv,xs,h1,h2,h3,h4⟩:=h;refine⟨gv,xs,h1,YG hB h2,⟨h3.1,h3.2.imp (fun x=>x) fun⟨g,cap,cur,hv,hb,r⟩=>⟨g,cap,cur,hv,YG hB hb,r⟩⟩,fun j hj=>?_⟩;obtain⟨a,b,e1,e2,e3⟩:=h4 j hj;exact⟨a,b,e1,e2,e3.low hB⟩
theorem EF{w:World}{p:Nat}{c f:List Nat}(h:R3 w p c f false){fv:Value}{fs:List Fd}(hs:Sf w fv fs)(hw:∀ i,fv.ownBlock=some i->i<p)(hk:∀ x∈fs,1<=x.2.2.1/\x.2.2.1<=3)(id:Nat)(ja:fs.length<=8)(fT:c.length<=100000000) :
  Calls Tryz.prog 97 #[.pointer (some ⟨p,0,none⟩),.agg #[.int .u32 (id:Int),fv]] w fun r w'=>∃ fp,r=.returned (.tuple #[.pointer (some ⟨fp,0,none⟩),.int .i64 (eY 1 64 (cN f):Int)])/\(∃ c' f',R3 w' p c' f' (fR fs c f).2.2.2)/\((fR fs c f).2.2.2=false->Fil w' w.heap.size fp id fv (fR fs c f).1)/\Fr p w.heap.size w w':=by
 have ar:=h.lt;have zl:=ae (fun(U:World) (hU:R3 U p c f false)=>nX hU 0 256 (by omega) (by omega));have mI:=ae (fun(U:World) (fl:Bool) (hU:R3 U p c (cN f) fl)=>nX hU 1 64 (by omega) (by omega));have zm:=pj 0 256 f;have WR:=pj 1 64 (cN f);have Ya:=ae (fun h=>Gb (lo:=1) (hi:=64) (b:=cN f) h);have HE:jaH (fR fs c f=fiJ fs (eY 1 64 (cN f)) (eY 0 256 f) (c,cN (cN f),kG 0 256 f || kG 1 64 (cN f)) (nps (eY 1 64 (cN f)) (eY 0 256 f))):=ae rfl;rw[HE.o];clear HE;generalize eY 0 256 f=tot at *;generalize eY 1 64 (cN f)=g at *;obtain⟨bd1,hbd1⟩:∃ b,kG 0 256 f=b:=⟨_,rfl⟩;obtain⟨bd2,hbd2⟩:∃ b,kG 1 64 (cN f)=b:=⟨_,rfl⟩;simp only[hbd1,hbd2,Bool.false_or]at zl mI Ya ⊢;clear hbd1 hbd2;have HJL:=ae (fun j=>Gh (fs:=fs) (g:=g) (tot:=tot) (s:=(c,cN (cN f),bd1 || bd2)) j);have HJ1:=ae (fun j=>BD (fs:=fs) (g:=g) (tot:=tot) (s:=(c,cN (cN f),bd1 || bd2)) j);have Xh:=ae (fun m j (hj:j<=m)=>EE (fs:=fs) (g:=g) (tot:=tot) (s:=(c,cN (cN f),bd1 || bd2)) hj);have HJ0:jaH (fiJ fs g tot (c,cN (cN f),bd1 || bd2) 0=([],(c,cN (cN f),bd1 || bd2))):=ae rfl;have HJN:jaH (∀ j,fiJ fs g tot (c,cN (cN f),bd1 || bd2) (j+1)=((fiJ fs g tot (c,cN (cN f),bd1 || bd2) j).1++[((grK fs (min (tot-j*g) g) (fiJ fs g tot (c,cN (cN f),bd1 || bd2) j).2 fs.length).1,(grK fs (min (tot-j*g) g) (fiJ fs g tot (c,cN (cN f),bd1 || bd2) j).2 fs.length).2.1)],(grK fs (min (tot-j*g) g) (fiJ fs g tot (c,cN (cN f),bd1 || bd2) j).2 fs.length).2.2)):=ae (fun j=>rfl);obtain⟨J,hJ⟩:∃ J,fiJ fs g tot (c,cN (cN f),bd1 || bd2)=J:=⟨_,rfl⟩;rw[hJ]at HJL HJ1 Xh HJ0 HJN ⊢;clear hJ;have Yi:=ae (fun(hg:0<g) (j:Nat)=>kh (n:=tot) (j:=j) hg);generalize nps g tot=N at *;obtain⟨a,cap,rfl,aV,bw⟩:=hs.form;have aA:=aj w (.cells #[.int .u32 (id:Int),.slice a fs.length cap] 25);obtain⟨x0,x1⟩:=aR w (.int .u32 (id:Int)) (.slice a fs.length cap) 25;have ay:=aj (w.alloc (.cells #[.int .u32 (id:Int),.slice a fs.length cap] 25)) (.cells #[.int .u32 (id:Int),.slice a fs.length cap,.slice none 0 0] 105);have hA0:w.heap.size<(w.alloc (.cells #[.int .u32 (id:Int),.slice a fs.length cap] 25)).heap.size:=by rw[YB];omega
 have sA:((w.alloc (.cells #[.int .u32 (id:Int),.slice a fs.length cap] 25)).alloc (.cells #[.int .u32 (id:Int),.slice a fs.length cap,.slice none 0 0] 105)).heap.size=w.heap.size+2:=by rw[YB,YB]
 have x2:((w.alloc (.cells #[.int .u32 (id:Int),.slice a fs.length cap] 25)).alloc (.cells #[.int .u32 (id:Int),.slice a fs.length cap,.slice none 0 0] 105)).heap[w.heap.size+1]?=some (.cells #[.int .u32 (id:Int),.slice a fs.length cap,.slice none 0 0] 105 (0,0)):=by
  have:=Zb (w.alloc (.cells #[.int .u32 (id:Int),.slice a fs.length cap] 25)) (.cells #[.int .u32 (id:Int),.slice a fs.length cap,.slice none 0 0] 105);rwa[YB]at this
 have x3:=(ay.cell (p:=⟨w.heap.size,1,none⟩) hA0).trans x1;have x4:=(ay.cell (p:=⟨w.heap.size,0,none⟩) hA0).trans x0;have hAb:Below w.heap.size w ((w.alloc (.cells #[.int .u32 (id:Int),.slice a fs.length cap] 25)).alloc (.cells #[.int .u32 (id:Int),.slice a fs.length cap,.slice none 0 0] 105)):=ag aA ay;have HR:=ae (h.kept hAb ar);have HS:=ae (hs.keptW hw (hAb.mono (by omega)));have UO:=ae hAb;have kj:=ae sA;have Cu:=ae x2;have UN:=ae x3;have HX4:=ae x4;have WC:=ae ar;clear h hs aA ay hAb sA x2 hA0 x3 x4;go_enter Tryz.func97,Tryz.ntmps97
 go_upto_region 2 with fail
 generalize (w.alloc (.cells #[.int .u32 (id:Int),.slice a fs.length cap] 25)).alloc (.cells #[.int .u32 (id:Int),.slice a fs.length cap,.slice none 0 0] 105)=A at *;go_wp2_with fail;refine(zl.o _ HR.o).mono ?_;rintro e w1 ⟨rfl,xB,cB⟩;have qf:=ae xB;have eB:=ae cB;clear xB cB;go_wp2_with fail;refine(mI.o _ _ qf.o).mono ?_;rintro e w2 ⟨rfl,vO,cK⟩;have jF:=ae vO;have eT:=ae (eB.o.trans (cK.mono eB.o.size));clear vO cK;go_wp2_with fail;have Yp:=ae (eT.o.mono (show w.heap.size+1<=A.heap.size by have:=kj.o;omega));have HK:=ae hk
 have HFX:jaH (lf w2 (w.heap.size+1) (w.heap.size+1) id (.slice a fs.length cap) (.slice none 0 0) [] []):=ae
  ⟨(eT.o.block (w.heap.size+1) (by have:=kj.o;omega) (by omega)).trans Cu.o,YA _,Zx _ _ _ _,fun j hj=>by simp at hj⟩
 have rg:jaH (∀ j,(J j).2.2.2=false->1<=g):=ae (fun j hj=>by
  apply Ya.o
  cases bd2
  ·rfl
  ·have h0:(J 0).2.2.2=true:=by rw[HJ0.o];simp
   rw[Xh.o j 0 (Zq _) h0]at hj;cases hj)
 clear hk;go_loopw [7] (fun i wr=>∃(j:Nat) (gv:Value) (xs:List Value),i=.int .i64 ((tot-j*g:Nat):Int)/\j<=N/\lf wr (w.heap.size+1) (w.heap.size+1) id (.slice a fs.length cap) gv xs (J j).1/\R3 wr p (J j).2.1 (J j).2.2.1 (J j).2.2.2/\Fr p (w.heap.size+1) A wr) (fun i _=>(intOf i).toNat)
 case atStart =>
  refine⟨0,.slice none 0 0,[],by simp,Zq _,?_,?_,Yp.o⟩
  ·rw[HJ0.o];exact HFX.o
  ·rw[HJ0.o];exact jF.o
 case round =>
  obtain⟨j,gv,xs,rfl,hjN,hx,hr,hf⟩:=hrel;have HX:=ae hx;have HR:=ae hr;have HF:=ae hf;obtain⟨_,_,_,_,⟨_,_,r2⟩,⟨_,_,r3⟩,_,_⟩:=hr.cells;have jD:tot-j*g<=256:=by omega
  generalize hlf:tot-j*g=left at *;have HLF:=ae hlf;clear hlf;by_cases hp:0<left
  ·have hp':(left:Int) > 0:=by omega
   cases rh:(J j).2.2.2
   ·rw[rh]at r2
    have ew:1<=g:=rg.o j rh;obtain⟨m,hm⟩:∃ m,min left g=m:=⟨_,rfl⟩;have Lr:min (left:Int) (g:Int)=(m:Int):=(by omega);have Ua:1<=m/\m<=64:=(by omega);have WB:m<=left:=(by omega);have hJN:=HJN.o j;have hJl:=HJL.o j;have hJ1:=HJ1.o j;have hLF:=HLF.o;rw[hLF,hm]at hJN;obtain⟨⟨gs0,c0,f0,fl0⟩,hJj⟩:∃ x,J j=x:=⟨_,rfl⟩;rw[hJj]at hJN hJl hJ1 hx hr rh;simp only at hJN hJl hJ1 hx hr rh;subst rh;obtain⟨KK,hKK⟩:∃ KK,grK fs m (c0,f0,false) fs.length=KK:=⟨_,rfl⟩;rw[hKK]at hJN;have HJS1:=ae hJN;have HX:=ae hx;have HR:=ae hr;have xz:∀ U,Below wr.heap.size wr U->Sf U (.slice a fs.length cap) fs:=fun U hU=>(HS.o.keptW hw (HF.o.below (YA p) (by omega))).kept hU
    have hBA:w.heap.size+1<=A.heap.size:=by have:=kj.o;omega
    have hBr:w.heap.size+1<wr.heap.size:=hx.lt
    have HGC:jaH (∀ U:World,Below wr.heap.size wr U->Calls Tryz.prog 142 #[.pointer (some ⟨p,0,none⟩),.agg #[.int .u32 (id:Int),.slice a fs.length cap],.int .i64 (m:Int)] U fun e w'=>∃ z1 z2,e=.returned (.agg #[z1,z2])/\(z1.oneCell'=true/\z2.oneCell'=true)/\Gro w' (w.heap.size+1) (.agg #[z1,z2]) KK.1 KK.2.1 /\
      R3 w' p KK.2.2.1 KK.2.2.2.1 KK.2.2.2.2/\lf w' (w.heap.size+1) (w.heap.size+1) id (.slice a fs.length cap) gv xs gs0/\Fr p (w.heap.size+1) A w'/\w'.cell? ⟨w.heap.size+1,2,none⟩=some gv/\(∀ o,(w'.alloc o).cell? ⟨w.heap.size+1,2,none⟩=some gv)/\w.heap.size+1<=w'.heap.size):=ae (fun U hU=>by
     have hzU:=hU.size;refine(BB (HR.o.kept hU HR.o.lt) (xz U hU) hw HK.o id m Ua ja (YG hJl fT)).mono ?_;rintro e w' ⟨⟨v,rfl,KV⟩,hr',hf'⟩;rw[hKK]at KV hr';obtain⟨z1,z2,rfl,cG,bh⟩:=KV.parts;have hx':=(HX.o.kept hU).frp hf' (by omega);exact⟨z1,z2,rfl,⟨cG,bh⟩,KV.low (by omega),hr',hx',(HF.o.then (hU.mono (by omega))).trans (hf'.mono (by omega)),hx'.cell,fun o=>((aj _ o).cell hx'.lt).trans hx'.cell,by have:=hx'.lt;omega⟩)
    have hgv:∃ ga gn gc,gv=.slice ga gn gc:=du hx.2.2.1;obtain⟨ga,gn,gc,rfl⟩:=hgv;have jH:=hx.cell;have kJ:wr.frozen? ⟨w.heap.size+1,2,none⟩=false:=by simp[World.frozen?,hx.1]
    have TZ:wr.cell? ⟨w.heap.size,0,none⟩=some (.int .u32 (id:Int)):=(World.cell?_of_block (a:=⟨w.heap.size,0,none⟩) (HF.o.block w.heap.size (by omega) (by omega))).trans HX4.o;have Yd:wr.cell? ⟨w.heap.size,1,none⟩=some (.slice a fs.length cap):=(World.cell?_of_block (a:=⟨w.heap.size,1,none⟩) (HF.o.block w.heap.size (by omega) (by omega))).trans UN.o
    have Ve:gs0.length<=100000:=by
     have h1:j<=j*g:=Nat.le_mul_of_pos_right j (by omega);omega
    have jz:jaH (tot-(j+1)*g=left-m/\j+1<=N):=ae (by
     rw[Zt];refine⟨by omega,?_⟩;exact(Yi.o (by omega) j).2 (by omega))
    clear hx hr hf hm hJN hJl hJ1 hLF hJj hKK xz HX HF HR;go_upto_region 6 with fail
    try rw[Lr]
    refine wp_region_noPanic ?_
    go_region_law (first
     | (refine vI (by rfl) _ _ (by rfl) (w.heap.size+1) _ _ z1 z2 gs0.length xs (by rfl) ?_ (by rfl) ?_ cG bh Ve ?_ ?_;exact bP TV.o.2.2.1 (aj _ _);exact Zb _ _;(rw[YB];omega);intro v6 w6 o6 g6 e6;have hx6:=TV.o.kept (aj w5 (.cells #[z1,z2] 109));obtain⟨⟨gv7,xs7,Vf⟩,dP,hc6,hc7⟩:=Fil.add (g:=(KK.1,KK.2.1)) hx6.1 hx6.2.1 hx6.2.2.1 hx6.2.2.2 (KI.o.turn (fun k _ _ _ k2 _ _ _=>(aj w5 (.cells #[z1,z2] 109)).block k k2)) o6 g6 e6;obtain⟨va7,vn7,vc7,rfl⟩:=du o6;have pX:jaH (lf _ (w.heap.size+1) (w.heap.size+1) id (.slice a fs.length cap) gv7 xs7 (gs0++[(KK.1,KK.2.1)])):=ae Vf;have CA:=ae ((pW.o.kept (aj _ _) pW.o.lt).kept dP (by omega));have Ui:=ae ((Gx.o.then ((aj _ _).mono zi)).trans (Fr.of_below dP));clear o6 g6 e6 Vf dP hx6)
     | (go_simp;go_at_call 142;refine(HGC.o _ ?_).mono ?_;exact ak (Yz wr.heap.size wr) _;rintro e w5 ⟨z1,z2,rfl,⟨cG,bh⟩,Vd,Lo,hx5,gD,Xl,ha5,zi⟩;have KI:=ae Vd;have pW:=ae Lo;have TV:=ae hx5;have Gx:=ae gD;clear Vd Lo hx5 gD;dsimp only)
     | fail)
    all_goals refine NoPanic.normal ?_
    all_goals
     go_wp2_with fail;go_roundw
     case rel =>
      refine⟨j+1,gv7,xs7,?_,jz.o.2,?_,?_,Ui.o⟩
      ·rw[jz.o.1]
       congr 1
       omega
      ·rw[HJS1.o];exact pX.o
      ·rw[HJS1.o];exact CA.o
     case measure=>simp[intOf];omega
   ·rw[rh]at r2
    have HD:jaH ((J N).2.2.2=true):=ae (Xh.o N j hjN rh);have nw:=ae (show R3 wr p (J j).2.1 (J j).2.2.1 true from rh ▸ hr);have Lg:=ae ((Fr.of_below UO.o).trans (hf.mono (Nat.le_succ _)));clear hx hr hf rh;go_wp2_with fail;go_ret2
    rw[HD.o];exact⟨w.heap.size+1,rfl,⟨_,_,nw.o⟩,(fun h=>by cases h),Lg.o⟩
  ·have hp':¬ (left:Int) > 0:=by omega
   have HD:jaH ((J N).2.2.2=(J j).2.2.2/\((J N).2.2.2=false->j=N)):=ae (by
    cases rh:(J j).2.2.2
    ·have ew:=rg.o j rh
     have e:j=N:=by
      have h1:=Yi.o (by omega) j;have h2:=HLF.o;rcases Zd j N with h3 | h3
      ·have:=h1.1 h3
       omega
      ·omega
     subst e;exact⟨rh,fun _=>rfl⟩
    ·have e:=Xh.o N j hjN rh
     exact⟨e,fun h=>by rw[e]at h;cases h⟩)
   have Lg:=ae ((Fr.of_below UO.o).trans (hf.mono (Nat.le_succ _)));have nw:=ae hr;have HXF:=ae (hx.fil.low (Nat.le_succ _));clear hx hr hf r2 r3;go_wp2_with fail;go_ret2
   refine⟨w.heap.size+1,rfl,⟨_,_,by rw[HD.o.1];exact nw.o⟩,fun h=>?_,Lg.o⟩;have e:=HD.o.2 h;subst e;exact HXF.o
def Gi(fs:List Fd)(rs:List Row):Prop:=∀ r∈rs,r.length=fs.length/\∀ c∈r,aI c
theorem qS{fs:List Fd}{n:Nat}{cols:List (List Cl)}(hw:Whl fs n cols)(hc:cols.length=fs.length):Gi fs (eD n cols):=by
 intro r hr;obtain⟨i,hi,rfl⟩:=YS.1 hr;refine⟨by rw[YD];exact hc,fun c bw=>?_⟩;obtain⟨l,hl,rfl⟩:=YS.1 bw;obtain⟨k,hk,rfl⟩:=List.mem_iff_getElem.1 hl;obtain⟨h1,h2⟩:=hw k hk;have ar:i<cols[k].length:=by rw[h2];simpa using hi
 rw[List.getD_eq_getElem?_getD,List.getElem?_eq_getElem ar];exact(h1.2.2 _ (YF ar)).fine
theorem Ke{fs:List Fd}{n:Nat}{s:S3}(hn:n<=64)(hk:∀ f∈fs,1<=f.2.2.1/\f.2.2.1<=3)(hb:Bs s.1)(h:(grK fs n s fs.length).2.2.2.2=false) :
  ∃ p,((grK fs n s fs.length).1,(grK fs n s fs.length).2.1)=grp fs p/\p.length=n/\Gi fs p/\Bs (grK fs n s fs.length).2.2.1:=by
 obtain⟨cols,h1,h2,h3,h4,h5⟩:=JA hn hk hb (YA _) h;refine⟨eD n cols,?_,ft _ _,qS h2 h1,h5⟩;unfold grp;rw[h3,h4];congr 1
 apply List.ext_getElem?
 intro i;rw[List.getElem?_map,List.getElem?_map];by_cases hi:i<fs.length
 ·rw[List.getElem?_range hi,List.getElem?_eq_getElem (by omega)]
  simp only[ZU];rw[AD (by omega) (h2 i (by omega)).2]
 ·rw[List.getElem?_eq_none (by omega),List.getElem?_eq_none (by simp;omega)]
  rfl
theorem xl{fs:List Fd}{g tot:Nat}{s:S3}(hg:g<=64)(hk:∀ f∈fs,1<=f.2.2.1/\f.2.2.1<=3)(hb:Bs s.1):∀ j:Nat,(fiJ fs g tot s j).2.2.2=false ->
  ∃ L:List (List Row),(fiJ fs g tot s j).1=L.map (grp fs)/\L.length=j/\(∀ i (h:i<L.length),L[i].length=min (tot-i*g) g)/\(∀ p∈L,Gi fs p)/\Bs (fiJ fs g tot s j).2.1
 | 0,h=>⟨[],rfl,rfl,fun i h=>by simp at h,fun p hp=>by simp at hp,hb⟩
 | j+1,h=>by
  have h0:(fiJ fs g tot s j).2.2.2=false:=nR (Nat.le_succ j) h;obtain⟨L,h1,h2,h3,h4,h5⟩:=xl hg hk hb j h0;obtain⟨p,e1,e2,e3,e4⟩:=Ke (n:=min (tot-j*g) g) (by omega) hk h5 h;refine⟨L++[p],?_,by simp[h2],?_,?_,e4⟩
  ·show (fiJ fs g tot s j).1++[_]=_
   rw[e1,h1,YX];rfl
  ·intro i hi
   rcases Zd i L.length with h6 | h6
   ·rw[jaD h6]
    exact h3 i h6
   ·obtain rfl:i=L.length:=by simp at hi;omega
    rw[List.getElem_append_right (YA _)];simp only[jai,jar];rw[e2,h2]
  ·intro q hq
   rcases Zg.1 hq with hq | hq
   ·exact h4 q hq
   ·rw[Zl.1 hq]
    exact e3
theorem nY{g tot:Nat}{L:List (List Row)}(h:∀ i (h:i<L.length),L[i].length=min (tot-i*g) g):∀ j,j<=L.length->j*g<=tot->(L.take j).flatten.length=j*g
 | 0,_,_=>by simp
 | j+1,hj,hg=>by
  rw[YP (by omega),jas,YC,nY h j (by omega) (by rw[Zt]at hg;omega)];simp only[jab,List.flatten_nil,YZ];rw[h j (by omega),Zt];rw[Zt]at hg;omega
theorem Pw{g tot:Nat}(hg:0<g){L:List (List Row)}(h:∀ i (h:i<L.length),L[i].length=min (tot-i*g) g)(hL:L.length=nps g tot){j:Nat}(hj:j<L.length):prt g L.flatten j=L[j]:=by
 have ar:j*g<tot:=(kh hg).1 (by omega)
 have e:L.flatten=(L.take j).flatten++(L[j]++(L.drop (j+1)).flatten):=by
  conv=>lhs;rw[← ZZ j L,jas,Zz hj,jab]
 have hf:=nY h j (by omega) (by omega);unfold prt;rw[e,← hf,Zn];have hl:=h j hj;by_cases hc:(j+1)*g<tot
 ·have:L[j].length=g:=by rw[hl];rw[Zt]at hc;omega
  rw[← this,ZB]
 ·have hn:¬ j+1<nps g tot:=fun h2=>hc ((kh hg).1 h2)
  have:L.drop (j+1)=[]:=jau (by omega);rw[this,List.flatten_nil,YZ];exact Zo (by omega)
theorem EG{g tot:Nat}(hg:0<g){L:List (List Row)}(h:∀ i (h:i<L.length),L[i].length=min (tot-i*g) g)(hL:L.length=nps g tot):L.flatten.length=tot:=by
 rcases Zw L.length with h0 | h0
 ·have:L=[]:=YU h0
  subst this;have:¬ 0<nps g tot:=by rw[← hL];simp
  rw[kh hg]at this;simp
  omega
 ·have hj:L.length-1<L.length:=by omega
  have ar:(L.length-1)*g<tot:=(kh hg).1 (by omega);have hf:=nY h (L.length-1) (by omega) (by omega);have hn:¬ L.length<nps g tot:=by omega
  rw[kh hg]at hn
  have e:L.flatten=(L.take (L.length-1)).flatten++(L[L.length-1]++(L.drop (L.length-1+1)).flatten):=by
   conv=>lhs;rw[← ZZ (L.length-1) L,jas,Zz hj,jab]
  have hd:L.drop (L.length-1+1)=[]:=jau (by omega);rw[e,YC,hf,hd,List.flatten_nil,YZ,h _ hj]
  have:L.length*g=(L.length-1)*g+g:=by
   conv=>lhs;rw[show L.length=L.length-1+1 by omega,Zt,jad]
  omega
theorem dv{α β : Type}{d:List Nat->Except Nat (α×List Nat)}{f:α->List Nat->Except Nat (β×List Nat)}{b r:List Nat}{y:β}(h:ap d f b=.ok (y,r)):∃ x s,d b=.ok (x,s)/\f x s=.ok (y,r):=by
 cases hd:d b with
 | error e=>rw[bQ hd]at h;cases h
 | ok q =>
  obtain⟨x,s⟩:=q;rw[ct hd]at h;exact⟨x,s,rfl,h⟩
theorem uz{room n:Nat}{b r:List Nat}(h:fY room b=.ok (n,r)):n<=room:=by
 unfold fY at h;split at h
 ·cases h
 ·split at h
  ·cases h
  ·next h1 =>
   simp only[Except.ok.injEq,Prod.mk.injEq]at h;omega
theorem Px{b r:List Nat}{f:Fd}(h:su b=.ok (f,r)):Okf f:=by
 unfold su at h;obtain⟨i,s1,e1,h⟩:=dv h;obtain⟨t,s2,e2,h⟩:=dv h;obtain⟨k,s3,e3,h⟩:=dv h;obtain⟨n,s4,e4,h⟩:=dv h;simp only[Except.ok.injEq,Prod.mk.injEq]at h;obtain⟨rfl,_⟩:=h;have h1:=uz e1;have h3:=uz e3;exact⟨by show i<_;omega,by show k<_;omega⟩
theorem xm:∀{n:Nat} {b r:List Nat} {l:List Fd},jP n b=.ok (l,r)->∀ f∈l,Okf f
 | 0,b,r,l,h=>by
  simp only[jP,Except.ok.injEq,Prod.mk.injEq]at h;obtain⟨rfl,_⟩:=h;intro f hf;simp at hf
 | n+1,b,r,l,h=>by
  unfold jP at h;obtain⟨l1,s1,e1,h⟩:=dv h;obtain⟨f1,s2,e2,h⟩:=dv h;simp only[Except.ok.injEq,Prod.mk.injEq]at h;obtain⟨rfl,_⟩:=h;intro f hf;rcases Zg.1 hf with hf | hf
  ·exact xm e1 f hf
  ·rw[Zl.1 hf]
   exact Px e2
theorem rX{b r:List Nat}{id:Nat}{fs:List Fd}(h:cw b=.ok ((id,fs),r)):chk id fs=0/\id<4294967296/\∀ f∈fs,Okf f:=by
 unfold cw at h;obtain⟨q,s1,e1,h⟩:=dv h;unfold zD at e1;obtain⟨i,s2,e2,e1⟩:=dv e1;obtain⟨n,s3,e3,e1⟩:=dv e1;obtain⟨l,s4,e4,e1⟩:=dv e1;simp only[Except.ok.injEq,Prod.mk.injEq]at e1;obtain⟨rfl,rfl⟩:=e1;have h2:=uz e2;by_cases hc:chk i l=0
 ·rw[Yy hc]at h
  simp only[Except.ok.injEq,Prod.mk.injEq]at h;obtain⟨⟨rfl,rfl⟩,_⟩:=h;exact⟨hc,by omega,xm e4⟩
 ·rw[Yx hc]at h
  cases h
theorem BE{b:List Nat}(hb:Bs b){id g:Nat}{fs:List Fd}{gs:List Gr}(h:im b=some (id,fs,g,gs)) :
  chk id fs=0/\id<4294967296/\(∀ f∈fs,Okf f)/\1<=g/\g<=64/\(aZ gs).length<=256/\Gi fs (aZ gs)/\gs=(List.range (nps g (aZ gs).length)).map fun i=>grp fs (prt g (aZ gs) i):=by
 unfold im at h;split at h
 ·cases h
 ·split at h
  ·cases h
  ·split at h
   ·cases h
   ·next id' fs' r hu =>
    split at h
    ·cases h
    ·next hn =>
     simp only[Option.some.injEq,Prod.mk.injEq]at h;obtain⟨rfl,rfl,hg,rfl⟩:=h;obtain⟨hc,hi,ho⟩:=rX hu;have hk:=fS hc;have ja:=Bool.eq_false_iff.2 hn;have hs:=ja;unfold fR at hs;have iq:=nR (Zq _) hs;simp only[fiJ,Bool.or_eq_false_iff]at iq;have ew:=Gb iq.2;have gx:=pj 1 64 (cN r);obtain⟨L,h1,h2,h3,h4,h5⟩:=xl gx hk (hb.take _) _ hs;have ht:=EG (by omega) h3 h2
     have cz:aZ (fR fs' (b.take (b.length-4-leN (b.drop (b.length-4)))) r).1=L.flatten:=by
      unfold fR aZ;rw[h1,Zk];congr 1
      exact List.map_id'' (fun _=>rfl) _
     rw[cz,← hg];have Fh:=pj 0 256 r;refine⟨hc,hi,ho,ew,gx,by omega,?_,?_⟩
     ·intro x hx
      obtain⟨p,hp,hxp⟩:=List.mem_flatten.1 hx;exact h4 p hp x hxp
     ·unfold fR
      rw[h1,ht];apply List.ext_getElem?
      intro i;rw[List.getElem?_map,List.getElem?_map];by_cases Ld:i<L.length
      ·rw[List.getElem?_eq_getElem Ld,List.getElem?_range (by omega)]
       simp only[ZU];rw[Pw (by omega) h3 h2 Ld]
      ·rw[List.getElem?_eq_none (by omega),List.getElem?_eq_none (by simp;omega)]
       rfl
def St(T:Nat)(W:World)(p:Nat)(b:List Nat)(f:Nat):Prop :=
 ∃ a cap,W.heap[p]?=some (.cells #[.slice a b.length cap,.int .i64 (f:Int)] T (0,0))/\b.length<=cap/\cap<=maxLen/\Bs b/\(a=none->cap=0) /\
  (0<b.length->∃ g off,a=some ⟨g,off,none⟩/\g<p/\∀ j (h:j<b.length),W.cell? ⟨g,off+j,none⟩=some (.int .u8 (b[j]:Int)))
theorem St.bs{T:Nat}{W:World}{p:Nat}{b:List Nat}{f:Nat}(h:St T W p b f):Bs b:=by obtain⟨_,_,_,_,_,h,_⟩:=h;exact h
theorem St.lt{T:Nat}{W:World}{p:Nat}{b:List Nat}{f:Nat}(h:St T W p b f):p<W.heap.size:=by obtain⟨_,_,h,_⟩:=h;exact(Array.getElem?_eq_some_iff.1 h).1
theorem St.kept{T:Nat}{W W':World}{p B:Nat}{b:List Nat}{f:Nat}(h:St T W p b f)(hb:Below B W W')(hp:p<B):St T W' p b f:=by
 obtain⟨a,cap,h1,h2,h3,h4,h5,h6⟩:=h;refine⟨a,cap,(hb.block p hp).trans h1,h2,h3,h4,h5,fun h0=>?_⟩;obtain⟨g,off,e,hg,hc⟩:=h6 h0;exact⟨g,off,e,hg,fun j hj=>(hb.cell (p:=⟨g,off+j,none⟩) (show g<B by omega)).trans (hc j hj)⟩
theorem St.cells{T:Nat}{W:World}{p:Nat}{b:List Nat}{f:Nat}(h:St T W p b f) :
  ∃ a cap,W.cell? ⟨p,0,none⟩=some (.slice a b.length cap)/\W.cell? ⟨p,1,none⟩=some (.int .i64 (f:Int))/\W.frozen? ⟨p,0,none⟩=false/\W.frozen? ⟨p,1,none⟩=false /\
   b.length<=cap/\cap<=9223372036854775807/\Sv W (.slice a b.length cap) (az .u8 b)/\(a=none->cap=0) /\
   (∀ f':Nat,St T (W.setCell ⟨p,1,none⟩ (.int .i64 (f':Int))) p b f') /\
   (∀ A k,k<=b.length->(k=b.length->(A=none->cap-k=0))->(k<b.length->∃ g off,a=some ⟨g,off,none⟩/\A=some ⟨g,off+k,none⟩)->St T (W.setCell ⟨p,0,none⟩ (.slice A (b.length-k) (cap-k))) p (b.drop k) f):=by
 have ar:=h.lt;obtain⟨a,cap,h1,h2,h3,h4,h5,h6⟩:=h
 have fV:Sv W (.slice a b.length cap) (az .u8 b):=by
  refine⟨a,cap,by rw[am],by rw[am];omega,h3,h5,fun h0=>?_⟩;rw[am]at h0;obtain⟨g,off,e,hg,hc⟩:=h6 h0;refine⟨g,off,e,by omega,fun j x hj=>?_⟩
  have hj':j<b.length:=by
   have:=(List.getElem?_eq_some_iff.1 hj).1;rwa[am]at this
  rw[bG hj']at hj;rw[hc j hj'];exact hj
 refine⟨a,cap,by rw[an h1];rfl,by rw[an h1];rfl,by simp[World.frozen?,h1],by simp[World.frozen?,h1],h2,by unfold maxLen at h3;omega,fV,h5,fun f'=>?_,fun A k hk hA0 hA1=>?_⟩
 ·refine⟨a,cap,by rw[bY h1];rfl,h2,h3,h4,h5,fun h0=>?_⟩
  obtain⟨g,off,e,hg,hc⟩:=h6 h0;refine⟨g,off,e,hg,fun j hj=>?_⟩;rw[World.cell?_of_block (w:=W) (Below.heap_setCell _ _ _ _ (show g≠p by omega))];exact hc j hj
 ·have hl:(b.drop k).length=b.length-k:=Zf
  refine⟨A,cap-k,by rw[bY h1,hl];rfl,by omega,by omega,h4.drop k,fun hA=>?_,fun h0=>?_⟩
  ·rcases Zd k b.length with ar | eO
   ·obtain⟨g,off,_,e2⟩:=hA1 ar
    rw[hA]at e2;cases e2
   ·exact hA0 (by omega) hA
  ·have ar:k<b.length:=by omega
   obtain⟨g,off,e1,e2⟩:=hA1 ar;obtain⟨g',off',e,hg,hc⟩:=h6 (by omega);rw[e1]at e;simp only[Option.some.injEq,Addr.mk.injEq,and_true]at e;obtain⟨rfl,rfl⟩:=e;refine⟨g,off+k,e2,hg,fun j hj=>?_⟩;rw[World.cell?_of_block (w:=W) (Below.heap_setCell _ _ _ _ (show g≠p by omega)),ZR,hc (k+j) (by omega)];simp
theorem lh{w:World}{p f:Nat}{b:List Nat}(h:St 200 w p b f)(e:Nat) :
  Calls Tryz.prog 140 #[.pointer (some ⟨p,0,none⟩),.int .i64 (e:Int)] w fun r w'=>r=.returned (.tuple #[])/\St 200 w' p b (orf f e)/\Fr p w.heap.size w w':=by
 have HS:=ae h;obtain⟨a,cap,h0,h1,h2,h3,h4,h5,h6,h7,h8,h9⟩:=h.cells;have H8:=ae (h8 e);have HF:=ae ((Fr.refl p w.heap.size w).set 1 (.int .i64 (e:Int)));clear h h6 h8 h9;by_cases hf:((f:Int)==0)=true
 ·have hf':f=0:=by simpa using hf
  have HO:jaH (orf f e=e):=by show _=_;unfold orf;rw[Yy hf']
  clear hf';go_enter Tryz.func140,Tryz.ntmps140
  go_wp2_with fail;go_end0
  rw[HO.o];exact⟨rfl,H8.o,HF.o⟩
 ·have hff:((f:Int)==0)=false:=by simpa using hf
  have HO:jaH (orf f e=f):=by show _=_;unfold orf;rw[Yx (fun e=>hf (by simp[e]))]
  clear hf;go_enter Tryz.func140,Tryz.ntmps140
  go_wp2_with fail;go_end0
  rw[HO.o];exact⟨rfl,HS.o,Fr.refl _ _ _⟩
def EH(T:Nat){α : Type}(m:List Nat->Except Nat (α×List Nat))(val:α->Value)(ok:α->Prop)(p:Nat)(b:List Nat)(f:Nat)(w:World)(r:Ending)(w':World):Prop :=
 ∃(x:α) (b':List Nat) (f':Nat),r=.returned (val x)/\ok x/\St T w' p b' f'/\Rds m b f x b' f'/\Fr p w.heap.size w w'
theorem BF{room:Nat}{l:List Nat}{f:Nat}(hc:(gt l).2.2≠0):Rds (fY room) l f 0 l (orf f (gt l).2.2):=by
 have h:=xP (room:=room) (l:=l) (f:=f);rw[Yy (Or.inl hc),Yy (Or.inl hc),Yy hc]at h;exact h
theorem yL{room:Nat}{l:List Nat}{f:Nat}(hc:(gt l).2.2=0)(hn:room<(gt l).1):Rds (fY room) l f 0 l (orf f 40):=by
 have h:=xP (room:=room) (l:=l) (f:=f);rw[Yy (Or.inr hn),Yy (Or.inr hn),Yx (show ¬ (gt l).2.2≠0 by omega),Yy hn]at h;exact h
theorem EI{room:Nat}{l:List Nat}{f:Nat}(hc:(gt l).2.2=0)(hn:¬ room<(gt l).1):Rds (fY room) l f (gt l).1 (l.drop (gt l).2.1) f:=by
 have h:=xP (room:=room) (l:=l) (f:=f);have h2:¬ ((gt l).2.2≠0∨room<(gt l).1):=by omega
 rw[Yx h2,Yx h2,Yx (show ¬ (gt l).2.2≠0 by omega),Yx hn,show (if f=0 then 0 else f)=f by split<;>omega]at h;exact h
theorem Ti{b:List Nat}(h:(gt b).2.2=0)(hb:Bs b):0<(gt b).2.1/\(gt b).2.1<=b.length:=by
 obtain⟨n,u,c,hg⟩:∃ n u c,gt b=(n,u,c):=⟨_,_,_,rfl⟩;rw[hg]at h ⊢;simp only at h;subst h;obtain⟨_,h2,h3⟩:=LM hb hg;have:=tz n;have h4:=YE List.length h2;simp only[YC,Zf]at h4;simp only;omega
theorem gQ{w:World}{p f:Nat}{b:List Nat}(h:St 200 w p b f)(room:Nat)(hroom:room<18446744073709551616) :
  Calls Tryz.prog 178 #[.pointer (some ⟨p,0,none⟩),.int .u64 (room:Int)] w (EH 200 (fY room) (fun x=>.int .u64 ((x:Nat):Int)) (fun x=>x<=room) p b f w):=by
 have HS:=ae h;have HB:=ae h.bs;have qf:=ae (BF (room:=room) (l:=b) (f:=f));have jF:=ae (yL (room:=room) (l:=b) (f:=f));have qh:=ae (EI (room:=room) (l:=b) (f:=f));obtain⟨a,cap,h0,h1,h2,h3,h4,h5,h6,h7,h8,h9⟩:=h.cells;obtain⟨g1,g2,g3,g4⟩:=eI b;have HG:=ae (xQ HB.o h6);have HU:=ae (fun e=>Ti (b:=b) e HB.o);have Cc:=ae h6;have H9:=ae h9;clear h h6 h8 h9 g3;generalize gt b=x at *;obtain⟨n,u,c⟩:=x;simp only at *;unfold jG at HG;by_cases hc:c=0
 ·subst hc
  by_cases hn:room<n
  ·have hn':(n:Int) > (room:Int):=by omega
   have HR:=ae (jF.o rfl hn);clear qf jF qh;go_enter Tryz.func178,Tryz.ntmps178
   go_wp2_with fail;refine HG.o.mono ?_;rintro e w1 ⟨rfl,rfl⟩;go_wp2_with fail;refine(lh HS.o 40).mono ?_;rintro e w2 ⟨rfl,cP,cK⟩;have eP:=ae cP;clear cP;go_wp2_with fail;go_ret
   exact⟨0,b,_,rfl,Zq _,eP.o,HR.o,cK⟩
  ·have hn':¬ (n:Int) > (room:Int):=by omega
   have HR:=ae (qh.o rfl hn);clear qf jF qh;obtain⟨Vg,hu2⟩:=HU.o rfl;have gV:0<b.length:=(by omega)
   obtain⟨g,off,ha⟩:∃ g off,a=some ⟨g,off,none⟩:=by
    obtain⟨a',cap',e,_,_,_,hx⟩:=Cc.o;simp only[Value.slice.injEq]at e;obtain⟨b',off',e2,_⟩:=hx (by rw[am];exact gV);exact⟨b',off',e.1.trans e2⟩
   subst ha;obtain⟨A,hA⟩:∃ A,(if cap=u then (some ⟨g,off,none⟩:Option Addr) else some ⟨g,off+u,none⟩)=A:=⟨_,rfl⟩
   have co:=ae (H9.o A u hu2 (fun hk hA'=>by
    rw[hA']at hA;split at hA<;>cases hA) (fun hk=>⟨g,off,rfl,by rw[← hA,Yx (by omega)]⟩))
   have lz:=ae ((Fr.refl p w.heap.size w).set 0 (.slice A (b.length-u) (cap-u)));clear gV;go_enter Tryz.func178,Tryz.ntmps178
   go_wp2_with fail;refine HG.o.mono ?_;rintro e w1 ⟨rfl,rfl⟩;go_wp2_with fail;go_ret
   exact⟨n,b.drop u,f,rfl,by omega,co.o,HR.o,lz.o⟩
 ·have hnz:n=0:=by omega
  subst hnz;have hc':((c:Int) != 0)=true:=by simp[hc]
  have hn':¬ (0:Int) > (room:Int):=by omega
  have HR:=ae (qf.o hc);clear hc qf jF qh;go_enter Tryz.func178,Tryz.ntmps178
  go_wp2_with fail;refine HG.o.mono ?_;rintro e w1 ⟨rfl,rfl⟩;go_wp2_with fail;refine(lh HS.o c).mono ?_;rintro e w2 ⟨rfl,cP,cK⟩;have eP:=ae cP;clear cP;go_wp2_with fail;go_ret
  exact⟨0,b,_,rfl,Zq _,eP.o,HR.o,cK⟩
theorem uA{n:Nat}{l:List Nat}{f:Nat}(h:l.length<n):Rds (textR n) l f (ai []) l (orf f 30):=by
 refine⟨fun h0=>?_,fun h0=>by unfold orf;rw[Yx h0]⟩;unfold textR orf;rw[Yy h,Yy h0,Yx (by omega)]
theorem BG{n:Nat}{l:List Nat}{f:Nat}(h:¬ l.length<n):Rds (textR n) l f (ai (l.take n)) (l.drop n) f:=by
 refine⟨fun h0=>?_,fun _=>rfl⟩;unfold textR;rw[Yx h,Yy h0]
theorem Py{w:World}{p f:Nat}{b:List Nat}(h:St 200 w p b f) :
  Calls Tryz.prog 212 #[.pointer (some ⟨p,0,none⟩)] w (EH 200 (LN 16) (fun s=>.string s) (fun s=>s.size<=16) p b f w):=by
 have HN:=ae (gQ h 16 (by omega));clear h;go_enter Tryz.func212,Tryz.ntmps212
 go_wp2_with fail;refine HN.o.mono ?_;rintro e w1 ⟨n,b1,f1,rfl,hn,da,xB,cB⟩;have gI:=ae da;have qf:=ae xB;have eB:=ae cB;have aN:=ae da.bs;obtain⟨a,cap,h0,h1,h2,h3,h4,h5,h6,h7,h8,h9⟩:=da.cells;have Cc:=ae h6;have H9:=ae h9;have H7:=ae h7;clear da xB cB h6 h8 h9 h7 HN;by_cases hsh:b1.length<n
 ·have hsh':(n:Int) > (b1.length:Int):=by omega
  have HT:=ae (qf.o.bind (uA (f:=f1) hsh));go_wp2_with fail;refine(lh gI.o 30).mono ?_;rintro e w2 ⟨rfl,cP,cK⟩;have eP:=ae cP;have eT:=ae (eB.o.trans (cK.mono eB.o.size));clear cP cK;go_wp2_with fail;go_ret
  exact⟨ai [],b1,_,rfl,by show (ai []).size<=16;rw[bx];simp,eP.o,HT.o,eT.o⟩
 ·have hsh':¬ (n:Int) > (b1.length:Int):=by omega
  have HT:=ae (qf.o.bind (BG (f:=f1) hsh));have Le:=(Cc.o.take (k:=n) (by rw[am];omega));have e1:(az .u8 b1).take n=az .u8 (b1.take n):=by simp[az,jah]
  rw[e1]at Le;have hcv2:=Le.conv (aN.o.take n);rw[fD]at hcv2;have WC:jaH ((ai (b1.take n)).size<=16):=ae (by rw[bx,YH];omega);have hncap:(n:Int)<=(cap:Int):=by omega
  have hnlen:(n:Int)<=(b1.length:Int):=by omega
  have TT:(0:Int)<=(n:Int):=by omega
  have hnt:((n:Int)).toNat=n:=by omega
  clear Le e1;generalize ai (b1.take n)=TX at *;rcases Zw b1.length with hz | hp
  ·have mP:n=0:=by omega
   subst mP;cases a with
   | none =>
    have rZ:=H7.o rfl;subst rZ;have iq:=(H9.o none 0 (by omega) (fun _ _=>rfl) (fun h=>by omega));rw[hz]at iq;have co:=ae iq;have eT:=ae (eB.o.set 0 (.slice none 0 0));clear iq;go_wp2_with fail;go_ret
    exact⟨TX,b1.drop 0,f1,rfl,WC.o,co.o,HT.o,eT.o⟩
   | some ad =>
    have iq:=(H9.o (some ad) 0 (by omega) (fun _ hA'=>by cases hA') (fun h=>by omega));rw[hz]at iq;have co:=ae iq;have eT:=ae (eB.o.set 0 (.slice (some ad) 0 cap));clear iq;go_wp2_with fail;go_ret
    exact⟨TX,b1.drop 0,f1,rfl,WC.o,co.o,HT.o,eT.o⟩
  ·obtain⟨g,off,ha⟩:∃ g off,a=some ⟨g,off,none⟩:=by
    obtain⟨a',cap',e,_,_,_,hx⟩:=Cc.o;simp only[Value.slice.injEq]at e;obtain⟨b',off',e2,_⟩:=hx (by rw[am];exact hp);exact⟨b',off',e.1.trans e2⟩
   subst ha;obtain⟨A,hA⟩:∃ A,(if cap=n then (some ⟨g,off,none⟩:Option Addr) else some ⟨g,off+n,none⟩)=A:=⟨_,rfl⟩
   have co:=ae (H9.o A n (by omega) (fun hk hA'=>by
    rw[hA']at hA;split at hA<;>cases hA) (fun hk=>⟨g,off,rfl,by rw[← hA,Yx (by omega)]⟩))
   have eT:=ae (eB.o.set 0 (.slice A (b1.length-n) (cap-n)));go_wp2_with fail;go_ret
   exact⟨TX,b1.drop n,f1,rfl,WC.o,co.o,HT.o,eT.o⟩
def Mid(w:World)(p:Nat)(W:World)(b:List Nat)(f:Nat)(x0 x1 x2 x3:Value):Prop :=
 St 200 W p b f/\p<w.heap.size/\W.heap[w.heap.size]?=some (.cells #[.int .u32 0,.string ⟨#[]⟩,.int .u8 0,.bool false] 81 (0,0)) /\
 W.heap[w.heap.size+1]?=some (.cells #[x0,x1,x2,x3] 81 (0,0))/\Fr p w.heap.size w W
theorem Mid.begin{w:World}{p f:Nat}{b:List Nat}(h:St 200 w p b f) :
  Mid w p ((w.alloc (.cells #[.int .u32 0,.string ⟨#[]⟩,.int .u8 0,.bool false] 81)).alloc (.cells #[.int .u32 0,.string ⟨#[]⟩,.int .u8 0,.bool false] 81)) b f (.int .u32 0) (.string ⟨#[]⟩) (.int .u8 0) (.bool false):=by
 have hbW:=((Yz w.heap.size w).alloc (YA _) (.cells #[.int .u32 0,.string ⟨#[]⟩,.int .u8 0,.bool false] 81)).alloc (by rw[YB];omega) (.cells #[.int .u32 0,.string ⟨#[]⟩,.int .u8 0,.bool false] 81);have bN:(w.alloc (.cells #[.int .u32 0,.string ⟨#[]⟩,.int .u8 0,.bool false] 81)).heap.size=w.heap.size+1:=YB _ _;have aA:=aj (w.alloc (.cells #[.int .u32 0,.string ⟨#[]⟩,.int .u8 0,.bool false] 81)) (.cells #[.int .u32 0,.string ⟨#[]⟩,.int .u8 0,.bool false] 81);have hh0:=Zb w (.cells #[.int .u32 0,.string ⟨#[]⟩,.int .u8 0,.bool false] 81);have hh:=Zb (w.alloc (.cells #[.int .u32 0,.string ⟨#[]⟩,.int .u8 0,.bool false] 81)) (.cells #[.int .u32 0,.string ⟨#[]⟩,.int .u8 0,.bool false] 81);rw[bN]at hh;exact⟨h.kept hbW h.lt,h.lt,(aA.block w.heap.size (by omega)).trans hh0,hh,Fr.of_below hbW⟩
theorem Mid.call{w W W':World}{p f f':Nat}{b b':List Nat}{x0 x1 x2 x3:Value}(h:Mid w p W b f x0 x1 x2 x3)(hs:St 200 W' p b' f')(hf:Fr p W.heap.size W W'):Mid w p W' b' f' x0 x1 x2 x3:=by
 obtain⟨h1,h2,h3,h4,h5⟩:=h;have l3:=(Array.getElem?_eq_some_iff.1 h3).1;have l4:=(Array.getElem?_eq_some_iff.1 h4).1;exact⟨hs,h2,(hf.block _ l3 (by omega)).trans h3,(hf.block _ l4 (by omega)).trans h4,h5.trans (hf.mono (by omega))⟩
theorem Mid.facts{w W:World}{p f:Nat}{b:List Nat}{x0 x1 x2 x3:Value}(h:Mid w p W b f x0 x1 x2 x3) :
  (W.cell? ⟨w.heap.size+1,0,none⟩=some x0/\W.cell? ⟨w.heap.size+1,1,none⟩=some x1/\W.cell? ⟨w.heap.size+1,2,none⟩=some x2/\W.cell? ⟨w.heap.size+1,3,none⟩=some x3) /\
  (W.frozen? ⟨w.heap.size+1,0,none⟩=false/\W.frozen? ⟨w.heap.size+1,1,none⟩=false/\W.frozen? ⟨w.heap.size+1,2,none⟩=false/\W.frozen? ⟨w.heap.size+1,3,none⟩=false) /\
  (W.cell? ⟨w.heap.size,0,none⟩=some (.int .u32 0)/\W.cell? ⟨w.heap.size,1,none⟩=some (.string ⟨#[]⟩)/\W.cell? ⟨w.heap.size,2,none⟩=some (.int .u8 0)/\W.cell? ⟨w.heap.size,3,none⟩=some (.bool false)) /\
  (W.frozen? ⟨w.heap.size,0,none⟩=false/\W.frozen? ⟨w.heap.size,1,none⟩=false/\W.frozen? ⟨w.heap.size,2,none⟩=false/\W.frozen? ⟨w.heap.size,3,none⟩=false):=by
 obtain⟨h1,h2,h3,h4,h5⟩:=h;refine⟨⟨?_,?_,?_,?_⟩,⟨?_,?_,?_,?_⟩,⟨?_,?_,?_,?_⟩,⟨?_,?_,?_,?_⟩⟩<;>first | (rw[an h4];rfl) | (rw[an h3];rfl) | (simp[World.frozen?,h4];done) | (simp[World.frozen?,h3];done)
theorem Mid.keep{w W:World}{p f:Nat}{b:List Nat}{x0 x1 x2 x3:Value}(h:Mid w p W b f x0 x1 x2 x3)(j:Nat)(v:Value) :
  St 200 (W.setCell ⟨w.heap.size+1,j,none⟩ v) p b f/\(W.setCell ⟨w.heap.size+1,j,none⟩ v).heap[w.heap.size]?=some (.cells #[.int .u32 0,.string ⟨#[]⟩,.int .u8 0,.bool false] 81 (0,0))/\Fr p w.heap.size w (W.setCell ⟨w.heap.size+1,j,none⟩ v):=by
 obtain⟨h1,h2,h3,h4,h5⟩:=h;have hb:Below (w.heap.size+1) W (W.setCell ⟨w.heap.size+1,j,none⟩ v):=(Yz (w.heap.size+1) W).setCell (show w.heap.size+1<=w.heap.size+1 from YA _) _;exact⟨h1.kept hb (by omega),(hb.block _ (by omega)).trans h3,h5.then (hb.mono (by omega))⟩
theorem Mid.set0{w W:World}{p f:Nat}{b:List Nat}{x0 x1 x2 x3:Value}(h:Mid w p W b f x0 x1 x2 x3)(v:Value):Mid w p (W.setCell ⟨w.heap.size+1,0,none⟩ v) b f v x1 x2 x3 :=
 ⟨(h.keep 0 v).1,h.2.1,(h.keep 0 v).2.1,by rw[bY h.2.2.2.1];rfl,(h.keep 0 v).2.2⟩
theorem Mid.set1{w W:World}{p f:Nat}{b:List Nat}{x0 x1 x2 x3:Value}(h:Mid w p W b f x0 x1 x2 x3)(v:Value):Mid w p (W.setCell ⟨w.heap.size+1,1,none⟩ v) b f x0 v x2 x3 :=
 ⟨(h.keep 1 v).1,h.2.1,(h.keep 1 v).2.1,by rw[bY h.2.2.2.1];rfl,(h.keep 1 v).2.2⟩
theorem Mid.set2{w W:World}{p f:Nat}{b:List Nat}{x0 x1 x2 x3:Value}(h:Mid w p W b f x0 x1 x2 x3)(v:Value):Mid w p (W.setCell ⟨w.heap.size+1,2,none⟩ v) b f x0 x1 v x3 :=
 ⟨(h.keep 2 v).1,h.2.1,(h.keep 2 v).2.1,by rw[bY h.2.2.2.1];rfl,(h.keep 2 v).2.2⟩
theorem Mid.set3{w W:World}{p f:Nat}{b:List Nat}{x0 x1 x2 x3:Value}(h:Mid w p W b f x0 x1 x2 x3)(v:Value):Mid w p (W.setCell ⟨w.heap.size+1,3,none⟩ v) b f x0 x1 x2 v :=
 ⟨(h.keep 3 v).1,h.2.1,(h.keep 3 v).2.1,by rw[bY h.2.2.2.1];rfl,(h.keep 3 v).2.2⟩
theorem Mid.done{w W:World}{p f:Nat}{b:List Nat}{x0 x1 x2 x3:Value}(h:Mid w p W b f x0 x1 x2 x3)(y0 y1 y2 y3:Value) :
  St 200 ((((W.setCell ⟨w.heap.size,0,none⟩ y0).setCell ⟨w.heap.size,1,none⟩ y1).setCell ⟨w.heap.size,2,none⟩ y2).setCell ⟨w.heap.size,3,none⟩ y3) p b f /\
  Fr p w.heap.size w ((((W.setCell ⟨w.heap.size,0,none⟩ y0).setCell ⟨w.heap.size,1,none⟩ y1).setCell ⟨w.heap.size,2,none⟩ y2).setCell ⟨w.heap.size,3,none⟩ y3):=by
 obtain⟨h1,h2,h3,h4,h5⟩:=h
 have hb:Below w.heap.size W ((((W.setCell ⟨w.heap.size,0,none⟩ y0).setCell ⟨w.heap.size,1,none⟩ y1).setCell ⟨w.heap.size,2,none⟩ y2).setCell ⟨w.heap.size,3,none⟩ y3) :=
  have ob:w.heap.size<=w.heap.size:=YA _;((((Yz w.heap.size W).setCell (p:=⟨w.heap.size,0,none⟩) ob _).setCell (p:=⟨w.heap.size,1,none⟩) ob _).setCell (p:=⟨w.heap.size,2,none⟩) ob _).setCell (p:=⟨w.heap.size,3,none⟩) ob _
 exact⟨h1.kept hb h2,h5.then hb⟩
theorem Tj{b b1 b2 b3 b4:List Nat}{f f1 f2 f3 f4 i k n:Nat}{s:ByteArray}(h1:Rds (fY 4294967295) b f i b1 f1)(h2:Rds (LN 16) b1 f1 s b2 f2)(h3:Rds (fY 255) b2 f2 k b3 f3)(h4:Rds (fY 1) b3 f3 n b4 f4) :
  Rds su b f (i,s,k,decide (n=1)) b4 f4 :=
 h1.bind (h2.bind (h3.bind (h4.bind (Rds.pure (i,s,k,decide (n=1)) b4 f4))))
theorem Kf{w:World}{p f:Nat}{b:List Nat}(h:St 200 w p b f) :
  Calls Tryz.prog 179 #[.pointer (some ⟨p,0,none⟩)] w (EH 200 su nM (fun x=>Okf x/\x.2.1.size<=16) p b f w):=by
 have HM:=ae (Mid.begin h);have bN:(w.alloc (.cells #[.int .u32 0,.string ⟨#[]⟩,.int .u8 0,.bool false] 81)).heap.size=w.heap.size+1:=YB _ _;clear h;generalize hW:(w.alloc (.cells #[.int .u32 0,.string ⟨#[]⟩,.int .u8 0,.bool false] 81)).alloc (.cells #[.int .u32 0,.string ⟨#[]⟩,.int .u8 0,.bool false] 81)=W at *;go_enter Tryz.func179,Tryz.ntmps179
 go_wp2_with fail;try rw[hW]
 clear hW bN;refine(gQ HM.o.1 4294967295 (by omega)).mono ?_;rintro e w1 ⟨i,b1,f1,rfl,hi,da,xB,cB⟩;have QH:=ae (HM.o.call da cB);have qf:=ae xB;have HI:=ae hi;have hi':i<4294967296:=by omega
 obtain⟨⟨c0,c1,c2,c3⟩,⟨z0,z1,z2,z3⟩,_,_⟩:=QH.o.facts;clear da xB cB hi HM;go_wp2_with fail;have KJ:=ae (QH.o.set0 (.int .u32 (i:Int)));clear QH c0 c1 c2 c3 z0 z1 z2 z3;generalize hX:w1.setCell ⟨w.heap.size+1,0,none⟩ (.int .u32 (i:Int))=X at *;try rw[hX]
 clear hX;refine(Py KJ.o.1).mono ?_;rintro e w2 ⟨s,b2,f2,rfl,hs,cP,vO,cK⟩;have Xq:=ae (KJ.o.call cP cK);have jF:=ae vO;have HS:=ae hs;obtain⟨⟨c0,c1,c2,c3⟩,⟨z0,z1,z2,z3⟩,_,_⟩:=Xq.o.facts;clear cP vO cK hs KJ;go_wp2_with fail;have Uk:=ae (Xq.o.set1 (.string s));clear Xq c0 c1 c2 c3 z0 z1 z2 z3;generalize hX:w2.setCell ⟨w.heap.size+1,1,none⟩ (.string s)=Y at *;try rw[hX]
 clear hX;refine(gQ Uk.o.1 255 (by omega)).mono ?_;rintro e w3 ⟨k,b3,f3,rfl,hk,jX,Va,gC⟩;have HM5:=ae (Uk.o.call jX gC);have qh:=ae Va;have HK:=ae hk;have hk':k<256:=by omega
 obtain⟨⟨c0,c1,c2,c3⟩,⟨z0,z1,z2,z3⟩,_,_⟩:=HM5.o.facts;clear jX Va gC hk Uk;go_wp2_with fail;have Vh:=ae (HM5.o.set2 (.int .u8 (k:Int)));clear HM5 c0 c1 c2 c3 z0 z1 z2 z3;generalize hX:w3.setCell ⟨w.heap.size+1,2,none⟩ (.int .u8 (k:Int))=Z at *;try rw[hX]
 clear hX;refine(gQ Vh.o.1 1 (by omega)).mono ?_;rintro e w4 ⟨n,b4,f4,rfl,hn,uN,Vb,no⟩;have Vi:=ae (Vh.o.call uN no);have nw:=ae (Tj qf.o jF.o qh.o Vb);obtain⟨⟨c0,c1,c2,c3⟩,⟨z0,z1,z2,z3⟩,⟨y0,y1,y2,y3⟩,⟨u0,u1,u2,u3⟩⟩:=Vi.o.facts;clear uN Vb no hn Vh
 have hq:((n:Int)==1)=decide (n=1):=by
  by_cases h:n=1
  ·subst h;rfl
  ·rw[YO h];exact YN.2 (by omega)
 have HQ:=ae hq;clear hq;go_wp2_with fail;rw[HQ.o];obtain⟨d1,d2⟩:=(Vi.o.set3 (.bool (decide (n=1)))).done (.int .u32 (i:Int)) (.string s) (.int .u8 (k:Int)) (.bool (decide (n=1)));refine bodyPost_ret (v:=nM (i,s,k,decide (n=1))) (by simp[results,Tryz.results179,go_sem,nM,y0,y1,y2,y3]) rfl ?_;exact⟨_,_,_,rfl,⟨⟨by have:=HI.o;show i<4294967296;omega,by have:=HK.o;show k<256;omega⟩,HS.o⟩,d1,nw.o,d2⟩
end Go.Proofs.YtpljdjmpamjkhaaGreatDoor
