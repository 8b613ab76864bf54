import Derived.Test.YtpljdjmpamjkhaaGreatDoorWaw
set_option linter.unusedVariables false
set_option linter.unusedSimpArgs false
set_option maxRecDepth 100000
set_option maxHeartbeats 4000000
namespace Go.Proofs.YtpljdjmpamjkhaaGreatDoor
open Go.RowKit Go.Lib
def PJ(fs:List Fd)(t:PT)(r:Row):Bool:=ii fs r t==2
def lj(fs:List Fd)(t:PT)(rows:List Row):List Row:=rows.filter (PJ fs t)
theorem Km{fs:List Fd}{t:PT}{rows:List Row}{k:Nat}(h:k<rows.length):lj fs t (rows.take (k+1))=lj fs t (rows.take k)++(if PJ fs t rows[k]=true then [rows[k]] else []):=by
 unfold lj;rw[YP h,jaq];simp[jaC]
theorem uH(fs:List Fd)(t:PT)(rows:List Row):(lj fs t rows).length<=rows.length:=jao _ _
theorem yR{w:World}{B fp id op f:Nat}{fv gv kv a b:Value}{fs:List Fd}{rows:List Row}{sts:List Stt}{c:Cl}{ks:List PT}(kk:w.heap[fp]?=some (.cells #[.int .u32 (id:Int),fv,gv] 105 (0,0)))(xz:Sf w fv fs)(hg:Gro w B (.agg #[a,b]) rows sts)
  (hk:qB w kv ks) (Cn:∀ U rv r,Below w.heap.size w U->Sv U rv (aC r)->(∀ x∈r,aI x)->Calls Tryz.prog 113 #[.agg #[.int .u8 (op:Int),.int .u32 (f:Int),.int .u8 (c.1:Int),.int .i64 c.2.1,.string (ai c.2.2),kv],.agg #[.int .u32 (id:Int),fv],rv] U fun e w'=>e=.returned (.int .u8 (ii fs r (.node op f c ks):Int))/\Below U.heap.size U w') (hr:∀ r∈rows,r.length<=1000/\∀ x∈r,aI x) (hl:rows.length<=1000) :
  Calls Tryz.prog 67 #[.pointer (some ⟨fp,0,none⟩),.agg #[a,b],.agg #[.int .u8 (op:Int),.int .u32 (f:Int),.int .u8 (c.1:Int),.int .i64 c.2.1,.string (ai c.2.2),kv]] w
   fun e w'=>(∃ v l,e=.returned v/\Ow w' w.heap.size v l/\l.map Prod.snd=lj fs (.node op f c ks) rows)/\Below w.heap.size w w':=by
 obtain⟨R,rfl,hR1,hR2,hR3,iO⟩:=hg.rows;obtain⟨fa,fc,rfl,_,_⟩:=xz.form;obtain⟨ka,kc,rfl,_,_⟩:=hk.form;have KY:=(Array.getElem?_eq_some_iff.1 kk).1;have aA:=aj w (.cells #[.slice (some ⟨R,0,none⟩) rows.length rows.length,b] 109);obtain⟨g0,g1⟩:=aR w (.slice (some ⟨R,0,none⟩) rows.length rows.length) b 109;have ay:=aj (w.alloc (.cells #[.slice (some ⟨R,0,none⟩) rows.length rows.length,b] 109)) (.cells #[.int .u8 (op:Int),.int .u32 (f:Int),.int .u8 (c.1:Int),.int .i64 c.2.1,.string (ai c.2.2),.slice ka ks.length kc] 63);obtain⟨p0,p1,p2,p3,p4,p5⟩:=qC (w.alloc (.cells #[.slice (some ⟨R,0,none⟩) rows.length rows.length,b] 109)) (.int .u8 (op:Int)) (.int .u32 (f:Int)) (.int .u8 (c.1:Int)) (.int .i64 c.2.1) (.string (ai c.2.2)) (.slice ka ks.length kc) 63;have cG:(w.alloc (.cells #[.slice (some ⟨R,0,none⟩) rows.length rows.length,b] 109)).heap.size=w.heap.size+1:=YB _ _;have bh:((w.alloc (.cells #[.slice (some ⟨R,0,none⟩) rows.length rows.length,b] 109)).alloc (.cells #[.int .u8 (op:Int),.int .u32 (f:Int),.int .u8 (c.1:Int),.int .i64 c.2.1,.string (ai c.2.2),.slice ka ks.length kc] 63)).heap.size=w.heap.size+2:=by rw[YB,YB]
 have g0':=(ay.cell (p:=⟨w.heap.size,0,none⟩) (by show w.heap.size<_;omega)).trans g0;rw[cG]at p0 p1 p2 p3 p4 p5;have lE:=ag aA ay;generalize hA:(w.alloc (.cells #[.slice (some ⟨R,0,none⟩) rows.length rows.length,b] 109)).alloc (.cells #[.int .u8 (op:Int),.int .u32 (f:Int),.int .u8 (c.1:Int),.int .i64 c.2.1,.string (ai c.2.2),.slice ka ks.length kc] 63)=A at *
 have HT:jaH (∀ U,Below A.heap.size A U->U.cell? ⟨fp,0,none⟩=some (.int .u32 (id:Int))/\U.cell? ⟨fp,1,none⟩=some (.slice fa fs.length fc)/\U.cell? ⟨w.heap.size,0,none⟩=some (.slice (some ⟨R,0,none⟩) rows.length rows.length) /\
   U.cell? ⟨w.heap.size+1,0,none⟩=some (.int .u8 (op:Int))/\U.cell? ⟨w.heap.size+1,1,none⟩=some (.int .u32 (f:Int))/\U.cell? ⟨w.heap.size+1,2,none⟩=some (.int .u8 (c.1:Int))/\U.cell? ⟨w.heap.size+1,3,none⟩=some (.int .i64 c.2.1)/\U.cell? ⟨w.heap.size+1,4,none⟩=some (.string (ai c.2.2))/\U.cell? ⟨w.heap.size+1,5,none⟩=some (.slice ka ks.length kc)):=ae (fun U hU=>by
  have hfU:=(hU.block fp (by omega)).trans ((lE.block fp KY).trans kk);refine⟨by rw[an hfU];rfl,by rw[an hfU];rfl,(hU.cell (p:=⟨w.heap.size,0,none⟩) (by show w.heap.size<_;omega)).trans g0',?_,?_,?_,?_,?_,?_⟩
  ·exact(hU.cell (p:=⟨w.heap.size+1,0,none⟩) (by show w.heap.size+1<_;omega)).trans p0
  ·exact(hU.cell (p:=⟨w.heap.size+1,1,none⟩) (by show w.heap.size+1<_;omega)).trans p1
  ·exact(hU.cell (p:=⟨w.heap.size+1,2,none⟩) (by show w.heap.size+1<_;omega)).trans p2
  ·exact(hU.cell (p:=⟨w.heap.size+1,3,none⟩) (by show w.heap.size+1<_;omega)).trans p3
  ·exact(hU.cell (p:=⟨w.heap.size+1,4,none⟩) (by show w.heap.size+1<_;omega)).trans p4
  ·exact(hU.cell (p:=⟨w.heap.size+1,5,none⟩) (by show w.heap.size+1<_;omega)).trans p5)
 have HROW:jaH (∀ U,Below A.heap.size A U->∀ i (h:i<rows.length),∃ ra rc,U.cell? ⟨R,i,none⟩=some (.slice ra rows[i].length rc)/\Sv U (.slice ra rows[i].length rc) (aC rows[i])/\rows[i].length<=1000/\∀ x∈rows[i],aI x):=ae (fun U hU i hi=>by
  obtain⟨rv,e1,e2⟩:=iO i hi;have fs':=e2.sv;obtain⟨ra,rc,rfl,_,_⟩:=fs'.form1;rw[ax]at *;have hbU:=lE.trans (hU.mono lE.size);exact⟨ra,rc,(hbU.cell (p:=⟨R,i,none⟩) hR2).trans e1,fs'.kept hbU,hr _ (YF hi)⟩)
 have HEV:jaH (∀ U ra n rc r,Below A.heap.size A U->Sv U (.slice ra n rc) (aC r)->(∀ x∈r,aI x)->Calls Tryz.prog 113 #[.agg #[.int .u8 (op:Int),.int .u32 (f:Int),.int .u8 (c.1:Int),.int .i64 c.2.1,.string (ai c.2.2),.slice ka ks.length kc],.agg #[.int .u32 (id:Int),.slice fa fs.length fc],.slice ra n rc] U
   fun e w'=>e=.returned (.int .u8 (ii fs r (.node op f c ks):Int))/\Below U.heap.size U w'):=ae (fun U ra n rc r hU hs QT=>by
  have hbU:=lE.trans (hU.mono lE.size);exact Cn U _ r hbU hs QT)
 have jb:=ae lE;have Yc:=ae (fun k (h:k<rows.length)=>Km (fs:=fs) (t:=.node op f c ks) h);have HHM:jaH (∀ r,PJ fs (.node op f c ks) r=(ii fs r (.node op f c ks)==2)):=ae (fun r=>rfl);have HHL:=ae (fun k=>uH fs (.node op f c ks) (rows.take k));have Ls:jaH (lj fs (.node op f c ks) (rows.take rows.length)=lj fs (.node op f c ks) rows):=ae (by rw[YK]);generalize (PT.node op f c ks)=T at *;clear kk xz hg hk Cn hr iO aA ay g0 g1 p0 p1 p2 p3 p4 p5 g0' lE;obtain⟨c0,c1,c2,d0,d1,d2,d3,d4,d5⟩:=HT.o A (Yz _ _);have Gz:=ae bh;clear bh cG;generalize c.1=k0 at *;generalize c.2.1=k1 at *;generalize ai c.2.2=k2 at *;go_enter Tryz.func67,Tryz.ntmps67
 go_wp2_with fail;try rw[hA]
 go_loopw [7,13] (fun o i wr=>∃(j:Nat) (l:List (Value×Row)),j<=rows.length/\i=.int .i64 (j:Int)/\Ow wr A.heap.size o l/\l.map Prod.snd=lj fs T (rows.take j)/\Below A.heap.size A wr) (fun _ i _=>rows.length-(intOf i).toNat)
 case atStart=>exact⟨0,[],by omega,rfl,Ow.nil _ _,rfl,Yz _ _⟩
 case round =>
  obtain⟨j,l,hj,rfl,how,xC,ao⟩:=hrel;have HO:=ae how;have HB:=ae ao;have qg:=ae xC;have bM:=ao.size
  have jD:l.length<=rows.length:=by
   have h1:=YE List.length xC;have h2:=HHL.o j;rw[YD]at h1;rw[YH]at h2;omega
  clear how ao xC;obtain⟨c0,c1,c2,d0,d1,d2,d3,d4,d5⟩:=HT.o wr HB.o;obtain⟨la,lc,rfl,Qn,yV,_⟩:=HO.o.form;by_cases ar:j<rows.length
  ·have hlt':(j:Int)<(rows.length:Int):=by omega
   obtain⟨ra,rc,ek,fV,pS,QT⟩:=HROW.o wr HB.o j ar;have Cc:=ae fV;have jz:=ae (Yc.o j ar);have XA:=ae (HHM.o rows[j])
   have XB:jaH (∀ U,Below wr.heap.size wr U->Calls Tryz.prog 113 #[.agg #[.int .u8 (op:Int),.int .u32 (f:Int),.int .u8 (k0:Int),.int .i64 k1,.string k2,.slice ka ks.length kc],.agg #[.int .u32 (id:Int),.slice fa fs.length fc],.slice ra rows[j].length rc] U
     fun e w'=>e=.returned (.int .u8 (ii fs rows[j] T:Int))/\Below wr.heap.size wr w'):=ae (fun U hU=>by
    refine(HEV.o U ra _ rc rows[j] (HB.o.trans (hU.mono bM)) (fV.kept hU) QT).mono ?_;rintro e w' ⟨rfl,hb⟩;exact⟨rfl,ag hU hb⟩)
   obtain⟨E,hE⟩:∃ E,ii fs rows[j] T=E:=⟨_,rfl⟩;rw[hE]at XB XA;have Un:jaH (PJ fs T rows[j]=(E==2)):=ae XA.o;clear hE XA fV QT;generalize rows[j]=r at *;go_upto_region 5 with fail
   go_cut [24] from 32 (fun v wx=>v=.bool ((E:Int)==2)/\Below wr.heap.size wr wx)
   case first =>
    refine wp_region_noPanic ?_
    go_region_law (first
     | (go_simp;go_at_call 113;refine(XB.o _ ?_).mono ?_;exact ak (Yz wr.heap.size wr) _;rintro e w1 ⟨rfl,aA⟩;have aN:=ae aA;clear aA;dsimp only)
     | fail)
    all_goals refine NoPanic.normal ?_
    all_goals go_wp2_with fail
    all_goals go_meet
    all_goals exact⟨rfl,aN.o⟩
   case rest =>
   obtain⟨rfl,pY⟩:=hcut;obtain⟨w1,hw1⟩:∃ w1,w1=wc:=⟨_,rfl⟩;subst hw1;have aN:=ae pY;clear pY;have HBW1:=ae (HB.o.trans (aN.o.mono bM));have cG:=aN.o.size;clear XB c0 c1 c2 d0 d1 d2 d3 d4 d5 ek;by_cases hE2:E=2
   ·have hEq:((E:Int)==2)=true:=by rw[hE2];rfl
    have XC:jaH (lj fs T (rows.take (j+1))=lj fs T (rows.take j)++[r]):=ae (by rw[jz.o,Un.o,hE2];rfl);have mH:=ae (nO (Cc.o.kept aN.o) pS);have fK:=ae (HO.o.kept aN.o);clear jz Un hE2 HO;go_wp2_with fail;refine mH.o.mono ?_;rintro e w2 ⟨⟨v2,rfl,ex⟩,ay⟩;have ec:=ae (fK.o.kept ay);have WP:=ae ex;have aK:=ae (HBW1.o.trans (ay.mono (by omega)));have bh:=ay.size;obtain⟨ra',rc',rfl,_,_⟩:=bf ex;have jI:=ae (aX w2 (.slice ra' r.length rc') 79);clear ay ex mH fK;go_wp2_with (first | (at_builtin;refine fB rfl _ _ rfl A.heap.size _ _ l [(.slice ra' r.length rc',r)] rfl (ec.o.kept (aj _ _)) rfl (mF jI.o (by rw[YB];omega)) ?c1 ?c2 ?c3 ?_))
    case c1 =>
     intro x hx;rw[Zl.1 hx];exact(WP.o.kept (aj _ _)).of_le (by omega)
    case c2=>simp only[Zj];omega
    case c3=>rw[YB];omega
    intro v' w5 o5 b5;have cQ:=ae o5;have aJ:=ae ((aK.o.alloc (by omega) _).trans b5);clear o5 b5;go_wp2_with fail;go_roundw
    case rel=>exact⟨j+1,_,by omega,by go_num,cQ.o,by rw[XC.o,YX,qg.o];rfl,aJ.o⟩
    case measure=>simp[intOf];omega
   ·have hEq:((E:Int)==2)=false:=by simp;omega
    have XC:jaH (lj fs T (rows.take (j+1))=lj fs T (rows.take j)):=ae (by
     have:(E==2)=false:=by simpa using hE2
     rw[jz.o,Un.o,this];simp)
    have fK:=ae (HO.o.kept aN.o);clear jz Un hE2 HO;go_wp2_with fail;go_roundw
    case rel=>exact⟨j+1,l,by omega,by go_num,fK.o,by rw[XC.o,qg.o],HBW1.o⟩
    case measure=>simp[intOf];omega
  ·obtain rfl:j=rows.length:=by omega
   have eO:¬ ((rows.length:Nat):Int)<(rows.length:Int):=(by omega);have Ck:jaH (l.map Prod.snd=lj fs T rows):=ae (qg.o.trans Ls.o);go_wp2_with fail;go_ret
   have Cf:w.heap.size<=A.heap.size:=by have:=Gz.o;omega
   first | exact⟨⟨_,_,rfl,HO.o.low Cf,Ck.o⟩,ag jb.o HB.o⟩ | exact⟨⟨_,rfl,_,HO.o.low Cf,Ck.o⟩,ag jb.o HB.o⟩
theorem Gro.stats{W:World}{B:Nat}{a b:Value}{rows:List Row}{sts:List Stt}(h:Gro W B (.agg #[a,b]) rows sts):Ss W b sts:=by
 obtain⟨R,rvs,vs,e,_,_,h3⟩:=h;simp only[Value.agg.injEq,Array.mk.injEq,List.cons.injEq,and_true]at e;obtain⟨_,rfl⟩:=e;exact Wh.ss (B:=B) h3
theorem Wo(a b c:Bool)(w:World):(Instr.index 123 (.agg #[.bool a,.bool b,.bool c]) (.int .u8 2)).run Tryz.prog w=.ok (.bool c) w:=by
 cases a<;>cases b<;>cases c<;>kernel_rfl
def vK(fs:List Fd)(t:PT)(g:Gr):Bool:=VR (mM fs g.2 t) 2
def iG(fs:List Fd)(t:PT)(gs:List Gr):List Row:=(gs.filter (vK fs t)).flatMap fun g=>lj fs t g.1
def gG(fs:List Fd)(t:PT)(gs:List Gr):Nat:=(gs.filter (vK fs t)).length
theorem EW{fs:List Fd}{t:PT}{gs:List Gr}{k:Nat}(h:k<gs.length):iG fs t (gs.take (k+1))=iG fs t (gs.take k)++(if vK fs t gs[k]=true then lj fs t gs[k].1 else []):=by
 unfold iG;rw[YP h,jaq,ZS];cases hm:vK fs t gs[k]<;>simp[jaC,hm]
theorem EX{fs:List Fd}{t:PT}{gs:List Gr}{k:Nat}(h:k<gs.length):gG fs t (gs.take (k+1))=gG fs t (gs.take k)+(if vK fs t gs[k]=true then 1 else 0):=by
 unfold gG;rw[YP h,jaq,YC];cases hm:vK fs t gs[k]<;>simp[jaC,hm]
theorem xp(fs:List Fd)(t:PT):∀ gs:List Gr,(iG fs t gs).length<=(aZ gs).length
 | []=>YA _
 | g::gs=>by
  have h:=xp fs t gs;have h2:=uH fs t g.1;unfold iG aZ at *;rw[jaC];split
  ·simp only[jaa,YC,Zh,jab]
   omega
  ·simp only[Zh,jab,YC]
   omega
theorem Kn(fs:List Fd)(t:PT)(gs:List Gr):gG fs t gs<=gs.length:=jao _ _
theorem EY{w:World}{B fp id op f:Nat}{fv kv:Value}{fs:List Fd}{gs:List Gr}{c:Cl}{ks:List PT}(h:Fil w B fp id fv gs)(xz:Sf w fv fs)
  (hk:qB w kv ks) (Cn:∀ U rv r,Below w.heap.size w U->Sv U rv (aC r)->(∀ x∈r,aI x)->Calls Tryz.prog 113 #[.agg #[.int .u8 (op:Int),.int .u32 (f:Int),.int .u8 (c.1:Int),.int .i64 c.2.1,.string (ai c.2.2),kv],.agg #[.int .u32 (id:Int),fv],rv] U fun e w'=>e=.returned (.int .u8 (ii fs r (.node op f c ks):Int))/\Below U.heap.size U w')
  (hmay:∀ U rv sts,Below w.heap.size w U->Ss U rv sts->(∀ s∈sts,Oks s)->Calls Tryz.prog 66 #[.agg #[.int .u8 (op:Int),.int .u32 (f:Int),.int .u8 (c.1:Int),.int .i64 c.2.1,.string (ai c.2.2),kv],.agg #[.int .u32 (id:Int),fv],rv] U fun e w'=>e=.returned (b3V (mM fs sts (.node op f c ks)))/\Below U.heap.size U w') (hr:∀ r∈aZ gs,r.length<=1000/\∀ x∈r,aI x) (sW:(aZ gs).length<=1000) (Ve:gs.length<=100000) (iq:∀ g∈gs,∀ s∈g.2,Oks s) (k:Int) (N:Nat) (RR:List Row) (hN0:k=0->N=gG fs (.node op f c ks) gs/\RR=iG fs (.node op f c ks) gs) (hN1:k≠0->N=0/\RR=[])
  (KX:∀ U,Below w.heap.size w U->Calls Tryz.prog 65 #[.agg #[.int .u8 (op:Int),.int .u32 (f:Int),.int .u8 (c.1:Int),.int .i64 c.2.1,.string (ai c.2.2),kv],.agg #[.int .u32 (id:Int),fv]] U fun e w'=>e=.returned (.int .i64 k)/\Below U.heap.size U w') :
  Calls Tryz.prog 28 #[.pointer (some ⟨fp,0,none⟩),.agg #[.int .u8 (op:Int),.int .u32 (f:Int),.int .u8 (c.1:Int),.int .i64 c.2.1,.string (ai c.2.2),kv]] w
   fun e w'=>(∃ v l,e=.returned (.tuple #[v,.int .i64 (N:Int)])/\Ow w' w.heap.size v l/\l.map Prod.snd=RR)/\Below w.heap.size w w':=by
 obtain⟨gv,xs,h1,h2,h3,h4⟩:=h;obtain⟨ga,gc,rfl,hgc,hgm⟩:=bf h3;obtain⟨fa,fc,rfl,_,_⟩:=xz.form;obtain⟨ka,kc,rfl,_,_⟩:=hk.form;have KY:=(Array.getElem?_eq_some_iff.1 h1).1;have aA:=aj w (.cells #[.int .u8 (op:Int),.int .u32 (f:Int),.int .u8 (c.1:Int),.int .i64 c.2.1,.string (ai c.2.2),.slice ka ks.length kc] 63);obtain⟨p0,p1,p2,p3,p4,p5⟩:=qC w (.int .u8 (op:Int)) (.int .u32 (f:Int)) (.int .u8 (c.1:Int)) (.int .i64 c.2.1) (.string (ai c.2.2)) (.slice ka ks.length kc) 63;have cG:(w.alloc (.cells #[.int .u8 (op:Int),.int .u32 (f:Int),.int .u8 (c.1:Int),.int .i64 c.2.1,.string (ai c.2.2),.slice ka ks.length kc] 63)).heap.size=w.heap.size+1:=YB _ _;generalize hA:w.alloc (.cells #[.int .u8 (op:Int),.int .u32 (f:Int),.int .u8 (c.1:Int),.int .i64 c.2.1,.string (ai c.2.2),.slice ka ks.length kc] 63)=A at *
 have HT:jaH (∀ U,Below A.heap.size A U->U.cell? ⟨fp,0,none⟩=some (.int .u32 (id:Int))/\U.cell? ⟨fp,1,none⟩=some (.slice fa fs.length fc)/\U.cell? ⟨fp,2,none⟩=some (.slice ga gs.length gc) /\
   U.cell? ⟨w.heap.size,0,none⟩=some (.int .u8 (op:Int))/\U.cell? ⟨w.heap.size,1,none⟩=some (.int .u32 (f:Int))/\U.cell? ⟨w.heap.size,2,none⟩=some (.int .u8 (c.1:Int))/\U.cell? ⟨w.heap.size,3,none⟩=some (.int .i64 c.2.1)/\U.cell? ⟨w.heap.size,4,none⟩=some (.string (ai c.2.2))/\U.cell? ⟨w.heap.size,5,none⟩=some (.slice ka ks.length kc)):=ae (fun U hU=>by
  have hfU:=(hU.block fp (by omega)).trans ((aA.block fp KY).trans h1);refine⟨by rw[an hfU];rfl,by rw[an hfU];rfl,by rw[an hfU];rfl,?_,?_,?_,?_,?_,?_⟩
  ·exact(hU.cell (p:=⟨w.heap.size,0,none⟩) (by show w.heap.size<_;omega)).trans p0
  ·exact(hU.cell (p:=⟨w.heap.size,1,none⟩) (by show w.heap.size<_;omega)).trans p1
  ·exact(hU.cell (p:=⟨w.heap.size,2,none⟩) (by show w.heap.size<_;omega)).trans p2
  ·exact(hU.cell (p:=⟨w.heap.size,3,none⟩) (by show w.heap.size<_;omega)).trans p3
  ·exact(hU.cell (p:=⟨w.heap.size,4,none⟩) (by show w.heap.size<_;omega)).trans p4
  ·exact(hU.cell (p:=⟨w.heap.size,5,none⟩) (by show w.heap.size<_;omega)).trans p5)
 have HG:jaH (∀ j (hj:j<gs.length),∃ G R va vn vc,ga=some ⟨G,0,none⟩/\∀ U,Below A.heap.size A U->U.cell? ⟨G,j*2,none⟩=some (.slice (some ⟨R,0,none⟩) gs[j].1.length gs[j].1.length)/\U.cell? ⟨G,j*2+1,none⟩=some (.slice va vn vc)/\Gro U B (.agg #[.slice (some ⟨R,0,none⟩) gs[j].1.length gs[j].1.length,.slice va vn vc]) gs[j].1 gs[j].2):=ae (fun j hj=>by
  obtain⟨a,b,e1,e2,e3⟩:=h4 j hj;obtain⟨R,rfl,g1,g2,⟨va,vn,vc,rfl⟩,g4⟩:=e3.rows;obtain⟨G,rfl,_,hG,jy⟩:=eN h3 e1;obtain⟨_,e,_,_,jH⟩:=eN h3 e2;cases e
  refine⟨G,R,va,vn,vc,rfl,fun U hU=>?_⟩;have hb:=aA.trans (hU.mono aA.size);exact⟨(hb.cell (p:=⟨G,j*2,none⟩) hG).trans (by rw[Zi];exact jy),(hb.cell (p:=⟨G,j*2+1,none⟩) hG).trans (by rw[Zi j];exact jH),e3.turn fun q _ _ _ k2 _ _ _=>hb.block q k2⟩)
 have oo:jaH (∀ U,Below A.heap.size A U->Calls Tryz.prog 65 #[.agg #[.int .u8 (op:Int),.int .u32 (f:Int),.int .u8 (c.1:Int),.int .i64 c.2.1,.string (ai c.2.2),.slice ka ks.length kc],.agg #[.int .u32 (id:Int),.slice fa fs.length fc]] U fun e w'=>e=.returned (.int .i64 k)/\Below A.heap.size A w'):=ae (fun U hU=>by
  refine(KX U (aA.trans (hU.mono aA.size))).mono ?_;rintro e w' ⟨rfl,hb⟩;exact⟨rfl,ag hU hb⟩)
 have HMY:jaH (∀ U rv sts,Below A.heap.size A U->Ss U rv sts->(∀ s∈sts,Oks s)->Calls Tryz.prog 66 #[.agg #[.int .u8 (op:Int),.int .u32 (f:Int),.int .u8 (c.1:Int),.int .i64 c.2.1,.string (ai c.2.2),.slice ka ks.length kc],.agg #[.int .u32 (id:Int),.slice fa fs.length fc],rv] U
   fun e w'=>e=.returned (b3V (mM fs sts (.node op f c ks)))/\Below U.heap.size U w'):=ae (fun U rv sts hU hs hos=>by
  have hb:=aA.trans (hU.mono aA.size);exact hmay U rv sts hb hs hos)
 have zk:jaH (∀ U a b j (hj:j<gs.length),Below A.heap.size A U->Gro U B (.agg #[a,b]) gs[j].1 gs[j].2->Calls Tryz.prog 67 #[.pointer (some ⟨fp,0,none⟩),.agg #[a,b],.agg #[.int .u8 (op:Int),.int .u32 (f:Int),.int .u8 (c.1:Int),.int .i64 c.2.1,.string (ai c.2.2),.slice ka ks.length kc]] U
   fun e w'=>(∃ v l,e=.returned v/\Ow w' U.heap.size v l/\l.map Prod.snd=lj fs (.node op f c ks) gs[j].1)/\Below U.heap.size U w'):=ae (fun U a b j hj hU hg=>by
  have hb:=aA.trans (hU.mono aA.size);have h5:=gR hj;have h6:=cT gs (j+1);rw[h5,YC]at h6;exact yR ((hb.block fp KY).trans h1) (xz.kept hb) hg (hk.kept hb) (fun U2 rv2 r2 hU2=>Cn U2 rv2 r2 (hb.trans (hU2.mono hb.size))) (fun r hh=>hr r (uE hj hh)) (by omega))
 have Yr:=ae hN0;have Fj:=ae hN1;have co:=ae (fun j (hj:j<gs.length)=>iq _ (YF hj));have jb:=ae aA;have qf:=ae (fun j (hj:j<gs.length)=>EW (fs:=fs) (t:=.node op f c ks) hj);have HNT:=ae (fun j (hj:j<gs.length)=>EX (fs:=fs) (t:=.node op f c ks) hj);have HMG:jaH (∀ g:Gr,vK fs (.node op f c ks) g=(mM fs g.2 (.node op f c ks)).2.2):=ae (fun g=>rfl);have Kz:=ae (fun j=>YG (xp fs (.node op f c ks) (gs.take j)) (cT gs j));have XZ:=ae (fun j=>YG (Kn fs (.node op f c ks) (gs.take j)) (show (gs.take j).length<=gs.length by rw[YH];omega));have HRA:jaH (iG fs (.node op f c ks) (gs.take gs.length)=iG fs (.node op f c ks) gs):=ae (by rw[YK]);have GC:jaH (gG fs (.node op f c ks) (gs.take gs.length)=gG fs (.node op f c ks) gs):=ae (by rw[YK]);have Uc:jaH (iG fs (.node op f c ks) (gs.take 0)=[]):=ae rfl;have HNZ:jaH (gG fs (.node op f c ks) (gs.take 0)=0):=ae rfl;have HHL:=ae (fun rows=>uH fs (.node op f c ks) rows);generalize (PT.node op f c ks)=T at *;have zg:=ae sW;clear h1 h2 h3 h4 xz hk Cn hmay hr sW iq KX aA hN0 hN1 p0 p1 p2 p3 p4 p5;obtain⟨c0,c1,c2,d0,d1,d2,d3,d4,d5⟩:=HT.o A (Yz _ _);have Yj:=ae cG;clear cG;generalize c.1=k0 at *;generalize c.2.1=k1 at *;generalize ai c.2.2=k2 at *;go_enter Tryz.func28,Tryz.ntmps28
 go_upto_region 1 with fail
 try rw[hA]
 clear hA;go_cut [16] from 46 (fun v wx=>v=.bool (k != 0)/\Below A.heap.size A wx)
 case first =>
  refine wp_region_noPanic ?_
  go_region_law (first
   | (go_simp;go_at_call 65;refine(oo.o _ ?_).mono ?_;exact ak (Yz A.heap.size A) _;rintro e w1 ⟨rfl,aA⟩;have aN:=ae aA;clear aA;dsimp only)
   | fail)
  all_goals refine NoPanic.normal ?_
  all_goals go_wp2_with fail
  all_goals go_meet
  all_goals exact⟨rfl,aN.o⟩
 case rest =>
 obtain⟨rfl,pY⟩:=hcut;obtain⟨w1,hw1⟩:∃ w1,w1=wc:=⟨_,rfl⟩;subst hw1;have aN:=ae pY;clear pY;clear c0 c1 c2 d0 d1 d2 d3 d4 d5 oo;by_cases uK:k=0
 ·have hkz:(k != 0)=false:=by simp[uK]
  rw[hkz];obtain⟨hNe,hRe⟩:=Yr.o uK;have uY:=ae hNe;have TK:=ae hRe;clear hNe hRe Yr Fj;obtain⟨c0,c1,c2,_⟩:=HT.o w1 aN.o;go_wp2_with fail;go_loopw [6,7,22] (fun o n i wr=>∃(j:Nat) (l:List (Value×Row)),j<=gs.length/\i=.int .i64 (j:Int)/\n=.int .i64 ((gG fs T (gs.take j):Nat):Int)/\Ow wr A.heap.size o l/\l.map Prod.snd=iG fs T (gs.take j)/\Below A.heap.size A wr) (fun _ _ i _=>gs.length-(intOf i).toNat)
  case atStart=>exact⟨0,[],by omega,rfl,by rw[HNZ.o];rfl,Ow.nil _ _,Uc.o.symm,aN.o⟩
  case round =>
   obtain⟨j,l,hj,rfl,rfl,how,xC,ao⟩:=hrel;have HO:=ae how;have HB:=ae ao;have qg:=ae xC;have bM:=ao.size
   have jD:l.length<=1000:=by
    have h1:=YE List.length xC;have h2:=Kz.o j;have h3:=zg.o;rw[YD]at h1;omega
   obtain⟨la,lc,rfl,Qn,yV,_⟩:=how.form;clear how ao xC c0 c1 c2;by_cases ar:j<gs.length
   ·have hlt':(j:Int)<(gs.length:Int):=by omega
    obtain⟨G,R,va,vn,vc,rfl,XD⟩:=HG.o j ar;obtain⟨ca,cb,hgro⟩:=XD wr HB.o;have hbA:=HB.o.alloc bM (.cells #[.slice (some ⟨R,0,none⟩) gs[j].1.length gs[j].1.length,.slice va vn vc] 109);have XR:=aj wr (.cells #[.slice (some ⟨R,0,none⟩) gs[j].1.length gs[j].1.length,.slice va vn vc] 109);obtain⟨q0,q1⟩:=aR wr (.slice (some ⟨R,0,none⟩) gs[j].1.length gs[j].1.length) (.slice va vn vc) 109;have XT:(wr.alloc (.cells #[.slice (some ⟨R,0,none⟩) gs[j].1.length gs[j].1.length,.slice va vn vc] 109)).heap.size=wr.heap.size+1:=YB _ _;have HZQ:=ae XT;have Lf:=ae (HO.o.kept XR);have jB:=ae hbA;have HGC:=ae XD;have HRJ:=ae (qf.o j ar);have HNJ:=ae (HNT.o j ar);have HMJ:=ae (HMG.o gs[j]);have HNJ2:=ae (XZ.o (j+1))
    have HQ:jaH (∀ U,Below (wr.alloc (.cells #[.slice (some ⟨R,0,none⟩) gs[j].1.length gs[j].1.length,.slice va vn vc] 109)).heap.size (wr.alloc (.cells #[.slice (some ⟨R,0,none⟩) gs[j].1.length gs[j].1.length,.slice va vn vc] 109)) U->U.cell? ⟨wr.heap.size,0,none⟩=some (.slice (some ⟨R,0,none⟩) gs[j].1.length gs[j].1.length)/\U.cell? ⟨wr.heap.size,1,none⟩=some (.slice va vn vc)):=ae (fun U hU =>
     ⟨(hU.cell (p:=⟨wr.heap.size,0,none⟩) (by show wr.heap.size<_;omega)).trans q0,(hU.cell (p:=⟨wr.heap.size,1,none⟩) (by show wr.heap.size<_;omega)).trans q1⟩)
    obtain⟨c0,c1,c2,d0,d1,d2,d3,d4,d5⟩:=HT.o _ jB.o;obtain⟨M,hM⟩:∃ M,mM fs gs[j].2 T=M:=⟨_,rfl⟩;rw[hM]at HMJ
    have HMC:jaH (∀ U,Below (wr.alloc (.cells #[.slice (some ⟨R,0,none⟩) gs[j].1.length gs[j].1.length,.slice va vn vc] 109)).heap.size (wr.alloc (.cells #[.slice (some ⟨R,0,none⟩) gs[j].1.length gs[j].1.length,.slice va vn vc] 109)) U->Calls Tryz.prog 66 #[.agg #[.int .u8 (op:Int),.int .u32 (f:Int),.int .u8 (k0:Int),.int .i64 k1,.string k2,.slice ka ks.length kc],.agg #[.int .u32 (id:Int),.slice fa fs.length fc],.slice va vn vc] U
      fun e w'=>e=.returned (.agg #[.bool M.1,.bool M.2.1,.bool M.2.2])/\Below (wr.alloc (.cells #[.slice (some ⟨R,0,none⟩) gs[j].1.length gs[j].1.length,.slice va vn vc] 109)).heap.size (wr.alloc (.cells #[.slice (some ⟨R,0,none⟩) gs[j].1.length gs[j].1.length,.slice va vn vc] 109)) w'):=ae (fun U hU=>by
     have hbU:=jB.o.trans (hU.mono jB.o.size);obtain⟨_,_,hg⟩:=HGC.o U hbU;refine(HMY.o U _ gs[j].2 hbU hg.stats (co.o j ar)).mono ?_;rintro e w' ⟨rfl,hb⟩;rw[hM];exact⟨rfl,ag hU hb⟩)
    clear hM hgro XD hbA XR XT q0 q1 ca cb HO;obtain⟨ca,cb,_⟩:=HGC.o wr HB.o;go_upto_region 8 with fail
    generalize hWA:wr.alloc (.cells #[.slice (some ⟨R,0,none⟩) gs[j].1.length gs[j].1.length,.slice va vn vc] 109)=WA at *;obtain⟨e0,e1⟩:=HQ.o WA (Yz _ _);have hix:∀ w,(Instr.index 123 (.agg #[.bool M.1,.bool M.2.1,.bool M.2.2]) (.int .u8 2)).run Tryz.prog w=.ok (.bool M.2.2) w:=Wo _ _ _;go_cut [34] from 46 (fun v wx=>v=.bool M.2.2/\Below WA.heap.size WA wx)
    case first =>
     refine wp_region_noPanic ?_
     go_region_law (first
      | (go_simp;go_at_call 66;refine(HMC.o _ ?_).mono ?_;exact ak (Yz WA.heap.size WA) _;rintro e w5 ⟨rfl,bv⟩;have aJ:=ae bv;clear bv;dsimp only)
      | fail)
     all_goals refine NoPanic.normal ?_
     all_goals go_wp2_with fail
     all_goals go_meet
     all_goals exact⟨rfl,aJ.o⟩
    case rest =>
    obtain⟨rfl,pY⟩:=hcut;obtain⟨w5,Ys⟩:∃ w5,w5=wc:=⟨_,rfl⟩;subst Ys;have aJ:=ae pY;have KZ:=ae (jB.o.trans (pY.mono jB.o.size));have cQ:=ae (Lf.o.kept pY);obtain⟨f0,f1⟩:=HQ.o w5 pY;have zi:=pY.size;clear pY hix e0 e1 ca cb c0 c1 c2 d0 d1 d2 d3 d4 d5 HMC Lf;obtain⟨m1,m2,m3⟩:=M;simp only at *;have Fi:=KZ.o.size;cases m3 with
    | false =>
     have XE:jaH (iG fs T (gs.take (j+1))=iG fs T (gs.take j)):=ae (by rw[HRJ.o,HMJ.o];simp);have Uo:jaH (gG fs T (gs.take (j+1))=gG fs T (gs.take j)):=ae (by rw[HNJ.o,HMJ.o];simp);go_wp2_with fail;go_roundw
     case rel=>exact⟨j+1,l,by omega,by go_num,by rw[Uo.o],cQ.o,by rw[XE.o,qg.o],KZ.o⟩
     case measure=>simp[intOf];omega
    | true =>
     have XE:jaH (iG fs T (gs.take (j+1))=iG fs T (gs.take j)++lj fs T gs[j].1):=ae (by rw[HRJ.o,HMJ.o];simp);have Uo:jaH (gG fs T (gs.take (j+1))=gG fs T (gs.take j)+1):=ae (by rw[HNJ.o,HMJ.o];simp);have hnl:gG fs T (gs.take j)<=100000:=by have h1:=HNJ2.o;have h2:=Uo.o;omega
     obtain⟨cn,xt⟩:∃ cn,gG fs T (gs.take j)=cn:=⟨_,rfl⟩;have jI:=ae xt;rw[xt]at hnl ⊢;clear xt;obtain⟨_,_,Vd⟩:=HGC.o w5 KZ.o;have Ll:=ae (zk.o w5 _ _ j ar KZ.o Vd);obtain⟨_,_,_,d0,d1,d2,d3,d4,d5⟩:=HT.o w5 KZ.o;have HHL2:=ae (HHL.o gs[j].1)
     have HGL:jaH (gs[j].1.length<=1000):=ae (by
      have h5:=gR ar;have h6:=cT gs (j+1);have h7:=zg.o;rw[h5,YC]at h6;omega)
     clear Vd;go_wp2_with fail;refine Ll.o.mono ?_;rintro e w6 ⟨⟨v6,l6,rfl,xw,hsn6⟩,dP⟩;have oe:=ae (cQ.o.kept dP);have Vc:=ae xw;have HSN6:=ae hsn6;have jA:=ae (KZ.o.trans (dP.mono Fi));have hz7:=dP.size;obtain⟨va6,vc6,rfl,_,_⟩:=bf xw.1;clear dP xw hsn6 Ll cQ;go_wp2_with (first | (at_builtin;refine fB rfl _ _ rfl A.heap.size _ _ l l6 rfl oe.o rfl Vc.o.sv ?c1 ?c2 ?c3 ?_))
     case c1=>exact fun x hx=>(Vc.o.2 x hx).of_le Fi
     case c2 =>
      have h1:=YE List.length HSN6.o;have h2:=HHL2.o;have h3:=HGL.o;rw[YD]at h1;omega
     case c3=>omega
     intro v' w7 o7 b7;have qY:=ae o7;have pT:=ae (jA.o.trans b7);clear o7 b7;go_wp2_with fail;go_roundw
     case rel=>exact⟨j+1,_,by omega,by go_num,by rw[Uo.o,jI.o];go_num,qY.o,by rw[XE.o,YX,qg.o,HSN6.o],pT.o⟩
     case measure=>simp[intOf];omega
   ·obtain rfl:j=gs.length:=by omega
    have eO:¬ ((gs.length:Nat):Int)<(gs.length:Int):=(by omega);have Cf:w.heap.size<=A.heap.size:=by have:=Yj.o;omega
    have Ck:jaH (l.map Prod.snd=RR):=ae (by rw[qg.o,HRA.o,TK.o]);have Cm:jaH (gG fs T (gs.take gs.length)=N):=ae (by rw[GC.o,uY.o]);rw[Cm.o];go_wp2_with fail;go_ret2
    first | exact⟨⟨_,_,rfl,HO.o.low Cf,Ck.o⟩,ag jb.o HB.o⟩ | exact⟨⟨_,rfl,_,HO.o.low Cf,Ck.o⟩,ag jb.o HB.o⟩
 ·have hkz:(k != 0)=true:=by simp[uK]
  rw[hkz];obtain⟨hNe,hRe⟩:=Fj.o uK;have TK:=ae hRe;have Cf:w.heap.size<=A.heap.size:=by have:=Yj.o;omega
  subst hNe;clear hRe;go_wp2_with fail;go_ret2
  first | exact⟨⟨_,[],rfl,Ow.nil _ _,TK.o.symm⟩,ag jb.o aN.o⟩ | exact⟨⟨_,rfl,[],Ow.nil _ _,TK.o.symm⟩,ag jb.o aN.o⟩
theorem dB.low'{W:World}{B B':Nat}{v:Value}{l:Row}(h:dB W B v l)(hB:B'<=B):dB W B' v l:=qR h hB
def Oc(W:World)(B:Nat)(v:Value)(l:List (Value×Row)):Prop:=W.ownsRow B 58 1 v l.length (l.map Prod.fst)/\∀ x∈l,dB W B x.1 x.2
theorem Oc.nil(W:World)(B:Nat):Oc W B (.slice none 0 0) []:=⟨Zx _ _ _ _,fun x hx=>by simp at hx⟩
theorem Oc.kept{W W':World}{B:Nat}{v:Value}{l:List (Value×Row)}(h:Oc W B v l)(hb:Below W.heap.size W W'):Oc W' B v l:=⟨bP h.1 hb,fun x hx=>(h.2 x hx).kept hb⟩
theorem Oc.form{W:World}{B:Nat}{v:Value}{l:List (Value×Row)}(h:Oc W B v l):∃ a cap,v=.slice a l.length cap/\l.length<=cap/\cap<=maxLen/\(a=none->cap=0):=by
 rcases h.1 with ⟨h0,⟨h1,h2⟩ | ⟨g,cap,cur,h1,h2,h3,h4,h5,_⟩⟩
 ·exact⟨none,0,by rw[h1,h2],by omega,by unfold maxLen;omega,fun _=>rfl⟩
 ·exact⟨_,cap,h1,h4,h5,fun e=>by cases e⟩
theorem Oc.at{W:World}{B:Nat}{a:Option Addr}{n cap:Nat}{l:List (Value×Row)}(h:Oc W B (.slice a n cap) l){k:Nat}(hk:k<l.length) :
  ∃ g,a=some ⟨g,0,none⟩/\g<W.heap.size/\W.cell? ⟨g,k,none⟩=some l[k].1/\dB W B l[k].1 l[k].2:=by
 rcases h with ⟨⟨h0,⟨h1,h2⟩ | ⟨g,cap',cur,h1,h2,h3,h4,h5,h6,h7⟩⟩,hr⟩
 ·omega
 ·simp only[Value.slice.injEq]at h1
  obtain⟨rfl,rfl,rfl⟩:=h1;refine⟨g,rfl,(Array.getElem?_eq_some_iff.1 h3).1,?_,(hr _ (YF hk))⟩;have hj:(l.map Prod.fst)[k]?=some l[k].1:=by simp[hk]
  simp only[World.cell?,h3];rw[← h7]at hj;have ar:=(List.getElem?_eq_some_iff.1 hj).1;rw[YH]at ar;rw[List.getElem?_take_of_lt (by omega)]at hj;simpa using hj
theorem Oc.sr{W:World}{B:Nat}{v:Value}{l:List (Value×Row)}(h:Oc W B v l):Sr W v (l.map Prod.snd):=by
 obtain⟨a,cap,rfl,h1,h2,h3⟩:=h.form;refine⟨a,cap,by rw[YD],by rw[YD];exact h1,h2,fun h0=>?_⟩;rw[YD]at h0;obtain⟨g,e,h4,_⟩:=h.at h0;refine⟨g,0,e,h4,fun j hj=>?_⟩;rw[YD]at hj;obtain⟨g',e',h5,h6,h7⟩:=h.at hj;obtain rfl:g=g':=by rw[e]at e';cases e';rfl
 refine⟨_,by rw[YY];exact h6,?_⟩;have:=h7.sc;simpa using this
theorem yS{w:World}(ty:TypeId)(base:Nat)(v vx:Value)(l0 l:List (Value×Row))(aw:Oc w base v l0)(et:Sv w vx (l.map Prod.fst))(hr:∀ x∈l,dB w base x.1 x.2)(hbytes:l0.length+l.length<=1000000)(aD:base<=w.heap.size) :
  ∃ v' w',(Builtin.append_ #[26,26] ty #[v,vx]).run Tryz.prog w=.ok v' w'/\Oc w' base v' (l0++l)/\Below base w w':=by
 obtain⟨i0,hi,bN,hz1',bh⟩:=YW Pr;obtain⟨ad,cap,rfl,h1,h2,h3,h4⟩:=et;rw[YD]at *
 have one:∀ x∈l.map Prod.fst,x.oneCell'=true:=fun x hx=>by
  obtain⟨y,hy,rfl⟩:=YS.1 hx;obtain⟨a,n,c,e⟩:=du (hr y hy);rw[e];rfl
 cases ad with
 | none =>
  have hc:=h3 rfl;subst hc;have hl:l=[]:=YU (by omega);subst hl;have hr:=jae (P:=Tryz.prog) (w:=w) base 26 ty 58 i0 1 Tryz.underlying26 hi v l0.length (l0.map Prod.fst) aw.1;refine⟨v,w,hr,by rw[YZ];exact aw,Yz _ _⟩
 | some ad =>
  obtain⟨v',w',vT,o1,g1,_,e1⟩:=run_append_own_at (P:=Tryz.prog) w base 26 ty 58 i0 (.slice none 0 0) 1 24 Tryz.underlying26 hi bN hz1' bh rfl (by decide) v l0.length (l0.map Prod.fst) aw.1 ad l.length cap (l.map Prod.fst) (by rw[YD];omega)
   (fun j u hu=>by
    have hj:j<l.length:=by
     have:=(List.getElem?_eq_some_iff.1 hu).1;rwa[YD]at this
    obtain⟨b,off,h5,_,h6⟩:=h4 (by omega);cases h5
    rw[kq];exact h6 j u hu) one (by unfold maxLen;omega) (by omega) aD
  have keep:∀ y:Value×Row,dB w base y.1 y.2->dB w' base y.1 y.2:=fun y hy =>
   bF hy fun k hk=>g1.block k (aE hy hk).2.1 (fun e=>dU hy aw.1 (by decide) hk e.symm)
  refine⟨v',w',vT,⟨?_,fun y hy=>?_⟩,(Yz base w).grown g1 aD (fun k hk=>(aw.1.lt k hk).1)⟩
  ·rw[YC,YX]
   exact o1
  ·rcases Zg.1 hy with hy | hy
   ·exact keep y (aw.2 y hy)
   ·exact keep y (hr y hy)
theorem rY{w:World}{o:Oper}{a:Act}{K:Act->World->Prop}{Q:Exit->Act->World->Prop}(s x:Operand)
  (ho:o.op=.call { callee:=.builtin .append,args:=#[s,x],argTypes:=#[26,26] })
  (base:Nat) (v vx:Value) (l0 l:List (Value×Row)) (hs:a.eval s=v) (aw:Oc w base v l0) (hx:a.eval x=vx) (et:Sv w vx (l.map Prod.fst)) (hr:∀ x∈l,dB w base x.1 x.2) (hbytes:l0.length+l.length<=1000000) (aD:base<=w.heap.size)
  (h:∀ v' w',Oc w' base v' (l0++l)->Below base w w'->K (a.put o.dst v') w'):Oper.wp Tryz.prog o a w K Q:=by
 obtain⟨v',w',hr,h2,h3⟩:=yS o.type base v vx l0 l aw et hr hbytes aD;unfold Oper.wp execOp;simp only[ho,resolve,invoke,builtin,Sem.run_bind,Sem.run_pure,Result.andThen_ok,ZP,Zh,Zs,hs,hx,hr];exact h v' w' h2 h3
theorem vL{w:World}{ops:Array Oper}{o:Oper}{a:Act}{K:Act->World->Prop}{Q:Exit->Act->World->Prop}{E:Prop}(dO:o.guard=none)(s x:Operand)
  (ho:o.op=.call { callee:=.builtin .append,args:=#[s,x],argTypes:=#[26,26] })
  (base:Nat) (v vx:Value) (l0 l:List (Value×Row)) (hs:a.eval s=v) (aw:Oc w base v l0) (hx:a.eval x=vx) (et:Sv w vx (l.map Prod.fst)) (hr:∀ x∈l,dB w base x.1 x.2) (hbytes:l0.length+l.length<=1000000) (aD:base<=w.heap.size)
  (h:∀ v' w',Oc w' base v' (l0++l)->Below base w w'->K (a.put o.dst v') w') :
  if Region.wanted o (yielded ops a.tmps)=true then Oper.wp Tryz.prog o a w K Q else E:=by
 have hw:Region.wanted o (yielded ops a.tmps)=true:=by simp[Region.wanted,dO]
 rw[Yy hw];exact rY s x ho base v vx l0 l hs aw hx et hr hbytes aD h
theorem sL{w:World}{ops:Array Oper}{rest:List Oper}{o:Oper}{a:Act}{Q:Exit->Act->World->Prop}(dO:o.guard=none)(s x:Operand)
  (ho:o.op=.call { callee:=.builtin .append,args:=#[s,x],argTypes:=#[26,26] })
  (base:Nat) (v vx:Value) (l0 l:List (Value×Row)) (hs:a.eval s=v) (aw:Oc w base v l0) (hx:a.eval x=vx) (et:Sv w vx (l.map Prod.fst)) (hr:∀ x∈l,dB w base x.1 x.2) (hbytes:l0.length+l.length<=1000000) (aD:base<=w.heap.size)
  (h:∀ v' w',Oc w' base v' (l0++l)->Below base w w'->wpList Tryz.prog ops Q rest (a.put o.dst v') w') :
  wpList Tryz.prog ops Q (o::rest) a w :=
 wpList_plain dO fun K hK=>rY s x ho base v vx l0 l hs aw hx et hr hbytes aD fun v' w' h1 h2=>hK _ _ (h v' w' h1 h2)
theorem Tx{r:Row}(h:∀ c∈r,aI c):r.map aQ=r:=by
 conv=>rhs;rw[← ZE r]
 exact ZK fun c hc=>GK (h c hc)
theorem Ko{w:World}{v:Value}{rs:List Row}(hs:Sr w v rs)(hf:∀ r∈rs,∀ c∈r,aI c)(hl:rs.length<=1000)(jD:∀ r∈rs,r.length<=600) :
  Calls Tryz.prog 13 #[v] w fun e w'=>(∃ v' l,e=.returned v'/\Ow w' w.heap.size v' l/\l.map Prod.snd=rs)/\Below w.heap.size w w':=by
 have HS:=ae hs;have HF:=ae hf;have Xx:=ae jD;obtain⟨a,cap,rfl,aV,bw⟩:=hs.form;have hcm':cap<=9223372036854775807:=by unfold maxLen at bw;omega
 clear hs bw hf jD;go_enter Tryz.func13,Tryz.ntmps13
 go_wp2_with fail;go_loopw [3,4] (fun o i wr=>∃(j:Nat) (l:List (Value×Row)),j<=rs.length/\i=.int .i64 (j:Int)/\Ow wr w.heap.size o l/\l.map Prod.snd=rs.take j/\Below w.heap.size w wr) (fun _ i _=>rs.length-(intOf i).toNat)
 case atStart=>exact⟨0,[],by omega,rfl,Ow.nil _ _,rfl,Yz _ _⟩
 case round =>
  obtain⟨j,l,hj,rfl,how,xC,ao⟩:=hrel;have HO:=ae how;have HB:=ae ao;have qg:=ae xC;have bM:=ao.size;have jD:l.length=j:=by have:=YE List.length xC;rw[YD,YH]at this;omega
  clear how ao xC;by_cases ar:j<rs.length
  ·obtain⟨g,off,rv,rfl,hg,bn,uO⟩:=(HS.o.kept HB.o).at ar
   have hlt':(j:Int)<(rs.length:Int):=(by omega);have jz:jaH (rs.take (j+1)=rs.take j++[rs[j]]):=ae (YP ar);have CB:=ae (LE uO (fun c hc=>(HF.o _ (YF ar) c hc).okc) (Xx.o _ (YF ar)));rw[Tx (HF.o _ (YF ar))]at CB;generalize rs[j]=r at *;obtain⟨ra,rc,rfl,_,_⟩:=uO.form;have XF:=ae jD;clear uO jD;go_wp2_with fail;refine CB.o.mono ?_;rintro e w1 ⟨⟨rv',rfl,dI⟩,aA⟩;have fK:=ae dI;have XG:=ae (HO.o.kept aA);have aN:=ae (HB.o.trans (aA.mono bM));have cG:=aA.size;obtain⟨ra',rc',rfl,_,_⟩:=bf dI;have jI:=ae (aX w1 (.slice ra' r.length rc') 79);clear aA dI;go_wp2_with (first | (at_builtin;refine fB rfl _ _ rfl w.heap.size _ _ l [(.slice ra' r.length rc',r)] rfl (XG.o.kept (aj _ _)) rfl (mF jI.o (by rw[YB];omega)) ?c1 ?c2 ?c3 ?_))
   case c1 =>
    intro x hx;rw[Zl.1 hx];exact(fK.o.kept (aj _ _)).of_le bM
   case c2=>have:=XF.o;simp only[Zj];omega
   case c3=>rw[YB];omega
   intro v' w5 o5 b5;have cQ:=ae o5;have aJ:=ae ((aN.o.alloc (YG bM cG) _).trans b5);clear o5 b5;go_wp2_with fail;go_roundw
   case rel=>exact⟨j+1,_,by omega,by go_num,cQ.o,by rw[jz.o,YX,qg.o];rfl,aJ.o⟩
   case measure=>simp[intOf];omega
  ·obtain rfl:j=rs.length:=by omega
   rw[YK]at qg;have eO:¬ ((rs.length:Nat):Int)<(rs.length:Int):=(by omega);go_wp2_with fail;go_ret
   first | exact⟨⟨_,_,rfl,HO.o,qg.o⟩,HB.o⟩ | exact⟨⟨_,rfl,_,HO.o,qg.o⟩,HB.o⟩
theorem PK{w:World}{v:Value}{rs:List Row}(hs:Rv w v rs)(hf:∀ r∈rs,∀ c∈r,aI c)(hl:rs.length<=1000)(jD:∀ r∈rs,r.length<=600) :
  Calls Tryz.prog 34 #[v] w fun e w'=>(∃ v' l,e=.returned v'/\Oc w' w.heap.size v' l/\l.map Prod.snd=rs)/\Below w.heap.size w w':=by
 have HS:=ae hs;have HF:=ae hf;have Xx:=ae jD;obtain⟨a,cap,rfl,aV,hcm',_⟩:=hs.form;clear hs hf jD;go_enter Tryz.func34,Tryz.ntmps34
 go_wp2_with fail;go_loopw [3,4] (fun o i wr=>∃(j:Nat) (l:List (Value×Row)),j<=rs.length/\i=.int .i64 (j:Int)/\Oc wr w.heap.size o l/\l.map Prod.snd=rs.take j/\Below w.heap.size w wr) (fun _ i _=>rs.length-(intOf i).toNat)
 case atStart=>exact⟨0,[],by omega,rfl,Oc.nil _ _,rfl,Yz _ _⟩
 case round =>
  obtain⟨j,l,hj,rfl,how,xC,ao⟩:=hrel;have HO:=ae how;have HB:=ae ao;have qg:=ae xC;have bM:=ao.size;have jD:l.length=j:=by have:=YE List.length xC;rw[YD,YH]at this;omega
  clear how ao xC;by_cases ar:j<rs.length
  ·obtain⟨g,off,rv,rfl,hg,bn,uO⟩:=(HS.o.kept HB.o).at ar
   have hlt':(j:Int)<(rs.length:Int):=(by omega);have jz:jaH (rs.take (j+1)=rs.take j++[rs[j]]):=ae (YP ar);have CB:=ae (wU uO (HF.o _ (YF ar)) (Xx.o _ (YF ar)));generalize rs[j]=r at *;obtain⟨ra,rc,rfl,_,_⟩:=uO.form1;rw[ax]at *;have XF:=ae jD;clear uO jD;go_wp2_with fail;refine CB.o.mono ?_;rintro e w1 ⟨⟨rv',rfl,dI⟩,aA⟩;have fK:=ae dI;have XG:=ae (HO.o.kept aA);have aN:=ae (HB.o.trans (aA.mono bM));have cG:=aA.size;obtain⟨ra',rc',rfl,_,_⟩:=bf dI;have jI:=ae (aX w1 (.slice ra' r.length rc') 58);clear aA dI;go_wp2_with (first | (at_builtin;refine sL rfl _ _ rfl w.heap.size _ _ l [(.slice ra' r.length rc',r)] rfl (XG.o.kept (aj _ _)) rfl (mF jI.o (by rw[YB];omega)) ?c1 ?c2 ?c3 ?_))
   case c1 =>
    intro x hx;rw[Zl.1 hx];exact(fK.o.kept (aj _ _)).low' bM
   case c2=>have:=XF.o;simp only[Zj];omega
   case c3=>rw[YB];omega
   intro v' w5 o5 b5;have cQ:=ae o5;have aJ:=ae ((aN.o.alloc (YG bM cG) _).trans b5);clear o5 b5;go_wp2_with fail;go_roundw
   case rel=>exact⟨j+1,_,by omega,by go_num,cQ.o,by rw[jz.o,YX,qg.o];rfl,aJ.o⟩
   case measure=>simp[intOf];omega
  ·obtain rfl:j=rs.length:=by omega
   rw[YK]at qg;have eO:¬ ((rs.length:Nat):Int)<(rs.length:Int):=(by omega);go_wp2_with fail;go_ret
   first | exact⟨⟨_,_,rfl,HO.o,qg.o⟩,HB.o⟩ | exact⟨⟨_,rfl,_,HO.o,qg.o⟩,HB.o⟩
theorem aI.bsA{c:Cl}(h:aI c):Bs c.2.2:=h.okc.2.2
theorem Kp{w:World}{v1 v2:Value}{a b:List Row}(h1:Sr w v1 a)(h2:Sr w v2 b)(f1:∀ r∈a,∀ c∈r,aI c)(f2:∀ r∈b,∀ c∈r,aI c) :
  Calls Tryz.prog 56 #[v1,v2] w fun e w'=>e=.returned (.bool (decide (a=b)))/\Below w.heap.size w w':=by
 have gI:=ae h1;have eP:=ae h2;have eB:=ae f1;have eT:=ae f2;obtain⟨a1,cap1,rfl,hcap1,pV⟩:=h1.form;obtain⟨a2,cap2,rfl,BZ,pR⟩:=h2.form;have hcm1':cap1<=9223372036854775807:=by unfold maxLen at pV;omega
 have hcm2':cap2<=9223372036854775807:=by unfold maxLen at pR;omega
 clear h1 h2 pV pR f1 f2;obtain⟨D,hD⟩:∃ D,decide (a=b)=D:=⟨_,rfl⟩;have HD:=ae hD;rw[hD];clear hD;by_cases hl:a.length=b.length
 ·have hln:((a.length:Int) != (b.length:Int))=false:=by simp[hl]
  go_enter Tryz.func56,Tryz.ntmps56
  go_wp2_with fail;go_loopw [5] (fun i wr=>∃ j:Nat,j<=a.length/\i=.int .i64 (j:Int)/\a.take j=b.take j/\Below w.heap.size w wr) (fun i _=>a.length-(intOf i).toNat)
  case atStart=>exact⟨0,by omega,rfl,rfl,Yz _ _⟩
  case round =>
   obtain⟨j,hj,rfl,Qa,ao⟩:=hrel;have qc:=ae Qa;have HB:=ae ao;have bM:=ao.size;clear Qa ao;by_cases ar:j<a.length
   ·have ir:j<b.length:=by omega
    obtain⟨g1,o1,rv1,rfl,ew,jy,da⟩:=(gI.o.kept HB.o).at ar;obtain⟨g2,o2,rv2,rfl,gx,jH,cP⟩:=(eP.o.kept HB.o).at ir;have hlt':(j:Int)<(a.length:Int):=(by omega);have hlt2':(j:Int)<(b.length:Int):=(by omega);have HE:jaH (a[j]=b[j]->a.take (j+1)=b.take (j+1)):=ae (fun e=>kO ar ir qc.o e);have HN:jaH (a[j]≠b[j]->a≠b):=ae (fun e h=>e (by subst h;rfl))
    have Cy:jaH (∀ U,Below wr.heap.size wr U->Calls Tryz.prog 36 #[rv1,rv2] U fun e w'=>e=.returned (.bool (decide (a[j]=b[j])))/\Below wr.heap.size wr w'):=ae (fun U hU=>by
     refine(rK (da.kept hU) (cP.kept hU) (fun c hc=>(eB.o _ (YF ar) c hc).bsA) (fun c hc=>(eT.o _ (YF ir) c hc).bsA)).mono ?_;rintro e w' ⟨rfl,hb⟩;exact⟨rfl,ag hU hb⟩)
    obtain⟨x1,y1,rfl,_,_⟩:=da.form;obtain⟨x2,y2,rfl,_,_⟩:=cP.form;have re:∀ s:aW (fun x=>Below wr.heap.size wr x),s.w.cell? ⟨g1,o1+j,none⟩=some (.slice x1 a[j].length y1):=fun s=>(s.ok.cell (p:=⟨g1,o1+j,none⟩) ew).trans jy
    have od:∀ s:aW (fun x=>Below wr.heap.size wr x),s.w.cell? ⟨g2,o2+j,none⟩=some (.slice x2 b[j].length y2):=fun s=>(s.ok.cell (p:=⟨g2,o2+j,none⟩) gx).trans jH
    haveI:Nonempty (aW (fun x=>Below wr.heap.size wr x)):=⟨aW.mk wr (Yz _ _)⟩
    obtain⟨d,hd⟩:∃ d,decide (a[j]=b[j])=d:=⟨_,rfl⟩;rw[hd]at Cy;have RC:=ae hd;generalize a[j].length=n1 at *;generalize b[j].length=n2 at *;clear da cP jy jH hd;go_wp2_with fail;refine bD (S:=fun x=>Below wr.heap.size wr x) (by kernel_rfl) (by kernel_rfl) (by first | exact(Yz _ _).drew | exact(ak (Yz _ _) _).drew) ?_;repeat (go_big_quiet_step (first | (go_at_call 36;exact(Cy.o _ (aW.ok _)).mono (fun e w' h=>⟨h.1,aW.mk w' h.2,rfl⟩))))
    refine wpQuiet_nil ?_;rintro _ ⟨s2,rfl⟩;obtain⟨w2,np⟩:∃ x,x=s2.w:=⟨_,rfl⟩;have ay:=s2.ok;rw[← np]at ay ⊢;have aK:=ae (ag HB.o ay);clear np ay re od Cy;cases d with
    | true =>
     have Xk:=ae (HE.o (of_decide_eq_true RC.o));clear RC HE HN;go_wp2_with fail;go_roundw
     case rel=>exact⟨j+1,by omega,by go_num,Xk.o,aK.o⟩
     case measure=>simp[intOf];omega
    | false =>
     have sU:jaH (D=false):=ae (by rw[← HD.o];exact YO (HN.o (of_decide_eq_false RC.o)));clear RC HE HN;go_wp2_with fail;go_ret
     exact⟨by rw[sU.o];rfl,aK.o⟩
   ·obtain rfl:j=a.length:=by omega
    have eO:¬ ((a.length:Nat):Int)<(a.length:Int):=(by omega)
    have sU:jaH (D=true):=ae (by
     have:=qc.o;rw[YK,hl,YK]at this;rw[← HD.o];exact YT this)
    go_wp2_with fail;go_ret
    exact⟨by rw[sU.o];rfl,HB.o⟩
 ·have hln:((a.length:Int) != (b.length:Int))=true:=by simp;omega
  have sU:jaH (D=false):=ae (by rw[← HD.o];exact YO (fun e=>hl (by rw[e])));go_enter Tryz.func56,Tryz.ntmps56
  go_wp2_with fail;go_ret
  exact⟨by rw[sU.o];rfl,Yz _ _⟩
theorem Ty{w:World}{v1 v2:Value}{a b:List Row}(h1:Rv w v1 a)(h2:Sr w v2 b)(f1:∀ r∈a,∀ c∈r,aI c)(f2:∀ r∈b,∀ c∈r,aI c)(hl:a.length<=1000)(jD:∀ r∈a,r.length<=600) :
  Calls Tryz.prog 22 #[v1,v2] w fun e w'=>e=.returned (.bool (decide (a=b)))/\Below w.heap.size w w':=by
 have HA:=ae (PK h1 f1 hl jD);have H2:=ae h2;have eB:=ae f1;have eT:=ae f2;clear h1 h2 f1 f2;go_enter Tryz.func22,Tryz.ntmps22
 go_wp2_with fail;refine HA.o.mono ?_;rintro e w1 ⟨⟨v',l,rfl,ho,rfl⟩,aA⟩;have HS:=ae (Kp ho.sr (H2.o.kept aA) eB.o eT.o);have aN:=ae aA;clear ho aA;go_wp2_with fail;refine HS.o.mono ?_;rintro e w2 ⟨rfl,ay⟩;have aK:=ae (ag aN.o ay);clear ay;go_wp2_with fail;go_ret
 exact⟨rfl,aK.o⟩
theorem Sc.take{W:World}{a:Option Addr}{n cap:Nat}{l:Row}(h:Sc W (.slice a n cap) l){k:Nat}(hk:k<=l.length):Sc W (.slice a k cap) (l.take k):=by
 obtain⟨a',cap',e,h1,h2,h4⟩:=h;simp only[Value.slice.injEq]at e;obtain⟨rfl,_,rfl⟩:=e;have hl:(l.take k).length=k:=by rw[YH];omega
 refine⟨a,cap,by rw[hl],by omega,h2,fun h0=>?_⟩;obtain⟨b,off,h5,h6,h7⟩:=h4 (by omega);refine⟨b,off,h5,h6,fun j x hx=>h7 j x ?_⟩;have e:ff l=ff (l.take k)++ff (l.drop k):=by rw[← oD,ZZ]
 have hj:=(List.getElem?_eq_some_iff.1 hx).1;rw[e,List.getElem?_append_left hj];exact hx
def PM(l:List (Value×Row)):Prop:=l.length<=300/\∀ x∈l,x.2.length<=20/\∀ c∈x.2,aI c
theorem BP{w:World}{v:Value}{rs:List Row}(hs:Sr w v rs)(ho:∀ r∈rs,∀ c∈r,Okc c) :
  Calls Tryz.prog 11 #[v] w fun e w'=>(∃ v' l,e=.returned v'/\Oc w' w.heap.size v' l/\PM l)/\Below w.heap.size w w':=by
 have HS:=ae hs;have HO:=ae ho;obtain⟨a,cap,rfl,aV,bw⟩:=hs.form;have hcm':cap<=9223372036854775807:=by unfold maxLen at bw;omega
 clear hs bw ho;go_enter Tryz.func11,Tryz.ntmps11
 go_wp2_with fail;go_loopw [3,4] (fun o i wr=>∃(j:Nat) (l:List (Value×Row)),j<=rs.length/\j<=300/\i=.int .i64 (j:Int)/\Oc wr w.heap.size o l/\l.length=j/\PM l/\Below w.heap.size w wr) (fun _ i _=>rs.length-(intOf i).toNat)
 case atStart=>exact⟨0,[],by omega,by omega,rfl,Oc.nil _ _,rfl,⟨by simp,fun x hx=>by simp at hx⟩,Yz _ _⟩
 case round =>
  obtain⟨j,l,hj,hj3,rfl,how,jD,hf10,ao⟩:=hrel;have vU:=ae how;have HB:=ae ao;have Ch:=ae hf10;have XF:=ae jD;have bM:=ao.size;obtain⟨la,lc,rfl,Qn,yV,_⟩:=how.form;clear how ao hf10 jD;by_cases ar:j<rs.length
  ·have hlt':(j:Int)<(rs.length:Int):=by omega
   by_cases h3:j<300
   ·have h3':(j:Int)<300:=by omega
    obtain⟨g,off,rv,rfl,hg,bn,uO⟩:=(HS.o.kept HB.o).at ar;have RD:=ae (HO.o _ (YF ar));generalize rs[j]=r at *;obtain⟨ra,rc,rfl,KS,zc⟩:=uO.form;have hrc2':rc<=9223372036854775807:=by unfold maxLen at zc;omega
    obtain⟨m,hm⟩:∃ m,min r.length 20=m:=⟨_,rfl⟩;have WB:m<=r.length:=(by omega);have hm20:m<=20:=(by omega);have Lr:min (r.length:Int) 20=(m:Int):=(by omega);have WE:(0:Int)<=(m:Int):=(by omega);have Yt:(m:Int)<=(rc:Int):=(by omega);have Li:((m:Nat):Int).toNat=m:=(by omega);have iq:=uO.take WB
    have Cy:jaH (∀ U,Below wr.heap.size wr U->Calls Tryz.prog 38 #[.slice ra m rc] U fun e w'=>∃ ra' rc',e=.returned (.slice ra' m rc')/\dB w' wr.heap.size (.slice ra' m rc') ((r.take m).map aQ)/\Below wr.heap.size wr w'/\Oc w' w.heap.size (.slice la l.length lc) l/\Below w.heap.size w w'/\∀ o,(w'.alloc o).heap.size=w'.heap.size+1):=ae (fun U hU=>by
     refine(CR (iq.kept hU) (by rw[YH];omega)).mono ?_;rintro e w' ⟨⟨v',rfl,ho'⟩,hb'⟩;have ay:=ag hU hb';have bg:((r.take m).map aQ).length=m:=by rw[YD,YH];omega
     obtain⟨ra',rc',rfl,_,_⟩:=bf ho';rw[bg];have ex:=dB.low' ho' hU.size;rw[bg]at ex;exact⟨ra',rc',rfl,ex,ay,vU.o.kept ay,HB.o.trans (ay.mono bM),fun o=>YB _ _⟩)
    have lz:jaH (((r.take m).map aQ).length<=20/\∀ c∈(r.take m).map aQ,aI c):=ae ⟨by rw[YD,YH];omega,fun c hc=>by
     obtain⟨x,hx,rfl⟩:=YS.1 hc;exact eH (RD.o x (ZA hx))⟩
    generalize (r.take m).map aQ=r2 at *;clear uO iq hm;go_upto_region 5 with fail
    refine wp_region_noPanic ?_
    go_region_law (first
     | (refine vL (by rfl) _ _ (by rfl) w.heap.size _ _ l [(.slice ra' m rc',r2)] (by rfl) ?_ (by rfl) ?_ ?_ ?_ ?_ ?_;exact cQ.o.kept (aj _ _);exact mF (aX _ _ _) (by rw[YB];omega);(intro x hx;rw[Zl.1 hx];exact(pW.o.kept (aj _ _)).low' bM);(have:=XF.o;simp only[Zj];omega);(rw[YB];have:=aJ.o.size;omega);intro v6 w6 o6 b6;have oe:=ae o6;have jA:=ae ((aJ.o.alloc aJ.o.size _).trans b6);clear o6 b6;dsimp only)
     | (go_simp;go_at_call 38;refine(Cy.o _ ?_).mono ?_;exact ak (Yz wr.heap.size wr) _;rintro e w5 ⟨ra',rc',rfl,eo,bv,hl5,Ys,zi⟩;have pW:=ae eo;have aJ:=ae Ys;have cQ:=ae hl5;clear eo bv hl5 Ys;dsimp only)
     | fail)
    all_goals refine NoPanic.normal ?_
    all_goals go_wp2_with fail
    all_goals go_roundw
    all_goals first
     | (simp[intOf];omega)
     | refine⟨j+1,_,by omega,by omega,by go_num,oe.o,by rw[YC,XF.o];rfl,⟨by rw[YC,XF.o];simp only[Zj];omega,fun x hx=>?_⟩,jA.o⟩
    all_goals rcases Zg.1 hx with hx | hx
    all_goals first
     | exact Ch.o.2 x hx
     | (rw[Zl.1 hx];exact lz.o)
   ·have h3':¬ (j:Int)<300:=by omega
    go_wp2_with fail;go_ret
    first | exact⟨⟨_,_,rfl,vU.o,Ch.o⟩,HB.o⟩ | exact⟨⟨_,rfl,_,vU.o,Ch.o⟩,HB.o⟩
  ·have eO:¬ (j:Int)<(rs.length:Int):=by omega
   go_wp2_with fail;go_ret
   first | exact⟨⟨_,_,rfl,vU.o,Ch.o⟩,HB.o⟩ | exact⟨⟨_,rfl,_,vU.o,Ch.o⟩,HB.o⟩
theorem PN(w:World)(l:Row)(hl:l.length<=256):OwnV (w.alloc (.cells (aC l).toArray 78)) w.heap.size (.slice (some ⟨w.heap.size,0,none⟩) l.length l.length) l :=
 jaf (e:=78) (size:=1) w (aC l).toArray l.length (base:=w.heap.size) (YA _) (by unfold maxLen;omega) (by simp[aC])
theorem Wp(w:World)(l:Row)(hl:l.length<=256):dB (w.alloc (.cells (ff l).toArray 52)) w.heap.size (.slice (some ⟨w.heap.size,0,none⟩) l.length l.length) l :=
 jaf (e:=52) (size:=3) w (ff l).toArray l.length (base:=w.heap.size) (YA _) (by unfold maxLen;omega) (by simp[kN])
theorem PO(W:World):let W3:=W.alloc (.cells #[.iface 2 (.int .i64 1),.iface 9 (.string ⟨#[97]⟩)] 78);let W4:=W3.alloc (.cells #[.iface 2 (.int .i64 2),.nilIface] 78)
  Rv (W4.alloc (.cells #[.slice (some ⟨W.heap.size,0,none⟩) 2 2,.slice (some ⟨W.heap.size+1,0,none⟩) 2 2] 79)) (.slice (some ⟨W.heap.size+1+1,0,none⟩) 2 2) rA/\Below W.heap.size W (W4.alloc (.cells #[.slice (some ⟨W.heap.size,0,none⟩) 2 2,.slice (some ⟨W.heap.size+1,0,none⟩) 2 2] 79)):=by
 intro W3 W4;have h3:OwnV W3 W.heap.size (.slice (some ⟨W.heap.size,0,none⟩) 2 2) rA1:=PN W rA1 (by decide);have h4:OwnV W4 W3.heap.size (.slice (some ⟨W3.heap.size,0,none⟩) 2 2) rA2:=PN W3 rA2 (by decide);have z3:W3.heap.size=W.heap.size+1:=YB _ _;have z4:W4.heap.size=W.heap.size+1+1:=by show (W3.alloc _).heap.size=_;rw[YB,z3]
 rw[z3]at h4;have b3:Below W3.heap.size W3 W4:=aj _ _;have b4:=aj W4 (.cells #[.slice (some ⟨W.heap.size,0,none⟩) 2 2,.slice (some ⟨W.heap.size+1,0,none⟩) 2 2] 79);obtain⟨c0,c1⟩:=aR W4 (.slice (some ⟨W.heap.size,0,none⟩) 2 2) (.slice (some ⟨W.heap.size+1,0,none⟩) 2 2) 79;have z5:(W4.alloc (.cells #[.slice (some ⟨W.heap.size,0,none⟩) 2 2,.slice (some ⟨W.heap.size+1,0,none⟩) 2 2] 79)).heap.size=W.heap.size+3:=by rw[YB,z4]
 refine⟨⟨_,2,rfl,YA _,by unfold maxLen;omega,fun e=>(by cases e),fun _=>⟨W.heap.size+1+1,0,rfl,by omega,fun j hj=>?_⟩⟩,?_⟩
 ·rw[z4]at c0 c1
  have Uj:j<2:=hj;obtain rfl | rfl:j=0∨j=1:=by omega
  ·exact⟨_,c0,((h3.kept b3).kept b4).sv⟩
  ·exact⟨_,c1,(h4.kept b4).sv⟩
 ·exact(((Yz _ _).alloc (YA _) _).alloc (by rw[z3];omega) _).alloc (by rw[z4];omega) _
theorem pO(W:World):qB W (.slice none 0 0) []:=⟨none,0,rfl,YA _,by unfold maxLen;omega,fun h=>by simp at h⟩
theorem Gn{fs:List Fd}{p:List Row}(h:jv fs p):∀ s∈(grp fs p).2,Oks s:=fun s hs=>by
 obtain⟨i,_,rfl⟩:=YS.1 hs;have:=kV (iY h i);exact⟨this.1.okc,this.2.okc⟩
def gsA:List Gr:=[grp eA [rA1],grp eA [rA2]]
theorem Tz:aZ gsA=rA:=rfl
theorem oksA:∀ g∈gsA,∀ s∈g.2,Oks s:=fun g hg=>by
 have gx:g=grp eA [rA1]∨g=grp eA [rA2]:=by simpa [gsA]using hg
 rcases gx with rfl | rfl
 ·exact Gn fun r hr=>nk r (by rw[Zl.1 hr];simp[rA])
 ·exact Gn fun r hr=>nk r (by rw[Zl.1 hr];simp[rA])
theorem UB:gsA.filter (vK eA pA)=[grp eA [rA2]]:=by
 have h1:vK eA pA (grp eA [rA1])=false:=mayA1;have h2:vK eA pA (grp eA [rA2])=true:=mayA2;unfold gsA;simp[jaC,h1,h2]
theorem Wq:gG eA pA gsA=1:=by unfold gG;rw[UB];rfl
theorem Wr:iG eA pA gsA=[rA2]:=by
 unfold iG;rw[UB]
 have h:lj eA pA [rA2]=[rA2]:=by
  unfold lj PJ;rw[jaC,Wn];rfl
 show [grp eA [rA2]].flatMap _=_
 simp only[jaa,List.flatMap_nil,YZ];exact h
theorem Ws:Okp pA:=⟨by omega,by omega,⟨by decide,⟨by decide,by decide⟩,fun x hx=>by simp at hx⟩,trivial⟩
theorem lenpA:Len pA:=⟨by decide,trivial⟩
end Go.Proofs.YtpljdjmpamjkhaaGreatDoor
