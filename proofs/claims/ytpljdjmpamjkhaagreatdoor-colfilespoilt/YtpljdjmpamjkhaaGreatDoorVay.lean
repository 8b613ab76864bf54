import Derived.Test.YtpljdjmpamjkhaaGreatDoorVax
set_option linter.unusedVariables false
set_option linter.unusedSimpArgs false
set_option maxRecDepth 100000
set_option maxHeartbeats 4000000
namespace Go.Proofs.YtpljdjmpamjkhaaGreatDoor
open Go.RowKit Go.Lib
def US(fs:List Fd)(t:PT)(r:Row):Bool:=jA fs r t==2
def mZ(fs:List Fd)(t:PT)(rows:List Row):List Row:=rows.filter (US fs t)
theorem PZ{fs:List Fd}{t:PT}{rows:List Row}{k:Nat}(h:k<rows.length):mZ fs t (rows.take (k+1))=mZ fs t (rows.take k)++(if US fs t rows[k]=true then [rows[k]] else []):=by
 unfold mZ;rw[jeA h,jfX];simp[jf8]
theorem xZ(fs:List Fd)(t:PT)(rows:List Row):(mZ fs t rows).length<=rows.length:=jfV _ _
theorem Cz{w:World}{B fp id op f:Nat}{fv gv kv a b:Value}{fs:List Fd}{rows:List Row}{sts:List Stt}{c:Cl}{ks:List PT}(kh:w.heap[fp]?=some (.cells #[.int .u32 (id:Int),fv,gv] 105 (0,0)))(yD:Sf w fv fs)(hg:Gro w B (.agg #[a,b]) rows sts)
  (hk:tp w kv ks) (GB:∀ U rv r,Below w.heap.size w U->Sv U rv (aJ r)->(∀ x∈r,aT x)->Calls Tryz.prog 113 #[.agg #[.int .u8 (op:Int),.int .u32 (f:Int),.int .u8 (c.1:Int),.int .i64 c.2.1,.string (am c.2.2),kv],.agg #[.int .u32 (id:Int),fv],rv] U λe w'=>e=.returned (.int .u8 (jA fs r (.node op f c ks):Int))/\Below U.heap.size U w') (hr:∀ r∈rows,r.length<=1000/\∀ x∈r,aT x) (hl:rows.length<=1000) :
  Calls Tryz.prog 67 #[.pointer (some ⟨fp,0,none⟩),.agg #[a,b],.agg #[.int .u8 (op:Int),.int .u32 (f:Int),.int .u8 (c.1:Int),.int .i64 c.2.1,.string (am c.2.2),kv]] w
   λe w'=>(∃ v l,e=.returned v/\Ow w' w.heap.size v l/\l.map Prod.snd=mZ fs (.node op f c ks) rows)/\Below w.heap.size w w':=by
 obtain⟨R,rfl,hR1,hR2,hR3,ki⟩:=hg.rows;obtain⟨fa,fc,rfl,_,_⟩:=yD.form;obtain⟨ka,kc,rfl,_,_⟩:=hk.form;have Gz:=(Array.getElem?_eq_some_iff.1 kh).1;have aH:=ak w (.cells #[.slice (some ⟨R,0,none⟩) rows.length rows.length,b] 109);obtain⟨g0,g1⟩:=bx w (.slice (some ⟨R,0,none⟩) rows.length rows.length) b 109;have aE:=ak (w.alloc (.cells #[.slice (some ⟨R,0,none⟩) rows.length rows.length,b] 109)) (.cells #[.int .u8 (op:Int),.int .u32 (f:Int),.int .u8 (c.1:Int),.int .i64 c.2.1,.string (am c.2.2),.slice ka ks.length kc] 63);obtain⟨p0,p1,p2,p3,p4,p5⟩:=tq (w.alloc (.cells #[.slice (some ⟨R,0,none⟩) rows.length rows.length,b] 109)) (.int .u8 (op:Int)) (.int .u32 (f:Int)) (.int .u8 (c.1:Int)) (.int .i64 c.2.1) (.string (am c.2.2)) (.slice ka ks.length kc) 63;have cK:(w.alloc (.cells #[.slice (some ⟨R,0,none⟩) rows.length rows.length,b] 109)).heap.size=w.heap.size+1:=jel _ _;have bv:((w.alloc (.cells #[.slice (some ⟨R,0,none⟩) rows.length rows.length,b] 109)).alloc (.cells #[.int .u8 (op:Int),.int .u32 (f:Int),.int .u8 (c.1:Int),.int .i64 c.2.1,.string (am c.2.2),.slice ka ks.length kc] 63)).heap.size=w.heap.size+2:=by rw[jel,jel]
 have g0':=(aE.cell (p:=⟨w.heap.size,0,none⟩) (by show w.heap.size<_;omega)).trans g0;rw[cK]at p0 p1 p2 p3 p4 p5;have lC:=ai aH aE;generalize hA:(w.alloc (.cells #[.slice (some ⟨R,0,none⟩) rows.length rows.length,b] 109)).alloc (.cells #[.int .u8 (op:Int),.int .u32 (f:Int),.int .u8 (c.1:Int),.int .i64 c.2.1,.string (am c.2.2),.slice ka ks.length kc] 63)=A at *
 have HT:jgf (∀ U,Below A.heap.size A U->U.cell? ⟨fp,0,none⟩=some (.int .u32 (id:Int))/\U.cell? ⟨fp,1,none⟩=some (.slice fa fs.length fc)/\U.cell? ⟨w.heap.size,0,none⟩=some (.slice (some ⟨R,0,none⟩) rows.length rows.length) /\
   U.cell? ⟨w.heap.size+1,0,none⟩=some (.int .u8 (op:Int))/\U.cell? ⟨w.heap.size+1,1,none⟩=some (.int .u32 (f:Int))/\U.cell? ⟨w.heap.size+1,2,none⟩=some (.int .u8 (c.1:Int))/\U.cell? ⟨w.heap.size+1,3,none⟩=some (.int .i64 c.2.1)/\U.cell? ⟨w.heap.size+1,4,none⟩=some (.string (am c.2.2))/\U.cell? ⟨w.heap.size+1,5,none⟩=some (.slice ka ks.length kc)):=ae (λU hU=>by
  have hfU:=(hU.block fp (by omega)).trans ((lC.block fp Gz).trans kh);refine⟨by rw[ay hfU];rfl,by rw[ay hfU];rfl,(hU.cell (p:=⟨w.heap.size,0,none⟩) (by show w.heap.size<_;omega)).trans g0',?_,?_,?_,?_,?_,?_⟩
  ·exact(hU.cell (p:=⟨w.heap.size+1,0,none⟩) (by show w.heap.size+1<_;omega)).trans p0
  ·exact(hU.cell (p:=⟨w.heap.size+1,1,none⟩) (by show w.heap.size+1<_;omega)).trans p1
  ·exact(hU.cell (p:=⟨w.heap.size+1,2,none⟩) (by show w.heap.size+1<_;omega)).trans p2
  ·exact(hU.cell (p:=⟨w.heap.size+1,3,none⟩) (by show w.heap.size+1<_;omega)).trans p3
  ·exact(hU.cell (p:=⟨w.heap.size+1,4,none⟩) (by show w.heap.size+1<_;omega)).trans p4
  ·exact(hU.cell (p:=⟨w.heap.size+1,5,none⟩) (by show w.heap.size+1<_;omega)).trans p5)
 have HROW:jgf (∀ U,Below A.heap.size A U->∀ i (h:i<rows.length),∃ ra rc,U.cell? ⟨R,i,none⟩=some (.slice ra rows[i].length rc)/\Sv U (.slice ra rows[i].length rc) (aJ rows[i])/\rows[i].length<=1000/\∀ x∈rows[i],aT x):=ae (λU hU i hi=>by
  obtain⟨rv,e1,e2⟩:=ki i hi;have fs':=e2.sv;obtain⟨ra,rc,rfl,_,_⟩:=fs'.form1;rw[aG]at *;have hbU:=lC.trans (hU.mono lC.size);exact⟨ra,rc,(hbU.cell (p:=⟨R,i,none⟩) hR2).trans e1,fs'.kept hbU,hr _ (jeo hi)⟩)
 have HEV:jgf (∀ U ra n rc r,Below A.heap.size A U->Sv U (.slice ra n rc) (aJ r)->(∀ x∈r,aT x)->Calls Tryz.prog 113 #[.agg #[.int .u8 (op:Int),.int .u32 (f:Int),.int .u8 (c.1:Int),.int .i64 c.2.1,.string (am c.2.2),.slice ka ks.length kc],.agg #[.int .u32 (id:Int),.slice fa fs.length fc],.slice ra n rc] U
   λe w'=>e=.returned (.int .u8 (jA fs r (.node op f c ks):Int))/\Below U.heap.size U w'):=ae (λU ra n rc r hU hs hfi=>by
  have hbU:=lC.trans (hU.mono lC.size);exact GB U _ r hbU hs hfi)
 have nH:=ae lC;have HH0:=ae (λk (h:k<rows.length)=>PZ (fs:=fs) (t:=.node op f c ks) h);have HHM:jgf (∀ r,US fs (.node op f c ks) r=(jA fs r (.node op f c ks)==2)):=ae (λr=>rfl);have HHL:=ae (λk=>xZ fs (.node op f c ks) (rows.take k));have Ro:jgf (mZ fs (.node op f c ks) (rows.take rows.length)=mZ fs (.node op f c ks) rows):=ae (by rw[jes]);generalize (PT.node op f c ks)=T at *;clear kh yD hg hk GB hr ki aH aE g0 g1 p0 p1 p2 p3 p4 p5 g0' lC;obtain⟨c0,c1,c2,d0,d1,d2,d3,d4,d5⟩:=HT.o A (jej _ _);have MB:=ae bv;clear bv cK;generalize c.1=k0 at *;generalize c.2.1=k1 at *;generalize am c.2.2=k2 at *;go_enter Tryz.func67,Tryz.ntmps67
 go_wp2_with fail;try rw[hA]
 go_loopw [7,13] (λo i wr=>∃(j:Nat) (l:List (Value×Row)),j<=rows.length/\i=.int .i64 (j:Int)/\Ow wr A.heap.size o l/\l.map Prod.snd=mZ fs T (rows.take j)/\Below A.heap.size A wr) (λ_ i _=>rows.length-(intOf i).toNat)
 case atStart=>exact⟨0,[],by omega,rfl,Ow.nil _ _,rfl,jej _ _⟩
 case round =>
  obtain⟨j,l,hj,rfl,how,sR,az⟩:=hrel;have HO:=ae how;have HB:=ae az;have pV:=ae sR;have bH:=az.size
  have kW:l.length<=rows.length:=by
   have h1:=jep List.length sR;have h2:=HHL.o j;rw[jen]at h1;rw[jeq]at h2;omega
  clear how az sR;obtain⟨c0,c1,c2,d0,d1,d2,d3,d4,d5⟩:=HT.o wr HB.o;obtain⟨la,lc,rfl,Rf,AO,_⟩:=HO.o.form;by_cases aB:j<rows.length
  ·have hlt':(j:Int)<(rows.length:Int):=by omega
   obtain⟨ra,rc,dN,gX,nD,hfi⟩:=HROW.o wr HB.o j aB;have yk:=ae gX;have lz:=ae (HH0.o j aB);have jcX:=ae (HHM.o rows[j])
   have jcY:jgf (∀ U,Below wr.heap.size wr U->Calls Tryz.prog 113 #[.agg #[.int .u8 (op:Int),.int .u32 (f:Int),.int .u8 (k0:Int),.int .i64 k1,.string k2,.slice ka ks.length kc],.agg #[.int .u32 (id:Int),.slice fa fs.length fc],.slice ra rows[j].length rc] U
     λe w'=>e=.returned (.int .u8 (jA fs rows[j] T:Int))/\Below wr.heap.size wr w'):=ae (λU hU=>by
    refine(HEV.o U ra _ rc rows[j] (HB.o.trans (hU.mono bH)) (gX.kept hU) hfi).mono ?_;rintro e w' ⟨rfl,hb⟩;exact⟨rfl,ai hU hb⟩)
   obtain⟨E,hE⟩:∃ E,jA fs rows[j] T=E:=⟨_,rfl⟩;rw[hE]at jcY jcX;have Zt:jgf (US fs T rows[j]=(E==2)):=ae jcX.o;clear hE jcX gX hfi;generalize rows[j]=r at *;go_upto_region 5 with fail
   go_cut [24] from 32 (λv wx=>v=.bool ((E:Int)==2)/\Below wr.heap.size wr wx)
   case first =>
    refine wp_region_noPanic ?_
    go_region_law (first
     | (go_simp;go_at_call 113;refine(jcY.o _ ?_).mono ?_;exact ar (jej wr.heap.size wr) _;rintro e w1 ⟨rfl,aH⟩;have aP:=ae aH;clear aH;dsimp only)
     | fail)
    all_goals refine NoPanic.normal ?_
    all_goals go_wp2_with fail
    all_goals go_meet
    all_goals exact⟨rfl,aP.o⟩
   case rest =>
   obtain⟨rfl,tY⟩:=hcut;obtain⟨w1,hw1⟩:∃ w1,w1=wc:=⟨_,rfl⟩;subst hw1;have aP:=ae tY;clear tY;have HBW1:=ae (HB.o.trans (aP.o.mono bH));have cK:=aP.o.size;clear jcY c0 c1 c2 d0 d1 d2 d3 d4 d5 dN;by_cases hE2:E=2
   ·have hEq:((E:Int)==2)=true:=by rw[hE2];rfl
    have jcZ:jgf (mZ fs T (rows.take (j+1))=mZ fs T (rows.take j)++[r]):=ae (by rw[lz.o,Zt.o,hE2];rfl);have pQ:=ae (qm (yk.o.kept aP.o) nD);have eO:=ae (HO.o.kept aP.o);clear lz Zt hE2 HO;go_wp2_with fail;refine pQ.o.mono ?_;rintro e w2 ⟨⟨v2,rfl,ft⟩,aE⟩;have dz:=ae (eO.o.kept aE);have Ze:=ae ft;have aN:=ae (HBW1.o.trans (aE.mono (by omega)));have bv:=aE.size;obtain⟨ra',rc',rfl,_,_⟩:=be ft;have kf:=ae (aK w2 (.slice ra' r.length rc') 79);clear aE ft pQ eO;go_wp2_with (first | (at_builtin;refine gO rfl _ _ rfl A.heap.size _ _ l [(.slice ra' r.length rc',r)] rfl (dz.o.kept (ak _ _)) rfl (pn kf.o (by rw[jel];omega)) ?c1 ?c2 ?c3 ?_))
    case c1 =>
     intro x hx;rw[jeX.1 hx];exact(Ze.o.kept (ak _ _)).of_le (by omega)
    case c2=>simp only[jeS];omega
    case c3=>rw[jel];omega
    intro v' w5 o5 b5;have df:=ae o5;have aQ:=ae ((aN.o.alloc (by omega) _).trans b5);clear o5 b5;go_wp2_with fail;go_roundw
    case rel=>exact⟨j+1,_,by omega,by go_num,df.o,by rw[jcZ.o,jeE,pV.o];rfl,aQ.o⟩
    case measure=>simp[intOf];omega
   ·have hEq:((E:Int)==2)=false:=by simp;omega
    have jcZ:jgf (mZ fs T (rows.take (j+1))=mZ fs T (rows.take j)):=ae (by
     have:(E==2)=false:=by simpa using hE2
     rw[lz.o,Zt.o,this];simp)
    have eO:=ae (HO.o.kept aP.o);clear lz Zt hE2 HO;go_wp2_with fail;go_roundw
    case rel=>exact⟨j+1,l,by omega,by go_num,eO.o,by rw[jcZ.o,pV.o],HBW1.o⟩
    case measure=>simp[intOf];omega
  ·obtain rfl:j=rows.length:=by omega
   have gi:¬ ((rows.length:Nat):Int)<(rows.length:Int):=(by omega);have Gy:jgf (l.map Prod.snd=mZ fs T rows):=ae (pV.o.trans Ro.o);go_wp2_with fail;go_ret
   have yn:w.heap.size<=A.heap.size:=by have:=MB.o;omega
   first | exact⟨⟨_,_,rfl,HO.o.low yn,Gy.o⟩,ai nH.o HB.o⟩ | exact⟨⟨_,rfl,_,HO.o.low yn,Gy.o⟩,ai nH.o HB.o⟩
theorem Gro.stats{W:World}{B:Nat}{a b:Value}{rows:List Row}{sts:List Stt}(h:Gro W B (.agg #[a,b]) rows sts):Ss W b sts:=by
 obtain⟨R,rvs,vs,e,_,_,h3⟩:=h;simp only[Value.agg.injEq,Array.mk.injEq,List.cons.injEq,and_true]at e;obtain⟨_,rfl⟩:=e;exact jbG.ss (B:=B) h3
theorem jbN(a b c:Bool)(w:World):(Instr.index 123 (.agg #[.bool a,.bool b,.bool c]) (.int .u8 2)).run Tryz.prog w=.ok (.bool c) w:=by
 cases a<;>cases b<;>cases c<;>kernel_rfl
def za(fs:List Fd)(t:PT)(g:Gr):Bool:=jbq (pq fs g.2 t) 2
def jU(fs:List Fd)(t:PT)(gs:List Gr):List Row:=(gs.filter (za fs t)).flatMap λg=>mZ fs t g.1
def iX(fs:List Fd)(t:PT)(gs:List Gr):Nat:=(gs.filter (za fs t)).length
theorem KD{fs:List Fd}{t:PT}{gs:List Gr}{k:Nat}(h:k<gs.length):jU fs t (gs.take (k+1))=jU fs t (gs.take k)++(if za fs t gs[k]=true then mZ fs t gs[k].1 else []):=by
 unfold jU;rw[jeA h,jfX,jfw];cases hm:za fs t gs[k]<;>simp[jf8,hm]
theorem KE{fs:List Fd}{t:PT}{gs:List Gr}{k:Nat}(h:k<gs.length):iX fs t (gs.take (k+1))=iX fs t (gs.take k)+(if za fs t gs[k]=true then 1 else 0):=by
 unfold iX;rw[jeA h,jfX,jem];cases hm:za fs t gs[k]<;>simp[jf8,hm]
theorem AG(fs:List Fd)(t:PT):∀ gs:List Gr,(jU fs t gs).length<=(bT gs).length
 | []=>jek _
 | g::gs=>by
  have h:=AG fs t gs;have h2:=xZ fs t g.1;unfold jU bT at *;rw[jf8];split
  ·simp only[jfG,jem,jeT,jfH]
   omega
  ·simp only[jeT,jfH,jem]
   omega
theorem Qa(fs:List Fd)(t:PT)(gs:List Gr):iX fs t gs<=gs.length:=jfV _ _
theorem KF{w:World}{B fp id op f:Nat}{fv kv:Value}{fs:List Fd}{gs:List Gr}{c:Cl}{ks:List PT}(h:Fil w B fp id fv gs)(yD:Sf w fv fs)
  (hk:tp w kv ks) (GB:∀ U rv r,Below w.heap.size w U->Sv U rv (aJ r)->(∀ x∈r,aT x)->Calls Tryz.prog 113 #[.agg #[.int .u8 (op:Int),.int .u32 (f:Int),.int .u8 (c.1:Int),.int .i64 c.2.1,.string (am c.2.2),kv],.agg #[.int .u32 (id:Int),fv],rv] U λe w'=>e=.returned (.int .u8 (jA fs r (.node op f c ks):Int))/\Below U.heap.size U w')
  (hmay:∀ U rv sts,Below w.heap.size w U->Ss U rv sts->(∀ s∈sts,Oks s)->Calls Tryz.prog 66 #[.agg #[.int .u8 (op:Int),.int .u32 (f:Int),.int .u8 (c.1:Int),.int .i64 c.2.1,.string (am c.2.2),kv],.agg #[.int .u32 (id:Int),fv],rv] U λe w'=>e=.returned (b3V (pq fs sts (.node op f c ks)))/\Below U.heap.size U w') (hr:∀ r∈bT gs,r.length<=1000/\∀ x∈r,aT x) (Dd:(bT gs).length<=1000) (Zn:gs.length<=100000) (gV:∀ g∈gs,∀ s∈g.2,Oks s) (k:Int) (N:Nat) (RR:List Row) (hN0:k=0->N=iX fs (.node op f c ks) gs/\RR=jU fs (.node op f c ks) gs) (hN1:k≠0->N=0/\RR=[])
  (QT:∀ U,Below w.heap.size w U->Calls Tryz.prog 65 #[.agg #[.int .u8 (op:Int),.int .u32 (f:Int),.int .u8 (c.1:Int),.int .i64 c.2.1,.string (am c.2.2),kv],.agg #[.int .u32 (id:Int),fv]] U λe w'=>e=.returned (.int .i64 k)/\Below U.heap.size U w') :
  Calls Tryz.prog 28 #[.pointer (some ⟨fp,0,none⟩),.agg #[.int .u8 (op:Int),.int .u32 (f:Int),.int .u8 (c.1:Int),.int .i64 c.2.1,.string (am c.2.2),kv]] w
   λe w'=>(∃ v l,e=.returned (.tuple #[v,.int .i64 (N:Int)])/\Ow w' w.heap.size v l/\l.map Prod.snd=RR)/\Below w.heap.size w w':=by
 obtain⟨gv,xs,h1,h2,h3,h4⟩:=h;obtain⟨ga,gc,rfl,hgc,hgm⟩:=be h3;obtain⟨fa,fc,rfl,_,_⟩:=yD.form;obtain⟨ka,kc,rfl,_,_⟩:=hk.form;have Gz:=(Array.getElem?_eq_some_iff.1 h1).1;have aH:=ak w (.cells #[.int .u8 (op:Int),.int .u32 (f:Int),.int .u8 (c.1:Int),.int .i64 c.2.1,.string (am c.2.2),.slice ka ks.length kc] 63);obtain⟨p0,p1,p2,p3,p4,p5⟩:=tq w (.int .u8 (op:Int)) (.int .u32 (f:Int)) (.int .u8 (c.1:Int)) (.int .i64 c.2.1) (.string (am c.2.2)) (.slice ka ks.length kc) 63;have cK:(w.alloc (.cells #[.int .u8 (op:Int),.int .u32 (f:Int),.int .u8 (c.1:Int),.int .i64 c.2.1,.string (am c.2.2),.slice ka ks.length kc] 63)).heap.size=w.heap.size+1:=jel _ _;generalize hA:w.alloc (.cells #[.int .u8 (op:Int),.int .u32 (f:Int),.int .u8 (c.1:Int),.int .i64 c.2.1,.string (am c.2.2),.slice ka ks.length kc] 63)=A at *
 have HT:jgf (∀ U,Below A.heap.size A U->U.cell? ⟨fp,0,none⟩=some (.int .u32 (id:Int))/\U.cell? ⟨fp,1,none⟩=some (.slice fa fs.length fc)/\U.cell? ⟨fp,2,none⟩=some (.slice ga gs.length gc) /\
   U.cell? ⟨w.heap.size,0,none⟩=some (.int .u8 (op:Int))/\U.cell? ⟨w.heap.size,1,none⟩=some (.int .u32 (f:Int))/\U.cell? ⟨w.heap.size,2,none⟩=some (.int .u8 (c.1:Int))/\U.cell? ⟨w.heap.size,3,none⟩=some (.int .i64 c.2.1)/\U.cell? ⟨w.heap.size,4,none⟩=some (.string (am c.2.2))/\U.cell? ⟨w.heap.size,5,none⟩=some (.slice ka ks.length kc)):=ae (λU hU=>by
  have hfU:=(hU.block fp (by omega)).trans ((aH.block fp Gz).trans h1);refine⟨by rw[ay hfU];rfl,by rw[ay hfU];rfl,by rw[ay hfU];rfl,?_,?_,?_,?_,?_,?_⟩
  ·exact(hU.cell (p:=⟨w.heap.size,0,none⟩) (by show w.heap.size<_;omega)).trans p0
  ·exact(hU.cell (p:=⟨w.heap.size,1,none⟩) (by show w.heap.size<_;omega)).trans p1
  ·exact(hU.cell (p:=⟨w.heap.size,2,none⟩) (by show w.heap.size<_;omega)).trans p2
  ·exact(hU.cell (p:=⟨w.heap.size,3,none⟩) (by show w.heap.size<_;omega)).trans p3
  ·exact(hU.cell (p:=⟨w.heap.size,4,none⟩) (by show w.heap.size<_;omega)).trans p4
  ·exact(hU.cell (p:=⟨w.heap.size,5,none⟩) (by show w.heap.size<_;omega)).trans p5)
 have HG:jgf (∀ j (hj:j<gs.length),∃ G R va vn vc,ga=some ⟨G,0,none⟩/\∀ U,Below A.heap.size A U->U.cell? ⟨G,j*2,none⟩=some (.slice (some ⟨R,0,none⟩) gs[j].1.length gs[j].1.length)/\U.cell? ⟨G,j*2+1,none⟩=some (.slice va vn vc)/\Gro U B (.agg #[.slice (some ⟨R,0,none⟩) gs[j].1.length gs[j].1.length,.slice va vn vc]) gs[j].1 gs[j].2):=ae (λj hj=>by
  obtain⟨a,b,e1,e2,e3⟩:=h4 j hj;obtain⟨R,rfl,g1,g2,⟨va,vn,vc,rfl⟩,g4⟩:=e3.rows;obtain⟨G,rfl,_,hG,lK⟩:=iq h3 e1;obtain⟨_,e,_,_,ke⟩:=iq h3 e2;cases e
  refine⟨G,R,va,vn,vc,rfl,λU hU=>?_⟩;have hb:=aH.trans (hU.mono aH.size);exact⟨(hb.cell (p:=⟨G,j*2,none⟩) hG).trans (by rw[jeU];exact lK),(hb.cell (p:=⟨G,j*2+1,none⟩) hG).trans (by rw[jeU j];exact ke),e3.turn λq _ _ _ k2 _ _ _=>hb.block q k2⟩)
 have lA:jgf (∀ U,Below A.heap.size A U->Calls Tryz.prog 65 #[.agg #[.int .u8 (op:Int),.int .u32 (f:Int),.int .u8 (c.1:Int),.int .i64 c.2.1,.string (am c.2.2),.slice ka ks.length kc],.agg #[.int .u32 (id:Int),.slice fa fs.length fc]] U λe w'=>e=.returned (.int .i64 k)/\Below A.heap.size A w'):=ae (λU hU=>by
  refine(QT U (aH.trans (hU.mono aH.size))).mono ?_;rintro e w' ⟨rfl,hb⟩;exact⟨rfl,ai hU hb⟩)
 have HMY:jgf (∀ U rv sts,Below A.heap.size A U->Ss U rv sts->(∀ s∈sts,Oks s)->Calls Tryz.prog 66 #[.agg #[.int .u8 (op:Int),.int .u32 (f:Int),.int .u8 (c.1:Int),.int .i64 c.2.1,.string (am c.2.2),.slice ka ks.length kc],.agg #[.int .u32 (id:Int),.slice fa fs.length fc],rv] U
   λe w'=>e=.returned (b3V (pq fs sts (.node op f c ks)))/\Below U.heap.size U w'):=ae (λU rv sts hU hs hos=>by
  have hb:=aH.trans (hU.mono aH.size);exact hmay U rv sts hb hs hos)
 have GL:jgf (∀ U a b j (hj:j<gs.length),Below A.heap.size A U->Gro U B (.agg #[a,b]) gs[j].1 gs[j].2->Calls Tryz.prog 67 #[.pointer (some ⟨fp,0,none⟩),.agg #[a,b],.agg #[.int .u8 (op:Int),.int .u32 (f:Int),.int .u8 (c.1:Int),.int .i64 c.2.1,.string (am c.2.2),.slice ka ks.length kc]] U
   λe w'=>(∃ v l,e=.returned v/\Ow w' U.heap.size v l/\l.map Prod.snd=mZ fs (.node op f c ks) gs[j].1)/\Below U.heap.size U w'):=ae (λU a b j hj hU hg=>by
  have hb:=aH.trans (hU.mono aH.size);have h5:=mw hj;have h6:=fB gs (j+1);rw[h5,jem]at h6;exact Cz ((hb.block fp Gz).trans h1) (yD.kept hb) hg (hk.kept hb) (λU2 rv2 r2 hU2=>GB U2 rv2 r2 (hb.trans (hU2.mono hb.size))) (λr hh=>hr r (FR hj hh)) (by omega))
 have HN0:=ae hN0;have La:=ae hN1;have cP:=ae (λj (hj:j<gs.length)=>gV _ (jeo hj));have nH:=ae aH;have sP:=ae (λj (hj:j<gs.length)=>KD (fs:=fs) (t:=.node op f c ks) hj);have HNT:=ae (λj (hj:j<gs.length)=>KE (fs:=fs) (t:=.node op f c ks) hj);have HMG:jgf (∀ g:Gr,za fs (.node op f c ks) g=(pq fs g.2 (.node op f c ks)).2.2):=ae (λg=>rfl);have Vt:=ae (λj=>jet (AG fs (.node op f c ks) (gs.take j)) (fB gs j));have HNL:=ae (λj=>jet (Qa fs (.node op f c ks) (gs.take j)) (show (gs.take j).length<=gs.length by rw[jeq];omega));have HRA:jgf (jU fs (.node op f c ks) (gs.take gs.length)=jU fs (.node op f c ks) gs):=ae (by rw[jes]);have MH:jgf (iX fs (.node op f c ks) (gs.take gs.length)=iX fs (.node op f c ks) gs):=ae (by rw[jes]);have Zi:jgf (jU fs (.node op f c ks) (gs.take 0)=[]):=ae rfl;have HNZ:jgf (iX fs (.node op f c ks) (gs.take 0)=0):=ae rfl;have HHL:=ae (λrows=>xZ fs (.node op f c ks) rows);generalize (PT.node op f c ks)=T at *;have QU:=ae Dd;clear h1 h2 h3 h4 yD hk GB hmay hr Dd gV QT aH hN0 hN1 p0 p1 p2 p3 p4 p5;obtain⟨c0,c1,c2,d0,d1,d2,d3,d4,d5⟩:=HT.o A (jej _ _);have HZ1:=ae cK;clear cK;generalize c.1=k0 at *;generalize c.2.1=k1 at *;generalize am c.2.2=k2 at *;go_enter Tryz.func28,Tryz.ntmps28
 go_upto_region 1 with fail
 try rw[hA]
 clear hA;go_cut [16] from 46 (λv wx=>v=.bool (k != 0)/\Below A.heap.size A wx)
 case first =>
  refine wp_region_noPanic ?_
  go_region_law (first
   | (go_simp;go_at_call 65;refine(lA.o _ ?_).mono ?_;exact ar (jej A.heap.size A) _;rintro e w1 ⟨rfl,aH⟩;have aP:=ae aH;clear aH;dsimp only)
   | fail)
  all_goals refine NoPanic.normal ?_
  all_goals go_wp2_with fail
  all_goals go_meet
  all_goals exact⟨rfl,aP.o⟩
 case rest =>
 obtain⟨rfl,tY⟩:=hcut;obtain⟨w1,hw1⟩:∃ w1,w1=wc:=⟨_,rfl⟩;subst hw1;have aP:=ae tY;clear tY;clear c0 c1 c2 d0 d1 d2 d3 d4 d5 lA;by_cases qB:k=0
 ·have hkz:(k != 0)=false:=by simp[qB]
  rw[hkz];obtain⟨hNe,hRe⟩:=HN0.o qB;have Rg:=ae hNe;have YO:=ae hRe;clear hNe hRe HN0 La;obtain⟨c0,c1,c2,_⟩:=HT.o w1 aP.o;go_wp2_with fail;go_loopw [6,7,22] (λo n i wr=>∃(j:Nat) (l:List (Value×Row)),j<=gs.length/\i=.int .i64 (j:Int)/\n=.int .i64 ((iX fs T (gs.take j):Nat):Int)/\Ow wr A.heap.size o l/\l.map Prod.snd=jU fs T (gs.take j)/\Below A.heap.size A wr) (λ_ _ i _=>gs.length-(intOf i).toNat)
  case atStart=>exact⟨0,[],by omega,rfl,by rw[HNZ.o];rfl,Ow.nil _ _,Zi.o.symm,aP.o⟩
  case round =>
   obtain⟨j,l,hj,rfl,rfl,how,sR,az⟩:=hrel;have HO:=ae how;have HB:=ae az;have pV:=ae sR;have bH:=az.size
   have kW:l.length<=1000:=by
    have h1:=jep List.length sR;have h2:=Vt.o j;have h3:=QU.o;rw[jen]at h1;omega
   obtain⟨la,lc,rfl,Rf,AO,_⟩:=how.form;clear how az sR c0 c1 c2;by_cases aB:j<gs.length
   ·have hlt':(j:Int)<(gs.length:Int):=by omega
    obtain⟨G,R,va,vn,vc,rfl,jc0⟩:=HG.o j aB;obtain⟨ca,cb,hgro⟩:=jc0 wr HB.o;have hbA:=HB.o.alloc bH (.cells #[.slice (some ⟨R,0,none⟩) gs[j].1.length gs[j].1.length,.slice va vn vc] 109);have AQ:=ak wr (.cells #[.slice (some ⟨R,0,none⟩) gs[j].1.length gs[j].1.length,.slice va vn vc] 109);obtain⟨q0,q1⟩:=bx wr (.slice (some ⟨R,0,none⟩) gs[j].1.length gs[j].1.length) (.slice va vn vc) 109;have zl:(wr.alloc (.cells #[.slice (some ⟨R,0,none⟩) gs[j].1.length gs[j].1.length,.slice va vn vc] 109)).heap.size=wr.heap.size+1:=jel _ _;have HZQ:=ae zl;have nE:=ae (HO.o.kept AQ);have fx:=ae hbA;have HGC:=ae jc0;have HRJ:=ae (sP.o j aB);have HNJ:=ae (HNT.o j aB);have HMJ:=ae (HMG.o gs[j]);have HNJ2:=ae (HNL.o (j+1))
    have HQ:jgf (∀ U,Below (wr.alloc (.cells #[.slice (some ⟨R,0,none⟩) gs[j].1.length gs[j].1.length,.slice va vn vc] 109)).heap.size (wr.alloc (.cells #[.slice (some ⟨R,0,none⟩) gs[j].1.length gs[j].1.length,.slice va vn vc] 109)) U->U.cell? ⟨wr.heap.size,0,none⟩=some (.slice (some ⟨R,0,none⟩) gs[j].1.length gs[j].1.length)/\U.cell? ⟨wr.heap.size,1,none⟩=some (.slice va vn vc)):=ae (λU hU =>
     ⟨(hU.cell (p:=⟨wr.heap.size,0,none⟩) (by show wr.heap.size<_;omega)).trans q0,(hU.cell (p:=⟨wr.heap.size,1,none⟩) (by show wr.heap.size<_;omega)).trans q1⟩)
    obtain⟨c0,c1,c2,d0,d1,d2,d3,d4,d5⟩:=HT.o _ fx.o;obtain⟨M,hM⟩:∃ M,pq fs gs[j].2 T=M:=⟨_,rfl⟩;rw[hM]at HMJ
    have HMC:jgf (∀ U,Below (wr.alloc (.cells #[.slice (some ⟨R,0,none⟩) gs[j].1.length gs[j].1.length,.slice va vn vc] 109)).heap.size (wr.alloc (.cells #[.slice (some ⟨R,0,none⟩) gs[j].1.length gs[j].1.length,.slice va vn vc] 109)) U->Calls Tryz.prog 66 #[.agg #[.int .u8 (op:Int),.int .u32 (f:Int),.int .u8 (k0:Int),.int .i64 k1,.string k2,.slice ka ks.length kc],.agg #[.int .u32 (id:Int),.slice fa fs.length fc],.slice va vn vc] U
      λe w'=>e=.returned (.agg #[.bool M.1,.bool M.2.1,.bool M.2.2])/\Below (wr.alloc (.cells #[.slice (some ⟨R,0,none⟩) gs[j].1.length gs[j].1.length,.slice va vn vc] 109)).heap.size (wr.alloc (.cells #[.slice (some ⟨R,0,none⟩) gs[j].1.length gs[j].1.length,.slice va vn vc] 109)) w'):=ae (λU hU=>by
     have hbU:=fx.o.trans (hU.mono fx.o.size);obtain⟨_,_,hg⟩:=HGC.o U hbU;refine(HMY.o U _ gs[j].2 hbU hg.stats (cP.o j aB)).mono ?_;rintro e w' ⟨rfl,hb⟩;rw[hM];exact⟨rfl,ai hU hb⟩)
    clear hM hgro jc0 hbA AQ zl q0 q1 ca cb HO;obtain⟨ca,cb,_⟩:=HGC.o wr HB.o;go_upto_region 8 with fail
    generalize hWA:wr.alloc (.cells #[.slice (some ⟨R,0,none⟩) gs[j].1.length gs[j].1.length,.slice va vn vc] 109)=WA at *;obtain⟨e0,e1⟩:=HQ.o WA (jej _ _);have hix:∀ w,(Instr.index 123 (.agg #[.bool M.1,.bool M.2.1,.bool M.2.2]) (.int .u8 2)).run Tryz.prog w=.ok (.bool M.2.2) w:=jbN _ _ _;go_cut [34] from 46 (λv wx=>v=.bool M.2.2/\Below WA.heap.size WA wx)
    case first =>
     refine wp_region_noPanic ?_
     go_region_law (first
      | (go_simp;go_at_call 66;refine(HMC.o _ ?_).mono ?_;exact ar (jej WA.heap.size WA) _;rintro e w5 ⟨rfl,bD⟩;have aQ:=ae bD;clear bD;dsimp only)
      | fail)
     all_goals refine NoPanic.normal ?_
     all_goals go_wp2_with fail
     all_goals go_meet
     all_goals exact⟨rfl,aQ.o⟩
    case rest =>
    obtain⟨rfl,tY⟩:=hcut;obtain⟨w5,Xa⟩:∃ w5,w5=wc:=⟨_,rfl⟩;subst Xa;have aQ:=ae tY;have QV:=ae (fx.o.trans (tY.mono fx.o.size));have df:=ae (nE.o.kept tY);obtain⟨f0,f1⟩:=HQ.o w5 tY;have tU:=tY.size;clear tY hix e0 e1 ca cb c0 c1 c2 d0 d1 d2 d3 d4 d5 HMC nE;obtain⟨m1,m2,m3⟩:=M;simp only at *;have Gq:=QV.o.size;cases m3 with
    | false =>
     have jc1:jgf (jU fs T (gs.take (j+1))=jU fs T (gs.take j)):=ae (by rw[HRJ.o,HMJ.o];simp);have Zu:jgf (iX fs T (gs.take (j+1))=iX fs T (gs.take j)):=ae (by rw[HNJ.o,HMJ.o];simp);go_wp2_with fail;go_roundw
     case rel=>exact⟨j+1,l,by omega,by go_num,by rw[Zu.o],df.o,by rw[jc1.o,pV.o],QV.o⟩
     case measure=>simp[intOf];omega
    | true =>
     have jc1:jgf (jU fs T (gs.take (j+1))=jU fs T (gs.take j)++mZ fs T gs[j].1):=ae (by rw[HRJ.o,HMJ.o];simp);have Zu:jgf (iX fs T (gs.take (j+1))=iX fs T (gs.take j)+1):=ae (by rw[HNJ.o,HMJ.o];simp);have hnl:iX fs T (gs.take j)<=100000:=by have h1:=HNJ2.o;have h2:=Zu.o;omega
     obtain⟨cn,AM⟩:∃ cn,iX fs T (gs.take j)=cn:=⟨_,rfl⟩;have kf:=ae AM;rw[AM]at hnl ⊢;clear AM;obtain⟨_,_,hg5⟩:=HGC.o w5 QV.o;have CX:=ae (GL.o w5 _ _ j aB QV.o hg5);obtain⟨_,_,_,d0,d1,d2,d3,d4,d5⟩:=HT.o w5 QV.o;have HHL2:=ae (HHL.o gs[j].1)
     have HGL:jgf (gs[j].1.length<=1000):=ae (by
      have h5:=mw aB;have h6:=fB gs (j+1);have h7:=QU.o;rw[h5,jem]at h6;omega)
     clear hg5;go_wp2_with fail;refine CX.o.mono ?_;rintro e w6 ⟨⟨v6,l6,rfl,AU,Wf⟩,dW⟩;have my:=ae (df.o.kept dW);have HV6:=ae AU;have HSN6:=ae Wf;have gW:=ae (QV.o.trans (dW.mono Gq));have hz7:=dW.size;obtain⟨va6,vc6,rfl,_,_⟩:=be AU.1;clear dW AU Wf CX df;go_wp2_with (first | (at_builtin;refine gO rfl _ _ rfl A.heap.size _ _ l l6 rfl my.o rfl HV6.o.sv ?c1 ?c2 ?c3 ?_))
     case c1=>exact λx hx=>(HV6.o.2 x hx).of_le Gq
     case c2 =>
      have h1:=jep List.length HSN6.o;have h2:=HHL2.o;have h3:=HGL.o;rw[jen]at h1;omega
     case c3=>omega
     intro v' w7 o7 b7;have iI:=ae o7;have ir:=ae (gW.o.trans b7);clear o7 b7;go_wp2_with fail;go_roundw
     case rel=>exact⟨j+1,_,by omega,by go_num,by rw[Zu.o,kf.o];go_num,iI.o,by rw[jc1.o,jeE,pV.o,HSN6.o],ir.o⟩
     case measure=>simp[intOf];omega
   ·obtain rfl:j=gs.length:=by omega
    have gi:¬ ((gs.length:Nat):Int)<(gs.length:Int):=(by omega);have yn:w.heap.size<=A.heap.size:=by have:=HZ1.o;omega
    have Gy:jgf (l.map Prod.snd=RR):=ae (by rw[pV.o,HRA.o,YO.o]);have GA:jgf (iX fs T (gs.take gs.length)=N):=ae (by rw[MH.o,Rg.o]);rw[GA.o];go_wp2_with fail;go_ret2
    first | exact⟨⟨_,_,rfl,HO.o.low yn,Gy.o⟩,ai nH.o HB.o⟩ | exact⟨⟨_,rfl,_,HO.o.low yn,Gy.o⟩,ai nH.o HB.o⟩
 ·have hkz:(k != 0)=true:=by simp[qB]
  rw[hkz];obtain⟨hNe,hRe⟩:=La.o qB;have YO:=ae hRe;have yn:w.heap.size<=A.heap.size:=by have:=HZ1.o;omega
  subst hNe;clear hRe;go_wp2_with fail;go_ret2
  first | exact⟨⟨_,[],rfl,Ow.nil _ _,YO.o.symm⟩,ai nH.o aP.o⟩ | exact⟨⟨_,rfl,[],Ow.nil _ _,YO.o.symm⟩,ai nH.o aP.o⟩
theorem ex.low'{W:World}{B B':Nat}{v:Value}{l:Row}(h:ex W B v l)(hB:B'<=B):ex W B' v l:=tI h hB
def Oc(W:World)(B:Nat)(v:Value)(l:List (Value×Row)):Prop:=W.ownsRow B 58 1 v l.length (l.map Prod.fst)/\∀ x∈l,ex W B x.1 x.2
theorem Oc.nil(W:World)(B:Nat):Oc W B (.slice none 0 0) []:=⟨jfb _ _ _ _,λx hx=>by simp at hx⟩
theorem Oc.kept{W W':World}{B:Nat}{v:Value}{l:List (Value×Row)}(h:Oc W B v l)(hb:Below W.heap.size W W'):Oc W' B v l:=⟨bJ h.1 hb,λx hx=>(h.2 x hx).kept hb⟩
theorem Oc.form{W:World}{B:Nat}{v:Value}{l:List (Value×Row)}(h:Oc W B v l):∃ a cap,v=.slice a l.length cap/\l.length<=cap/\cap<=maxLen/\(a=none->cap=0):=by
 rcases h.1 with ⟨h0,⟨h1,h2⟩ | ⟨g,cap,cur,h1,h2,h3,h4,h5,_⟩⟩
 ·exact⟨none,0,by rw[h1,h2],by omega,by unfold maxLen;omega,λ_=>rfl⟩
 ·exact⟨_,cap,h1,h4,h5,λe=>by cases e⟩
theorem Oc.at{W:World}{B:Nat}{a:Option Addr}{n cap:Nat}{l:List (Value×Row)}(h:Oc W B (.slice a n cap) l){k:Nat}(hk:k<l.length) :
  ∃ g,a=some ⟨g,0,none⟩/\g<W.heap.size/\W.cell? ⟨g,k,none⟩=some l[k].1/\ex W B l[k].1 l[k].2:=by
 rcases h with ⟨⟨h0,⟨h1,h2⟩ | ⟨g,cap',cur,h1,h2,h3,h4,h5,h6,h7⟩⟩,hr⟩
 ·omega
 ·simp only[Value.slice.injEq]at h1
  obtain⟨rfl,rfl,rfl⟩:=h1;refine⟨g,rfl,(Array.getElem?_eq_some_iff.1 h3).1,?_,(hr _ (jeo hk))⟩;have hj:(l.map Prod.fst)[k]?=some l[k].1:=by simp[hk]
  simp only[World.cell?,h3];rw[← h7]at hj;have aB:=(List.getElem?_eq_some_iff.1 hj).1;rw[jeq]at aB;rw[List.getElem?_take_of_lt (by omega)]at hj;simpa using hj
theorem Oc.sr{W:World}{B:Nat}{v:Value}{l:List (Value×Row)}(h:Oc W B v l):Sr W v (l.map Prod.snd):=by
 obtain⟨a,cap,rfl,h1,h2,h3⟩:=h.form;refine⟨a,cap,by rw[jen],by rw[jen];exact h1,h2,λh0=>?_⟩;rw[jen]at h0;obtain⟨g,e,h4,_⟩:=h.at h0;refine⟨g,0,e,h4,λj hj=>?_⟩;rw[jen]at hj;obtain⟨g',e',h5,h6,h7⟩:=h.at hj;obtain rfl:g=g':=by rw[e]at e';cases e';rfl
 refine⟨_,by rw[jeO];exact h6,?_⟩;have:=h7.sc;simpa using this
theorem CA{w:World}(ty:TypeId)(base:Nat)(v vx:Value)(l0 l:List (Value×Row))(aA:Oc w base v l0)(eN:Sv w vx (l.map Prod.fst))(hr:∀ x∈l,ex w base x.1 x.2)(hbytes:l0.length+l.length<=1000000)(aI:base<=w.heap.size) :
  ∃ v' w',(Builtin.append_ #[26,26] ty #[v,vx]).run Tryz.prog w=.ok v' w'/\Oc w' base v' (l0++l)/\Below base w w':=by
 obtain⟨i0,hi,ch,hz1',bv⟩:=jeD UB;obtain⟨ad,cap,rfl,h1,h2,h3,h4⟩:=eN;rw[jen]at *
 have one:∀ x∈l.map Prod.fst,x.oneCell'=true:=λx hx=>by
  obtain⟨y,hy,rfl⟩:=jeF.1 hx;obtain⟨a,n,c,e⟩:=eA (hr y hy);rw[e];rfl
 cases ad with
 | none =>
  have hc:=h3 rfl;subst hc;have hl:l=[]:=jeI (by omega);subst hl;have hr:=jfI (P:=Tryz.prog) (w:=w) base 26 ty 58 i0 1 Tryz.underlying26 hi v l0.length (l0.map Prod.fst) aA.1;refine⟨v,w,hr,by rw[jeG];exact aA,jej _ _⟩
 | some ad =>
  obtain⟨v',w',zu,o1,g1,_,e1⟩:=run_append_own_at (P:=Tryz.prog) w base 26 ty 58 i0 (.slice none 0 0) 1 24 Tryz.underlying26 hi ch hz1' bv rfl (by decide) v l0.length (l0.map Prod.fst) aA.1 ad l.length cap (l.map Prod.fst) (by rw[jen];omega)
   (λj u hu=>by
    have hj:j<l.length:=by
     have:=(List.getElem?_eq_some_iff.1 hu).1;rwa[jen]at this
    obtain⟨b,off,h5,_,h6⟩:=h4 (by omega);cases h5
    rw[lR];exact h6 j u hu) one (by unfold maxLen;omega) (by omega) aI
  have keep:∀ y:Value×Row,ex w base y.1 y.2->ex w' base y.1 y.2:=λy hy =>
   bX hy λk hk=>g1.block k (aM hy hk).2.1 (λe=>eV hy aA.1 (by decide) hk e.symm)
  refine⟨v',w',zu,⟨?_,λy hy=>?_⟩,(jej base w).grown g1 aI (λk hk=>(aA.1.lt k hk).1)⟩
  ·rw[jem,jeE]
   exact o1
  ·rcases jeN.1 hy with hy | hy
   ·exact keep y (aA.2 y hy)
   ·exact keep y (hr y hy)
theorem uL{w:World}{o:Oper}{a:Act}{K:Act->World->Prop}{Q:Exit->Act->World->Prop}(s x:Operand)
  (ho:o.op=.call { callee:=.builtin .append,args:=#[s,x],argTypes:=#[26,26] })
  (base:Nat) (v vx:Value) (l0 l:List (Value×Row)) (hs:a.eval s=v) (aA:Oc w base v l0) (hx:a.eval x=vx) (eN:Sv w vx (l.map Prod.fst)) (hr:∀ x∈l,ex w base x.1 x.2) (hbytes:l0.length+l.length<=1000000) (aI:base<=w.heap.size)
  (h:∀ v' w',Oc w' base v' (l0++l)->Below base w w'->K (a.put o.dst v') w'):Oper.wp Tryz.prog o a w K Q:=by
 obtain⟨v',w',hr,h2,h3⟩:=CA o.type base v vx l0 l aA eN hr hbytes aI;unfold Oper.wp execOp;simp only[ho,resolve,invoke,builtin,Sem.run_bind,Sem.run_pure,Result.andThen_ok,jfs,jeT,je8,hs,hx,hr];exact h v' w' h2 h3
theorem zb{w:World}{ops:Array Oper}{o:Oper}{a:Act}{K:Act->World->Prop}{Q:Exit->Act->World->Prop}{E:Prop}(dY:o.guard=none)(s x:Operand)
  (ho:o.op=.call { callee:=.builtin .append,args:=#[s,x],argTypes:=#[26,26] })
  (base:Nat) (v vx:Value) (l0 l:List (Value×Row)) (hs:a.eval s=v) (aA:Oc w base v l0) (hx:a.eval x=vx) (eN:Sv w vx (l.map Prod.fst)) (hr:∀ x∈l,ex w base x.1 x.2) (hbytes:l0.length+l.length<=1000000) (aI:base<=w.heap.size)
  (h:∀ v' w',Oc w' base v' (l0++l)->Below base w w'->K (a.put o.dst v') w') :
  if Region.wanted o (yielded ops a.tmps)=true then Oper.wp Tryz.prog o a w K Q else E:=by
 have hw:Region.wanted o (yielded ops a.tmps)=true:=by simp[Region.wanted,dY]
 rw[jei hw];exact uL s x ho base v vx l0 l hs aA hx eN hr hbytes aI h
theorem vE{w:World}{ops:Array Oper}{rest:List Oper}{o:Oper}{a:Act}{Q:Exit->Act->World->Prop}(dY:o.guard=none)(s x:Operand)
  (ho:o.op=.call { callee:=.builtin .append,args:=#[s,x],argTypes:=#[26,26] })
  (base:Nat) (v vx:Value) (l0 l:List (Value×Row)) (hs:a.eval s=v) (aA:Oc w base v l0) (hx:a.eval x=vx) (eN:Sv w vx (l.map Prod.fst)) (hr:∀ x∈l,ex w base x.1 x.2) (hbytes:l0.length+l.length<=1000000) (aI:base<=w.heap.size)
  (h:∀ v' w',Oc w' base v' (l0++l)->Below base w w'->wpList Tryz.prog ops Q rest (a.put o.dst v') w') :
  wpList Tryz.prog ops Q (o::rest) a w :=
 wpList_plain dY λK hK=>uL s x ho base v vx l0 l hs aA hx eN hr hbytes aI λv' w' h1 h2=>hK _ _ (h v' w' h1 h2)
theorem YD{r:Row}(h:∀ c∈r,aT c):r.map bq=r:=by
 conv=>rhs;rw[← jfj r]
 exact jff λc hc=>MS (h c hc)
theorem Qb{w:World}{v:Value}{rs:List Row}(hs:Sr w v rs)(hf:∀ r∈rs,∀ c∈r,aT c)(hl:rs.length<=1000)(kW:∀ r∈rs,r.length<=600) :
  Calls Tryz.prog 13 #[v] w λe w'=>(∃ v' l,e=.returned v'/\Ow w' w.heap.size v' l/\l.map Prod.snd=rs)/\Below w.heap.size w w':=by
 have HS:=ae hs;have HF:=ae hf;have HLL:=ae kW;obtain⟨a,cap,rfl,aW,bC⟩:=hs.form;have hcm':cap<=9223372036854775807:=by unfold maxLen at bC;omega
 clear hs bC hf kW;go_enter Tryz.func13,Tryz.ntmps13
 go_wp2_with fail;go_loopw [3,4] (λo i wr=>∃(j:Nat) (l:List (Value×Row)),j<=rs.length/\i=.int .i64 (j:Int)/\Ow wr w.heap.size o l/\l.map Prod.snd=rs.take j/\Below w.heap.size w wr) (λ_ i _=>rs.length-(intOf i).toNat)
 case atStart=>exact⟨0,[],by omega,rfl,Ow.nil _ _,rfl,jej _ _⟩
 case round =>
  obtain⟨j,l,hj,rfl,how,sR,az⟩:=hrel;have HO:=ae how;have HB:=ae az;have pV:=ae sR;have bH:=az.size;have kW:l.length=j:=by have:=jep List.length sR;rw[jen,jeq]at this;omega
  clear how az sR;by_cases aB:j<rs.length
  ·obtain⟨g,off,rv,rfl,hg,bn,yB⟩:=(HS.o.kept HB.o).at aB
   have hlt':(j:Int)<(rs.length:Int):=(by omega);have lz:jgf (rs.take (j+1)=rs.take j++[rs[j]]):=ae (jeA aB);have GP:=ae (RG yB (λc hc=>(HF.o _ (jeo aB) c hc).okc) (HLL.o _ (jeo aB)));rw[YD (HF.o _ (jeo aB))]at GP;generalize rs[j]=r at *;obtain⟨ra,rc,rfl,_,_⟩:=yB.form;have HLJ:=ae kW;clear yB kW;go_wp2_with fail;refine GP.o.mono ?_;rintro e w1 ⟨⟨rv',rfl,ei⟩,aH⟩;have eO:=ae ei;have jc3:=ae (HO.o.kept aH);have aP:=ae (HB.o.trans (aH.mono bH));have cK:=aH.size;obtain⟨ra',rc',rfl,_,_⟩:=be ei;have kf:=ae (aK w1 (.slice ra' r.length rc') 79);clear aH ei;go_wp2_with (first | (at_builtin;refine gO rfl _ _ rfl w.heap.size _ _ l [(.slice ra' r.length rc',r)] rfl (jc3.o.kept (ak _ _)) rfl (pn kf.o (by rw[jel];omega)) ?c1 ?c2 ?c3 ?_))
   case c1 =>
    intro x hx;rw[jeX.1 hx];exact(eO.o.kept (ak _ _)).of_le bH
   case c2=>have:=HLJ.o;simp only[jeS];omega
   case c3=>rw[jel];omega
   intro v' w5 o5 b5;have df:=ae o5;have aQ:=ae ((aP.o.alloc (jet bH cK) _).trans b5);clear o5 b5;go_wp2_with fail;go_roundw
   case rel=>exact⟨j+1,_,by omega,by go_num,df.o,by rw[lz.o,jeE,pV.o];rfl,aQ.o⟩
   case measure=>simp[intOf];omega
  ·obtain rfl:j=rs.length:=by omega
   rw[jes]at pV;have gi:¬ ((rs.length:Nat):Int)<(rs.length:Int):=(by omega);go_wp2_with fail;go_ret
   first | exact⟨⟨_,_,rfl,HO.o,pV.o⟩,HB.o⟩ | exact⟨⟨_,rfl,_,HO.o,pV.o⟩,HB.o⟩
theorem UT{w:World}{v:Value}{rs:List Row}(hs:Rv w v rs)(hf:∀ r∈rs,∀ c∈r,aT c)(hl:rs.length<=1000)(kW:∀ r∈rs,r.length<=600) :
  Calls Tryz.prog 34 #[v] w λe w'=>(∃ v' l,e=.returned v'/\Oc w' w.heap.size v' l/\l.map Prod.snd=rs)/\Below w.heap.size w w':=by
 have HS:=ae hs;have HF:=ae hf;have HLL:=ae kW;obtain⟨a,cap,rfl,aW,hcm',_⟩:=hs.form;clear hs hf kW;go_enter Tryz.func34,Tryz.ntmps34
 go_wp2_with fail;go_loopw [3,4] (λo i wr=>∃(j:Nat) (l:List (Value×Row)),j<=rs.length/\i=.int .i64 (j:Int)/\Oc wr w.heap.size o l/\l.map Prod.snd=rs.take j/\Below w.heap.size w wr) (λ_ i _=>rs.length-(intOf i).toNat)
 case atStart=>exact⟨0,[],by omega,rfl,Oc.nil _ _,rfl,jej _ _⟩
 case round =>
  obtain⟨j,l,hj,rfl,how,sR,az⟩:=hrel;have HO:=ae how;have HB:=ae az;have pV:=ae sR;have bH:=az.size;have kW:l.length=j:=by have:=jep List.length sR;rw[jen,jeq]at this;omega
  clear how az sR;by_cases aB:j<rs.length
  ·obtain⟨g,off,rv,rfl,hg,bn,yB⟩:=(HS.o.kept HB.o).at aB
   have hlt':(j:Int)<(rs.length:Int):=(by omega);have lz:jgf (rs.take (j+1)=rs.take j++[rs[j]]):=ae (jeA aB);have GP:=ae (Aj yB (HF.o _ (jeo aB)) (HLL.o _ (jeo aB)));generalize rs[j]=r at *;obtain⟨ra,rc,rfl,_,_⟩:=yB.form1;rw[aG]at *;have HLJ:=ae kW;clear yB kW;go_wp2_with fail;refine GP.o.mono ?_;rintro e w1 ⟨⟨rv',rfl,ei⟩,aH⟩;have eO:=ae ei;have jc3:=ae (HO.o.kept aH);have aP:=ae (HB.o.trans (aH.mono bH));have cK:=aH.size;obtain⟨ra',rc',rfl,_,_⟩:=be ei;have kf:=ae (aK w1 (.slice ra' r.length rc') 58);clear aH ei;go_wp2_with (first | (at_builtin;refine vE rfl _ _ rfl w.heap.size _ _ l [(.slice ra' r.length rc',r)] rfl (jc3.o.kept (ak _ _)) rfl (pn kf.o (by rw[jel];omega)) ?c1 ?c2 ?c3 ?_))
   case c1 =>
    intro x hx;rw[jeX.1 hx];exact(eO.o.kept (ak _ _)).low' bH
   case c2=>have:=HLJ.o;simp only[jeS];omega
   case c3=>rw[jel];omega
   intro v' w5 o5 b5;have df:=ae o5;have aQ:=ae ((aP.o.alloc (jet bH cK) _).trans b5);clear o5 b5;go_wp2_with fail;go_roundw
   case rel=>exact⟨j+1,_,by omega,by go_num,df.o,by rw[lz.o,jeE,pV.o];rfl,aQ.o⟩
   case measure=>simp[intOf];omega
  ·obtain rfl:j=rs.length:=by omega
   rw[jes]at pV;have gi:¬ ((rs.length:Nat):Int)<(rs.length:Int):=(by omega);go_wp2_with fail;go_ret
   first | exact⟨⟨_,_,rfl,HO.o,pV.o⟩,HB.o⟩ | exact⟨⟨_,rfl,_,HO.o,pV.o⟩,HB.o⟩
theorem aT.bsA{c:Cl}(h:aT c):Bs c.2.2:=h.okc.2.2
theorem Sc.take{W:World}{a:Option Addr}{n cap:Nat}{l:Row}(h:Sc W (.slice a n cap) l){k:Nat}(hk:k<=l.length):Sc W (.slice a k cap) (l.take k):=by
 obtain⟨a',cap',e,h1,h2,h4⟩:=h;simp only[Value.slice.injEq]at e;obtain⟨rfl,_,rfl⟩:=e;have hl:(l.take k).length=k:=by rw[jeq];omega
 refine⟨a,cap,by rw[hl],by omega,h2,λh0=>?_⟩;obtain⟨b,off,h5,h6,h7⟩:=h4 (by omega);refine⟨b,off,h5,h6,λj x hx=>h7 j x ?_⟩;have e:gA l=gA (l.take k)++gA (l.drop k):=by rw[← qR,jfF]
 have hj:=(List.getElem?_eq_some_iff.1 hx).1;rw[e,List.getElem?_append_left hj];exact hx
def UU(l:List (Value×Row)):Prop:=l.length<=300/\∀ x∈l,x.2.length<=20/\∀ c∈x.2,aT c
theorem FX{w:World}{v:Value}{rs:List Row}(hs:Sr w v rs)(ho:∀ r∈rs,∀ c∈r,Okc c) :
  Calls Tryz.prog 11 #[v] w λe w'=>(∃ v' l,e=.returned v'/\Oc w' w.heap.size v' l/\UU l)/\Below w.heap.size w w':=by
 have HS:=ae hs;have HO:=ae ho;obtain⟨a,cap,rfl,aW,bC⟩:=hs.form;have hcm':cap<=9223372036854775807:=by unfold maxLen at bC;omega
 clear hs bC ho;go_enter Tryz.func11,Tryz.ntmps11
 go_wp2_with fail;go_loopw [3,4] (λo i wr=>∃(j:Nat) (l:List (Value×Row)),j<=rs.length/\j<=300/\i=.int .i64 (j:Int)/\Oc wr w.heap.size o l/\l.length=j/\UU l/\Below w.heap.size w wr) (λ_ i _=>rs.length-(intOf i).toNat)
 case atStart=>exact⟨0,[],by omega,by omega,rfl,Oc.nil _ _,rfl,⟨by simp,λx hx=>by simp at hx⟩,jej _ _⟩
 case round =>
  obtain⟨j,l,hj,hj3,rfl,how,kW,hf10,az⟩:=hrel;have wo:=ae how;have HB:=ae az;have AX:=ae hf10;have HLJ:=ae kW;have bH:=az.size;obtain⟨la,lc,rfl,Rf,AO,_⟩:=how.form;clear how az hf10 kW;by_cases aB:j<rs.length
  ·have hlt':(j:Int)<(rs.length:Int):=by omega
   by_cases h3:j<300
   ·have h3':(j:Int)<300:=by omega
    obtain⟨g,off,rv,rfl,hg,bn,yB⟩:=(HS.o.kept HB.o).at aB;have ML:=ae (HO.o _ (jeo aB));generalize rs[j]=r at *;obtain⟨ra,rc,rfl,QM,Da⟩:=yB.form;have hrc2':rc<=9223372036854775807:=by unfold maxLen at Da;omega
    obtain⟨m,hm⟩:∃ m,min r.length 20=m:=⟨_,rfl⟩;have hml:m<=r.length:=(by omega);have hm20:m<=20:=(by omega);have QR:min (r.length:Int) 20=(m:Int):=(by omega);have hm0:(0:Int)<=(m:Int):=(by omega);have hmc:(m:Int)<=(rc:Int):=(by omega);have Rh:((m:Nat):Int).toNat=m:=(by omega);have gV:=yB.take hml
    have Rj:jgf (∀ U,Below wr.heap.size wr U->Calls Tryz.prog 38 #[.slice ra m rc] U λe w'=>∃ ra' rc',e=.returned (.slice ra' m rc')/\ex w' wr.heap.size (.slice ra' m rc') ((r.take m).map bq)/\Below wr.heap.size wr w'/\Oc w' w.heap.size (.slice la l.length lc) l/\Below w.heap.size w w'/\∀ o,(w'.alloc o).heap.size=w'.heap.size+1):=ae (λU hU=>by
     refine(Hc (gV.kept hU) (by rw[jeq];omega)).mono ?_;rintro e w' ⟨⟨v',rfl,ho'⟩,hb'⟩;have aE:=ai hU hb';have bR:((r.take m).map bq).length=m:=by rw[jen,jeq];omega
     obtain⟨ra',rc',rfl,_,_⟩:=be ho';rw[bR];have ft:=ex.low' ho' hU.size;rw[bR]at ft;exact⟨ra',rc',rfl,ft,aE,wo.o.kept aE,HB.o.trans (aE.mono bH),λo=>jel _ _⟩)
    have np:jgf (((r.take m).map bq).length<=20/\∀ c∈(r.take m).map bq,aT c):=ae ⟨by rw[jen,jeq];omega,λc hc=>by
     obtain⟨x,hx,rfl⟩:=jeF.1 hc;exact fZ (ML.o x (je2 hx))⟩
    generalize (r.take m).map bq=r2 at *;clear yB gV hm;go_upto_region 5 with fail
    refine wp_region_noPanic ?_
    go_region_law (first
     | (refine zb (by rfl) _ _ (by rfl) w.heap.size _ _ l [(.slice ra' m rc',r2)] (by rfl) ?_ (by rfl) ?_ ?_ ?_ ?_ ?_;exact df.o.kept (ak _ _);exact pn (aK _ _ _) (by rw[jel];omega);(intro x hx;rw[jeX.1 hx];exact(sG.o.kept (ak _ _)).low' bH);(have:=HLJ.o;simp only[jeS];omega);(rw[jel];have:=aQ.o.size;omega);intro v6 w6 o6 b6;have my:=ae o6;have gW:=ae ((aQ.o.alloc aQ.o.size _).trans b6);clear o6 b6;dsimp only)
     | (go_simp;go_at_call 38;refine(Rj.o _ ?_).mono ?_;exact ar (jej wr.heap.size wr) _;rintro e w5 ⟨ra',rc',rfl,fD,bD,hl5,Xa,tU⟩;have sG:=ae fD;have aQ:=ae Xa;have df:=ae hl5;clear fD bD hl5 Xa;dsimp only)
     | fail)
    all_goals refine NoPanic.normal ?_
    all_goals go_wp2_with fail
    all_goals go_roundw
    all_goals first
     | (simp[intOf];omega)
     | refine⟨j+1,_,by omega,by omega,by go_num,my.o,by rw[jem,HLJ.o];rfl,⟨by rw[jem,HLJ.o];simp only[jeS];omega,λx hx=>?_⟩,gW.o⟩
    all_goals rcases jeN.1 hx with hx | hx
    all_goals first
     | exact AX.o.2 x hx
     | (rw[jeX.1 hx];exact np.o)
   ·have h3':¬ (j:Int)<300:=by omega
    go_wp2_with fail;go_ret
    first | exact⟨⟨_,_,rfl,wo.o,AX.o⟩,HB.o⟩ | exact⟨⟨_,rfl,_,wo.o,AX.o⟩,HB.o⟩
  ·have gi:¬ (j:Int)<(rs.length:Int):=by omega
   go_wp2_with fail;go_ret
   first | exact⟨⟨_,_,rfl,wo.o,AX.o⟩,HB.o⟩ | exact⟨⟨_,rfl,_,wo.o,AX.o⟩,HB.o⟩
theorem UW(w:World)(l:Row)(hl:l.length<=256):OwnV (w.alloc (.cells (aJ l).toArray 78)) w.heap.size (.slice (some ⟨w.heap.size,0,none⟩) l.length l.length) l :=
 jfv (e:=78) (size:=1) w (aJ l).toArray l.length (base:=w.heap.size) (jek _) (by unfold maxLen;omega) (by simp[aJ])
theorem jbO(w:World)(l:Row)(hl:l.length<=256):ex (w.alloc (.cells (gA l).toArray 52)) w.heap.size (.slice (some ⟨w.heap.size,0,none⟩) l.length l.length) l :=
 jfv (e:=52) (size:=3) w (gA l).toArray l.length (base:=w.heap.size) (jek _) (by unfold maxLen;omega) (by simp[mE])
theorem UX(W:World):let W3:=W.alloc (.cells #[.iface 2 (.int .i64 1),.iface 9 (.string ⟨#[97]⟩)] 78);let W4:=W3.alloc (.cells #[.iface 2 (.int .i64 2),.nilIface] 78)
  Rv (W4.alloc (.cells #[.slice (some ⟨W.heap.size,0,none⟩) 2 2,.slice (some ⟨W.heap.size+1,0,none⟩) 2 2] 79)) (.slice (some ⟨W.heap.size+1+1,0,none⟩) 2 2) rA/\Below W.heap.size W (W4.alloc (.cells #[.slice (some ⟨W.heap.size,0,none⟩) 2 2,.slice (some ⟨W.heap.size+1,0,none⟩) 2 2] 79)):=by
 intro W3 W4;have h3:OwnV W3 W.heap.size (.slice (some ⟨W.heap.size,0,none⟩) 2 2) rA1:=UW W rA1 (by decide);have h4:OwnV W4 W3.heap.size (.slice (some ⟨W3.heap.size,0,none⟩) 2 2) rA2:=UW W3 rA2 (by decide);have z3:W3.heap.size=W.heap.size+1:=jel _ _;have z4:W4.heap.size=W.heap.size+1+1:=by show (W3.alloc _).heap.size=_;rw[jel,z3]
 rw[z3]at h4;have b3:Below W3.heap.size W3 W4:=ak _ _;have b4:=ak W4 (.cells #[.slice (some ⟨W.heap.size,0,none⟩) 2 2,.slice (some ⟨W.heap.size+1,0,none⟩) 2 2] 79);obtain⟨c0,c1⟩:=bx W4 (.slice (some ⟨W.heap.size,0,none⟩) 2 2) (.slice (some ⟨W.heap.size+1,0,none⟩) 2 2) 79;have z5:(W4.alloc (.cells #[.slice (some ⟨W.heap.size,0,none⟩) 2 2,.slice (some ⟨W.heap.size+1,0,none⟩) 2 2] 79)).heap.size=W.heap.size+3:=by rw[jel,z4]
 refine⟨⟨_,2,rfl,jek _,by unfold maxLen;omega,λe=>(by cases e),λ_=>⟨W.heap.size+1+1,0,rfl,by omega,λj hj=>?_⟩⟩,?_⟩
 ·rw[z4]at c0 c1
  have Mw:j<2:=hj;obtain rfl | rfl:j=0∨j=1:=by omega
  ·exact⟨_,c0,((h3.kept b3).kept b4).sv⟩
  ·exact⟨_,c1,(h4.kept b4).sv⟩
 ·exact(((jej _ _).alloc (jek _) _).alloc (by rw[z3];omega) _).alloc (by rw[z4];omega) _
theorem sk(W:World):tp W (.slice none 0 0) []:=⟨none,0,rfl,jek _,by unfold maxLen;omega,λh=>by simp at h⟩
theorem Mo{fs:List Fd}{p:List Row}(h:jR fs p):∀ s∈(grp fs p).2,Oks s:=λs hs=>by
 obtain⟨i,_,rfl⟩:=jeF.1 hs;have:=kJ (mt h i);exact⟨this.1.okc,this.2.okc⟩
def gsA:List Gr:=[grp fI [rA1],grp fI [rA2]]
theorem YE:bT gsA=rA:=rfl
theorem oksA:∀ g∈gsA,∀ s∈g.2,Oks s:=λg hg=>by
 have gY:g=grp fI [rA1]∨g=grp fI [rA2]:=by simpa [gsA]using hg
 rcases gY with rfl | rfl
 ·exact Mo λr hr=>pP r (by rw[jeX.1 hr];simp[rA])
 ·exact Mo λr hr=>pP r (by rw[jeX.1 hr];simp[rA])
theorem ZW:gsA.filter (za fI pA)=[grp fI [rA2]]:=by
 have h1:za fI pA (grp fI [rA1])=false:=mayA1;have h2:za fI pA (grp fI [rA2])=true:=mayA2;unfold gsA;simp[jf8,h1,h2]
theorem jbP:iX fI pA gsA=1:=by unfold iX;rw[ZW];rfl
theorem jbQ:jU fI pA gsA=[rA2]:=by
 unfold jU;rw[ZW]
 have h:mZ fI pA [rA2]=[rA2]:=by
  unfold mZ US;rw[jf8,jbM];rfl
 show [grp fI [rA2]].flatMap _=_
 simp only[jfG,List.flatMap_nil,jeG];exact h
theorem jbR:Okp pA:=⟨by omega,by omega,⟨by decide,⟨by decide,by decide⟩,λx hx=>by simp at hx⟩,trivial⟩
theorem lenpA:Len pA:=⟨by decide,trivial⟩
end Go.Proofs.YtpljdjmpamjkhaaGreatDoor
