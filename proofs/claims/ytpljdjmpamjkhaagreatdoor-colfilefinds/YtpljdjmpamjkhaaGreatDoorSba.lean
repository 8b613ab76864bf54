import Derived.Test.YtpljdjmpamjkhaaGreatDoorSaz
import Derived.Test.YtpljdjmpamjkhaaGreatDoorCards
import Derived.Test.YtpljdjmpamjkhaaGreatDoorTie
import Derived.LaidMore
set_option linter.all false
set_option maxRecDepth 100000
set_option maxHeartbeats 20000000
namespace Go.Proofs.YtpljdjmpamjkhaaGreatDoor
open Go.Proofs.Tryz
open Go.RowKit Go.Lib
def MA:∀(r:List Cl) (m:Cl),eG m r∈m::r
 | [],m=>by simp[eG]
 | x::r,m=>by
  unfold eG;have:=MA r (if aD x m<0 then x else m);rcases jeL.1 this with h | h
  ·rw[h]
   split
   ·simp
   ·simp
  ·simp[h]
def MB:∀(r:List Cl) (m:Cl),dt m r∈m::r
 | [],m=>by simp[dt]
 | x::r,m=>by
  unfold dt;have:=MB r (if 0<aD x m then x else m);rcases jeL.1 this with h | h
  ·rw[h]
   split
   ·simp
   ·simp
  ·simp[h]
def KW{cs:List Cl}{k:Nat}(hf:∀ c∈cs,aI c)(hk:∀ c∈cs,c.1=k∨c=nul):fH cs=bO cs:=by
 have yd:∀ c∈aR cs,aI c/\c.1=k:=λc hc=>by
  unfold aR at hc;obtain⟨h1,h2⟩:=jfX.1 hc;refine⟨hf c h1,?_⟩;rcases hk c h1 with h | h
  ·exact h
  ·rw[h]at h2
   simp[nul]at h2
 unfold fH bO;cases hn:aR cs with
 | nil=>simp[soM]
 | cons x r =>
  rw[hn]at yd;have Rn:=yd _ (MA r x);have hma:=yd _ (MB r x);rw[jex (by simp[soM])];show (if (eG x r).1=3 then _ else _)=_
  rw[Rn.2];have e1:(leM (x::r))=eG x r:=rfl;have e2:(moM (x::r))=dt x r:=rfl;rw[e1,e2];show _=(⟨cs.length,(cs.length:Int)-((x::r).length:Nat),true,(fb (dt x r) ((x::r).all ex)).2,mx (eG x r) ((x::r).all ex),(fb (dt x r) ((x::r).all ex)).1⟩:Stt)
  by_cases h3:k=3
  ·rw[jey h3]
   have eP:ckM (x::r)=(x::r).all ex:=by
    unfold ckM;rw[jfK,List.all_eq_true,List.all_eq_true];constructor
    ·intro h c hc
     have:=h c hc;have h4:=(yd c hc).2;rw[h4,h3]at this;simpa using this
    ·intro h c hc
     rw[h c hc];simp
   rw[eP];subst h3
   have hmz:(eG x r).2.1=0/\(dt x r).2.1=0:=by
    constructor
    ·rcases Rn.1 with h | ⟨n,h,_⟩ | ⟨n,h,_⟩ | ⟨s,h,_⟩
     ·rw[h];rfl
     ·have:=Rn.2;rw[h]at this;simp at this
     ·have:=Rn.2;rw[h]at this;simp at this
     ·rw[h]
    ·rcases hma.1 with h | ⟨n,h,_⟩ | ⟨n,h,_⟩ | ⟨s,h,_⟩
     ·rw[h];rfl
     ·have:=hma.2;rw[h]at this;simp at this
     ·have:=hma.2;rw[h]at this;simp at this
     ·rw[h]
   have el:∀ cl,mx (eG x r) cl=if cl=false then (3,0,[]) else (3,0,nb (bE (lb (bytesT (eG x r).2.2)) 4)):=λcl=>by
    unfold mx;rw[Rn.2,hmz.1];cases cl
    ·rw[jey ⟨rfl,rfl⟩,jey rfl]
    ·rw[jex (by simp),jex (by simp)]
   have eh:∀ cl,fb (dt x r) cl=match eR (lb (bytesT (dt x r).2.2)) 4 with
    | none=>(nul,false)
    | some a=>if cl=true then ((3,0,nb a),true) else (nul,false):=λcl=>by
    unfold fb;rw[jey hma.2];cases eR (lb (bytesT (dt x r).2.2)) 4<;>rfl
   rw[el,eh,Rn.2,hma.2,hmz.1,hmz.2,<- ro];cases hc:(x::r).all ex
   ·rw[jey rfl,jey rfl]
    cases eR (lb (bytesT (dt x r).2.2)) 4<;>rfl
   ·rw[jex (by simp),jex (by simp)]
    cases eR (lb (bytesT (dt x r).2.2)) 4<;>rfl
  ·rw[jex h3]
   have ht:(eG x r).2.2=[]:=by
    rcases Rn.1 with h | ⟨n,h,_⟩ | ⟨n,h,_⟩ | ⟨s,h,_⟩
    ·rw[h];rfl
    ·rw[h]
    ·rw[h]
    ·have:=Rn.2;rw[h]at this;exact absurd this.symm h3
   have el:∀ cl,mx (eG x r) cl=eG x r:=λcl=>by
    unfold mx;rw[jex (λh=>h3 (Rn.2.symm.trans h.1)),ht];have h0:lb (bytesT ([]:List Nat))=[]:=rfl;rw[h0];have h1:nb (bE [] 4)=[]:=by simp[bE,nb]
    rw[h1,<- ht]
   have eh:∀ cl,fb (dt x r) cl=(dt x r,true):=λcl=>by
    unfold fb;rw[jex (λh=>h3 (hma.2.symm.trans h))]
   rw[el,eh]
def QK{fs:List Fd}{p:List Row}{k:Nat}(h:Col (mW fs k) (cx p k)):∀ c∈cx p k,c.1=mW fs k∨c=nul:=λc hc=>by
 rcases h.2.2 c hc with e | ⟨hk,n,e,_⟩ | ⟨hk,n,e,_⟩ | ⟨hk,n,e,_⟩
 ·exact .inr e
 ·rw[e,hk];exact .inl rfl
 ·rw[e,hk];exact .inl rfl
 ·rw[e,hk];exact .inl rfl
def Oz(W0 W:World)(B:Nat)(v:Value)(l:List (Value×Row)):Prop:=W.ownsRow B 58 1 v l.length (l.map Prod.fst)/\∀ x∈l,Sc W0 x.1 x.2
def Oz.nil(W0 W:World)(B:Nat):Oz W0 W B (.slice none 0 0) []:=⟨jfh _ _ _ _,λx hx=>by simp at hx⟩
def Oz.kept{W0 W W':World}{B:Nat}{v:Value}{l:List (Value×Row)}(h:Oz W0 W B v l)(hb:jgu W W'):Oz W0 W' B v l:=⟨bv h.1 hb,h.2⟩
def Oz.form{W0 W:World}{B:Nat}{v:Value}{l:List (Value×Row)}(h:Oz W0 W B v l):∃ a c,v=.slice a l.length c/\l.length<=c/\c<=9223372036854775807:=bn h.1
def Oz.sr{W0 W:World}{B:Nat}{v:Value}{l:List (Value×Row)}(h:Oz W0 W B v l)(hb:jgu W0 W):Sr W v (l.map Prod.snd):=by
 have h1:Sv W v (l.map Prod.fst):=Sv.of_own h.1;obtain⟨a,cap,e1,e2,e3,e4,e5⟩:=h1;rw[jeE]at *;refine⟨a,cap,by rw[jeE];exact e1,by rw[jeE];exact e2,e3,λh0=>?_⟩;rw[jeE]at h0;obtain⟨b,off,f1,f2,f3⟩:=e5 h0;refine⟨b,off,f1,f2,λj hj=>?_⟩;rw[jeE]at hj;refine⟨l[j].1,f3 j _ (by rw[List.getElem?_map,List.getElem?_eq_getElem hj];rfl),?_⟩;have:=(h.2 l[j] (jeD hj)).kept hb;simpa using this
def yW{W0 w:World}(ty:TypeId)(base:Nat)(v vx:Value)(l0 l:List (Value×Row))(ax:Oz W0 w base v l0)(eg:Sv w vx (l.map Prod.fst))(hr:∀ x∈l,Sc W0 x.1 x.2)(hbytes:l0.length+l.length<=1000000)(aF:base<=w.heap.size) :
  ∃ v' w',(Builtin.append_ #[26,26] ty #[v,vx]).run prog w=.ok v' w'/\Oz W0 w' base v' (l0++l)/\Below base w w':=by
 obtain⟨i0,hi,bR,hz1',aX⟩:=jeT Ku;obtain⟨ad,cap,rfl,h1,h2,h3,h4⟩:=eg;rw[jeE]at *
 have one:∀ x∈l.map Prod.fst,x.oneCell'=true:=λx hx=>by
  obtain⟨y,hy,rfl⟩:=jeN.1 hx;obtain⟨a,c,e,_⟩:=(hr y hy).form;rw[e];rfl
 have ch:∀ y∈l0++l,Sc W0 y.1 y.2:=λy hy=>by
  rcases je1.1 hy with hy | hy
  ·exact ax.2 y hy
  ·exact hr y hy
 cases ad with
 | none =>
  have hc:=h3 rfl;subst hc;have hl:l=[]:=jeW (by omega);subst hl;have hr:=jgb (P:=prog) (w:=w) base 26 ty 58 i0 1 underlying26 hi v l0.length (l0.map Prod.fst) ax.1;refine⟨v,w,hr,by rw[jeS];exact ax,jez _ _⟩
 | some ad =>
  obtain⟨v',w',vP,o1,g1,_,e1⟩:=run_append_own_at (P:=prog) w base 26 ty 58 i0 (.slice none 0 0) 1 24 underlying26 hi bR hz1' aX rfl (by decide) v l0.length (l0.map Prod.fst) ax.1 ad l.length cap (l.map Prod.fst) (by rw[jeE];omega)
   (λj u hu=>by
    have hj:j<l.length:=by
     have:=(List.getElem?_eq_some_iff.1 hu).1;rwa[jeE]at this
    obtain⟨b,off,h5,_,h6⟩:=h4 (by omega);cases h5
    rw[kP];exact h6 j u hu) one (by unfold maxLen;omega) (by omega) aF
  refine⟨v',w',vP,⟨?_,ch⟩,(jez base w).grown g1 aF (λk hk=>(ax.1.lt k hk).1)⟩;rw[jeC,jeR];exact o1
def mc{W0 w:World}{ops:Array Oper}{rest:List Oper}{o:Oper}{a:Act}{Q:Exit->Act->World->Prop}(ef:o.guard=none)(s x:Operand)
  (ho:o.op=.call { callee:=.builtin .append,args:=#[s,x],argTypes:=#[26,26] })
  (base:Nat) (v vx:Value) (l0 l:List (Value×Row)) (hs:a.eval s=v) (ax:Oz W0 w base v l0) (hx:a.eval x=vx) (eg:Sv w vx (l.map Prod.fst)) (hr:∀ x∈l,Sc W0 x.1 x.2) (hbytes:l0.length+l.length<=1000000) (aF:base<=w.heap.size)
  (h:∀ v' w',Oz W0 w' base v' (l0++l)->Below base w w'->wpList prog ops Q rest (a.put o.dst v') w') :
  wpList prog ops Q (o::rest) a w :=
 wpList_plain ef λK hK=>by
  obtain⟨v',w',hr,h2,h3⟩:=yW o.type base v vx l0 l ax eg hr hbytes aF;unfold Oper.wp execOp;simp only[ho,resolve,invoke,builtin,Sem.run_bind,Sem.run_pure,Result.andThen_ok,jfN,je4,jfr,hs,hx,hr];exact hK _ _ (h v' w' h2 h3)
def idxi3(a b c:Bool)(w:World):(Instr.index 123 (.agg #[.bool a,.bool b,.bool c]) (.int .i64 2)).run prog w=.ok (.bool c) w:=(idx3 (.bool a) (.bool b) (.bool c) w).2.2
def CE(fs:List Fd)(p:List Row)(i:Nat):List Stt:=(List.range i).map λk=>bO (cx p k)
def QL(fs:List Fd)(p:List Row)(i:Nat):CE fs p (i+1)=CE fs p i++[bO (cx p i)]:=by
 unfold CE;rw[jfL,jeR];rfl
def Gc(fs:List Fd)(p:List Row)(i:Nat):(CE fs p i).length=i:=by
 unfold CE;rw[jeE,jga]
def KX{W:World}{v:Value}{p:List Row}{fs:List Fd}(hs:Sr W v p)(dh:gG fs p)(hk:∀ f∈fs,1<=f.2.2.1/\f.2.2.1<=3)(hl:p.length<=64){k:Nat}(uS:k<fs.length) :
  (Calls prog 26 #[v,.int .i64 (k:Int)] W λe w'=>(∃ v',e=.returned v'/\dQ w' W.heap.size v' (cx p k))/\jgu W w') /\
  ∀ U u,Sc U u (cx p k)->Calls prog 25 #[u] U λe w'=>e=.returned (xz (bO (cx p k)))/\jgu U w':=by
 have hkr:∀ r∈p,k<r.length:=λr hr=>by rw[ob (dh r hr).1];exact uS
 have gl:=fG (k:=k) dh hk (by omega) uS;have MK:=KW (fO dh k) (QK gl);refine⟨vE hs (by omega) hkr,λU u hU=>?_⟩;have h:=CD hU (fO dh k) (by rw[cK];omega);rw[MK]at h;exact h
def gsF(fs:List Fd)(g:Nat)(rs:List Row):List Gr:=(xF g rs).map (grp fs)
def yX{w:World}{op f id:Nat}{c:Cl}{ks:List PT}{fv v kv:Value}{fs:List Fd}{rs:List Row}(hs:Sf w fv fs)(hr:Sr w v rs)(hk:eF w kv ks)(dD:Okp (.node op f c ks))(dh:gG fs rs)(CX:∀ f∈fs,1<=f.2.2.1/\f.2.2.1<=3)(hl:rs.length<=60)(eI:fs.length<=100){g:Nat}(dP:1<=g)(fY:g<=64) :
  Calls prog 29 #[.agg #[.int .u32 (id:Int),fv],v,.int .i64 (g:Int),.agg #[.int .u8 (op:Int),.int .u32 (f:Int),.int .u8 (c.1:Int),.int .i64 c.2.1,.string (bytesT c.2.2),kv]] w
   λe w'=>(∃ v',e=.returned (.tuple #[v',.int .i64 (((if kN fs (.node op f c ks)=0 then cU fs (.node op f c ks) (gsF fs g rs) else 0:Nat)):Int)])/\Sr w' v' (if kN fs (.node op f c ks)=0 then dz fs (.node op f c ks) (gsF fs g rs) else []))/\jgu w w':=by
 obtain⟨NN,hNN⟩:∃ NN,NN=(if kN fs (.node op f c ks)=0 then cU fs (.node op f c ks) (gsF fs g rs) else 0):=⟨_,rfl⟩;obtain⟨RR,hRR⟩:∃ RR,RR=(if kN fs (.node op f c ks)=0 then dz fs (.node op f c ks) (gsF fs g rs) else []):=⟨_,rfl⟩;rw[<- hNN,<- hRR];have HNN:=ae hNN;have RX:=ae hRR;clear hNN hRR;have HK:=ae hk;have HS:=ae hs;have HR:=ae hr;have HO:=ae dD;obtain⟨ka,kcap,rfl,_,_⟩:=hk.form;obtain⟨fa,fcap,rfl,_,hfcm⟩:=hs.form;obtain⟨ra,rcap,rfl,_,_⟩:=hr.form;have CQ:=ae dh;have HKN:=ae CX;clear hk hs hr dD dh CX hfcm;have az:=aj w (.cells #[.int .u32 (id:Int),.slice fa fs.length fcap] 25);have hsA:(w.alloc (.cells #[.int .u32 (id:Int),.slice fa fs.length fcap] 25)).heap.size=w.heap.size+1:=jeB _ _;have ap:=aj (w.alloc (.cells #[.int .u32 (id:Int),.slice fa fs.length fcap] 25)) (.cells #[.int .u8 (op:Int),.int .u32 (f:Int),.int .u8 (c.1:Int),.int .i64 c.2.1,.string (bytesT c.2.2),.slice ka ks.length kcap] 63);have hsB:((w.alloc (.cells #[.int .u32 (id:Int),.slice fa fs.length fcap] 25)).alloc (.cells #[.int .u8 (op:Int),.int .u32 (f:Int),.int .u8 (c.1:Int),.int .i64 c.2.1,.string (bytesT c.2.2),.slice ka ks.length kcap] 63)).heap.size=w.heap.size+1+1:=by rw[jeB,jeB]
 obtain⟨e0,e1⟩:=aS w (.int .u32 (id:Int)) (.slice fa fs.length fcap) 25;have hE0:=(ap.cell (p:=⟨w.heap.size,0,none⟩) (show w.heap.size<_ by rw[hsA];omega)).trans e0;have hE1:=(ap.cell (p:=⟨w.heap.size,1,none⟩) (show w.heap.size<_ by rw[hsA];omega)).trans e1;have hn:=fE (w.alloc (.cells #[.int .u32 (id:Int),.slice fa fs.length fcap] 25)) op f c (.slice ka ks.length kcap);rw[hsA]at hn;have cN:=ae (ai az ap);generalize hZ:(w.alloc (.cells #[.int .u32 (id:Int),.slice fa fs.length fcap] 25)).alloc (.cells #[.int .u8 (op:Int),.int .u32 (f:Int),.int .u8 (c.1:Int),.int .i64 c.2.1,.string (bytesT c.2.2),.slice ka ks.length kcap] 63)=Z at *;have HN:=ae hn
 have HE:jgt (∀ U,jgu Z U->(U.cell? ⟨w.heap.size,0,none⟩=some (.int .u32 (id:Int))/\U.cell? ⟨w.heap.size,1,none⟩=some (.slice fa fs.length fcap))/\et U (w.heap.size+1) 0 op f c (.slice ka ks.length kcap)):=ae (λU hU =>
  ⟨⟨(hU.cell (p:=⟨w.heap.size,0,none⟩) (show w.heap.size<_ by omega)).trans hE0,(hU.cell (p:=⟨w.heap.size,1,none⟩) (show w.heap.size<_ by omega)).trans hE1⟩,hn.kept hU⟩)
 have HKZ:=ae (HK.o.kept cN.o);have oM:=ae (HS.o.kept cN.o);have XM:=ae (HR.o.kept cN.o);clear az ap hsA e0 e1 hn;obtain⟨⟨c0,c1⟩,_,x0,x1,x2,x3,x4,x5⟩:=HE.o Z (jez _ _);have lE:=ae (pn (w:=Z) (si:=id) HKZ.o HO.o oM.o);obtain⟨n9,GW⟩:∃ n9,n9=kN fs (.node op f c ks):=⟨_,rfl⟩;rw[<- GW]at lE;clear hE0 hE1;subst hZ;go_enter func29,ntmps29
 go_wp2_with fail;generalize hZ:(w.alloc (.cells #[.int .u32 (id:Int),.slice fa fs.length fcap] 25)).alloc (.cells #[.int .u8 (op:Int),.int .u32 (f:Int),.int .u8 (c.1:Int),.int .i64 c.2.1,.string (bytesT c.2.2),.slice ka ks.length kcap] 63)=Z at *;clear hZ;refine lE.o.mono ?_;rintro e w2 ⟨rfl,ap⟩;have aG:=ae ap;clear c0 c1 x0 x1 x2 x3 x4 x5 ap lE;by_cases h0:n9=0
 case neg =>
  have hq:(n9 != 0)=true:=by simpa using h0
  have ni:jgt (NN=0/\RR=[]):=ae ⟨HNN.o.trans (jex (by rw[<- GW];exact h0)),RX.o.trans (jex (by rw[<- GW];exact h0))⟩;clear h0 GW;go_wp2_with fail;go_ret2
  exact⟨⟨_,by rw[ni.o.1];rfl,by rw[ni.o.2];exact(Oz.nil w w2 w2.heap.size).sr (ai cN.o aG.o)⟩,ai cN.o aG.o⟩
 have hq:(n9 != 0)=false:=by rw[h0];rfl
 have ni:jgt (NN=cU fs (.node op f c ks) (gsF fs g rs)/\RR=dz fs (.node op f c ks) (gsF fs g rs)):=ae ⟨HNN.o.trans (jey (by rw[<- GW];exact h0)),RX.o.trans (jey (by rw[<- GW];exact h0))⟩
 have MY:jgt (jT (.node op f c ks)):=ae (Mx fs _ (by
  rw[h0]at GW;unfold kN at GW;by_cases h:lY (.node op f c ks)<=32/\dpM (.node op f c ks)<=8
  ·rw[jey h]at GW;exact GW.symm
  ·rw[jex h]at GW;omega))
 clear h0 GW;have HGR:=ae (vF (w:=w2) XM.o aG.o (by omega) dP fY);go_wp2_with fail;refine HGR.o.mono ?_;rintro e w3 ⟨⟨v3,gs,rfl,fy,hsr3,hps⟩,aJ⟩;obtain⟨ga,gc,rfl,hgc,hgm⟩:=bn fy;have dL:=ae fy;have aY:=ae (aG.o.trans (aJ.mono aG.o.size));have HSR3:jgt (∀ x∈gs,Sr Z x.1 x.2):=ae hsr3
 have HGF:jgt (gsF fs g rs=gs.map λx=>grp fs x.2):=ae (by
  unfold gsF;rw[<- hps,jfa];rfl)
 have HGP:jgt (∀ k (h:k<gs.length),gG fs gs[k].2/\gs[k].2.length<=64):=ae (λk h=>by
  have e:gs[k].2=prt g rs k:=by
   have h1:=jeG (λl=>l[k]?) hps;simp only[List.getElem?_map,List.getElem?_eq_getElem h,jfC]at h1;unfold xF at h1;rw[List.getElem?_map]at h1;obtain⟨q,ng,nc⟩:=jgk.1 h1.symm;have Ll:=(List.getElem?_eq_some_iff.1 ng);obtain⟨hq4,hq5⟩:=Ll;rw[List.getElem_range]at hq5;rw[<- nc,<- hq5]
  rw[e];exact⟨CQ.o.part g k,by rw[bX];omega⟩)
 have HPT:jgt (gs.length<=1000):=ae (by
  have h1:=jeG List.length hps;unfold xF at h1;rw[jeE,jeE,jga]at h1;have:=iO (n:=rs.length) dP (by omega);omega)
 rw[HGF.o]at ni;obtain⟨GF,hGF⟩:∃ GF,GF=gs.map λx=>grp fs x.2:=⟨_,rfl⟩
 have XS:jgt (GF.length=gs.length):=ae (by rw[hGF,jeE]);have WC:jgt (∀ k (h:k<gs.length),∃ h2:k<GF.length,GF[k]=grp fs gs[k].2):=ae (λk h=>⟨by rw[hGF,jeE];exact h,by subst hGF;rw[List.getElem_map]⟩);rw[<- hGF]at ni;have HTF:jgt (cU fs (.node op f c ks) (GF.take 0)=0/\dz fs (.node op f c ks) (GF.take 0)=[]):=ae ⟨rfl,rfl⟩;have HTE:jgt (GF.take gs.length=GF):=ae (by rw[<- XS.o,jeJ])
 have HTL:jgt (∀ k,cU fs (.node op f c ks) (GF.take k)<=1000):=ae (λk=>by
  have h1:=AB fs (.node op f c ks) (GF.take k);rw[jeH,XS.o]at h1;have:=HPT.o;omega)
 have HGA:jgt (∀ k,(bJ (GF.take k)).length<=64000):=ae (λk=>by
  have h1:∀(q:List Gr),(∀ x∈q,x.1.length<=64)->(bJ q).length<=64*q.length:=λq=>by
   induction q with
   | nil=>intro _;simp[bJ]
   | cons x q ih =>
    intro h;have h2:=ih λy hy=>h y (by simp[hy])
    have h3:=h x (by simp);unfold bJ at *;simp only[je4,jfO,jeC,jeI];omega
  have h2:=h1 (GF.take k) (λx hx=>by
   have Xv:=jfn hx;rw[hGF]at Xv;obtain⟨y,hy,rfl⟩:=jeN.1 Xv;obtain⟨j,hj,rfl⟩:=List.mem_iff_getElem.1 hy;exact(HGP.o j hj).2)
  have h4:(GF.take k).length<=gs.length:=by rw[jeH,XS.o];omega
  have h5:=HPT.o;omega)
 clear fy aJ hsr3 hps hGF HGR HGF;have gy:=aY.o.size;go_wp2_with fail;go_loopw [10,11,13] (λa n i wr=>∃(k:Nat) (l:List (Value×Row)),i=.int .i64 (k:Int)/\k<=gs.length/\n=.int .i64 ((cU fs (.node op f c ks) (GF.take k):Nat):Int)/\Oz Z wr w3.heap.size a l/\l.map Prod.snd=dz fs (.node op f c ks) (GF.take k)/\jgu w3 wr) (λ_ _ i _=>gs.length-(intOf i).toNat)
 case atStart=>exact⟨0,[],rfl,by omega,by rw[HTF.o.1];rfl,Oz.nil _ _ _,by rw[HTF.o.2];rfl,jez _ _⟩
 case round =>
  obtain⟨k,lst,rfl,hk,rfl,how,oX,ao⟩:=hrel;have HB:=ae ao;have sL:=ae how;have iw:=ae oX;obtain⟨la,lc,rfl,De,qs⟩:=how.form;have bF:=ao.size;clear ao how oX;obtain⟨wa,ZW⟩:∃ wa,wa=wr:=⟨_,rfl⟩;subst ZW;by_cases ar:k<gs.length
  ·have hlt':(k:Int)<(gs.length:Int):=by omega
   have hval:(gs.map Prod.fst)[k]?=some gs[k].1:=by rw[List.getElem?_map,List.getElem?_eq_getElem ar];rfl
   obtain⟨gb,rfl,_,GR,hcg⟩:=gS dL.o hval;obtain⟨XQ,mT⟩:=HGP.o k ar;obtain⟨hkG,ed⟩:=WC.o k ar;have GL:=xV (fs:=fs) (t:=.node op f c ks) hkG;have yd:=xW (fs:=fs) (t:=.node op f c ks) hkG;rw[ed]at GL yd;have jaI:=ae GL;have jdK:=ae yd;have jaJ:=ae (HSR3.o gs[k] (jeD ar));have hnk:=HTL.o k;generalize gs[k]=gk at *;obtain⟨gv,p⟩:=gk;simp only at jaJ XQ mT jaI jdK hcg hval;obtain⟨pa,pc,rfl,_,hpcm⟩:=jaJ.o.form;have hpcm':pc<=9223372036854775807:=by unfold maxLen at hpcm;omega
   have HFP:=ae XQ;have kS:=ae mT;have Xg:jgt (∀ U,jgu w3 U->U.cell? ⟨gb,k,none⟩=some (.slice pa p.length pc)):=ae (λU hU=>(hU.cell (p:=⟨gb,k,none⟩) GR).trans hcg);have HMG:jgt (qj fs (.node op f c ks) (grp fs p)=dR (bI fs (CE fs p fs.length) (.node op f c ks)) 2):=ae rfl;have HGR1:jgt ((grp fs p).1=p):=ae rfl;rw[HGR1.o]at jaI;generalize qj fs (.node op f c ks) (grp fs p)=mg at *;obtain⟨⟨c0,c1⟩,_⟩:=HE.o wa (ai aY.o HB.o);clear hval hcg XQ GL yd ed hkG hpcm;go_wp2_with fail;clear c0 c1;go_loopw [14,15] (λa i ws=>∃ m:Nat,i=.int .i64 (m:Int)/\m<=fs.length/\tF ws wa.heap.size a (CE fs p m)/\jgu wa ws) (λ_ i _=>fs.length-(intOf i).toNat)
   case atStart=>exact⟨0,rfl,by omega,tF.nil _ _,jez _ _⟩
   case round =>
    obtain⟨m,rfl,hm,hot,zb⟩:=hrel;have HOT:=ae hot;have ze:=ae zb;have hzs:=zb.size;obtain⟨sa,sc,rfl,dr,cV⟩:=bn hot;have Lz:=ae (ai HB.o zb);obtain⟨⟨c0,c1⟩,_,x0,x1,x2,x3,x4,x5⟩:=HE.o _ (ai aY.o Lz.o);have cg:=Xg.o _ Lz.o;rw[Gc]at *;clear hot zb;by_cases hmt:m<fs.length
    ·have hmt':(m:Int)<(fs.length:Int):=by omega
     have HGS:=ae (KX (jaJ.o.kept (ai aY.o Lz.o)) HFP.o HKN.o kS.o hmt);have HSU:=ae (QL fs p m);generalize bO (cx p m)=z at *;have HG25:=ae HGS.o.2;clear x0 x1 x2 x3 x4 x5;go_wp2_with fail;refine HGS.o.1.mono ?_;rintro e w5 ⟨⟨v5,rfl,eQ⟩,bQ⟩;have HC5:=ae (HG25.o w5 v5 eQ.sc);obtain⟨va,vc,rfl,_,_⟩:=bn eQ;have HOT5:=ae (HOT.o.kept bQ);have HBS5:=ae (ai ze.o bQ);simp only[xz]at HC5;clear bQ eQ HGS HG25 c0 c1 cg;go_wp2_with fail;refine HC5.o.mono ?_;rintro e w6 ⟨rfl,ct⟩;have HOT6:=ae (HOT5.o.kept ct);have HBS6:=ae (ai HBS5.o ct);have GO:=HBS6.o.size;clear ct HC5;go_wp2_with (first | (at_builtin;refine vB rfl _ _ rfl wa.heap.size _ _ z (CE fs p m) rfl (HOT6.o.kept (aj _ _)) rfl (Stb.new _ z) ?b1 ?b2 ?_))
     case b1=>rw[Gc];omega
     case b2=>rw[jeB];omega
     intro v' w7 o7 b7;have oV:=ae o7;have jK:=ae ((HBS6.o.alloc GO _).trans b7);rw[<- HSU.o]at oV;clear o7 b7;go_wp2_with fail;go_roundw
     case rel=>exact⟨m+1,by go_num,by omega,oV.o,jK.o⟩
     case measure=>simp[intOf];omega
    ·obtain rfl:m=fs.length:=by omega
     have hge2:¬ ((fs.length:Nat):Int)<(fs.length:Int):=(by omega)
     have jdL:=ae (KV (si:=id) (λs hs=>by
      obtain⟨q,ng,rfl⟩:=jeN.1 hs;have nc:=List.mem_range.1 ng;have h:=gE (fO HFP.o q);exact⟨h.1.okc,h.2.okc⟩) (.node op f c ks) op f c ks rfl HO.o MY.o _ _ _ _ (oM.o.kept (ai aY.o Lz.o)) HOT.o.ss (HKZ.o.kept (ai aY.o Lz.o)))
     have HMG2:=HMG;generalize bI fs (CE fs p fs.length) (.node op f c ks)=mb at *;obtain⟨mb0,mb1,mb2⟩:=mb;have HMB:jgt (mg=mb2):=ae HMG.o;simp only[b3V]at jdL;have hix:=idxi3 mb0 mb1 mb2;have HOWS:=ae (sL.o.kept ze.o);have HB3T:=ae Lz.o;clear HMG HMG2;go_wp2_with fail;refine jdL.o.mono ?_;rintro e w5 ⟨rfl,bQ⟩;have HOW5:=ae (HOWS.o.kept bQ);have bq:=ae (ai Lz.o bQ);have sk:=bq.o.size;clear x0 x1 x2 x3 x4 x5 c0 c1 cg bQ jdL HOT ze;cases mb2 with
     | false =>
      have RA:jgt (dz fs (.node op f c ks) (GF.take (k+1))=dz fs (.node op f c ks) (GF.take k)/\cU fs (.node op f c ks) (GF.take (k+1))=cU fs (.node op f c ks) (GF.take k)):=ae ⟨by rw[jaI.o,HMB.o,jex (by simp),jeS],by rw[jdK.o,HMB.o,jex (by simp)];rfl⟩;go_wp2_with fail;go_roundw
      case rel=>exact⟨k+1,lst,by go_num,by omega,by rw[RA.o.2],HOW5.o,by rw[RA.o.1];exact iw.o,bq.o⟩
      case measure=>simp[intOf];omega
     | true =>
      have RA:jgt (dz fs (.node op f c ks) (GF.take (k+1))=dz fs (.node op f c ks) (GF.take k)++dq fs (.node op f c ks) p/\cU fs (.node op f c ks) (GF.take (k+1))=cU fs (.node op f c ks) (GF.take k)+1):=ae ⟨by rw[jaI.o,HMB.o,jey rfl],by rw[jdK.o,HMB.o,jey rfl]⟩;have HH0:jgt (dq fs (.node op f c ks) (p.take 0)=[]):=ae rfl;have HHE:jgt (dq fs (.node op f c ks) (p.take p.length)=dq fs (.node op f c ks) p):=ae (by rw[jeJ]);have RG:wrap64 (((cU fs (.node op f c ks) (GF.take k):Nat):Int)+1)=(((cU fs (.node op f c ks) (GF.take k)+1:Nat)):Int):=by unfold wrap64;omega
      have Xh:jgt (lst.length<=100000):=ae (by
       have h1:=jeG List.length iw.o;rw[jeE]at h1;have h2:=oI fs (.node op f c ks) (GF.take k);have h3:=HGA.o k;omega)
      obtain⟨NK,hNK⟩:∃ NK,NK=cU fs (.node op f c ks) (GF.take k):=⟨_,rfl⟩;have hnk2:NK<=1000:=by rw[hNK];exact hnk
      rw[<- hNK]at RG RA ⊢;have Lk:=ae RG;clear hNK RG;have cg:=Xg.o _ bq.o;go_wp2_with fail;go_loopw [10,16] (λa i ws=>∃(m:Nat) (l2:List (Value×Row)),i=.int .i64 (m:Int)/\m<=p.length/\Oz Z ws w3.heap.size a l2/\l2.map Prod.snd=dz fs (.node op f c ks) (GF.take k)++dq fs (.node op f c ks) (p.take m)/\jgu w3 ws) (λ_ i _=>p.length-(intOf i).toNat)
      case atStart=>exact⟨0,lst,rfl,by omega,HOW5.o,by rw[HH0.o,jeS];exact iw.o,bq.o⟩
      case round =>
       obtain⟨m,l2,rfl,hm,Ls,Rr,nZ⟩:=hrel;have HB2':=ae nZ;have eb:=ae Ls;have sC:=ae Rr;obtain⟨la2,lc2,rfl,hl12,hl22⟩:=Ls.form;have aX:=nZ.size;obtain⟨wb,hwb⟩:∃ wb,wb=wr:=⟨_,rfl⟩;subst hwb;have cg2:=Xg.o _ HB2'.o;clear nZ Ls Rr cg
       have RY:jgt (l2.length<=200000):=ae (by
        have h1:=jeG List.length sC.o;rw[jeE,jeC]at h1;have h2:=oI fs (.node op f c ks) (GF.take k);have h3:=HGA.o k;have h4:=kM fs (.node op f c ks) (p.take m);rw[jeH]at h4;have h5:=kS.o;omega)
       by_cases hmt:m<p.length
       ·have hmt':(m:Int)<(p.length:Int):=by omega
        have mK:=ai aY.o HB2'.o;obtain⟨pb,po,rv,rfl,hpb,GU,Gh⟩:=jaJ.o.at hmt;have HSC:=ae Gh;obtain⟨fa9,fc9,rfl,_,_⟩:=Gh.form;have iy:jgt (∀ x∈p[m],aI x):=ae (λx hx=>(HFP.o p[m] (jeD hmt)).2 x hx);have XR:=ae (λ(U:World) (hU:jgu wb U)=>uR (si:=id) iy.o (.node op f c ks) op f c ks rfl HO.o MY.o U _ _ _ (oM.o.kept (ai mK hU)) (HSC.o.kept (ai mK hU)) (HKZ.o.kept (ai mK hU)));have HHT:=ae (tJ (fs:=fs) (t:=.node op f c ks) hmt);have RV:jgt (yS fs (.node op f c ks) p[m]=(aW fs p[m] (.node op f c ks)==2)):=ae rfl;have CK:∀ s:aB (λx=>jgu wb x),s.w.cell? ⟨w.heap.size,0,none⟩=some (.int .u32 (id:Int)):=λs=>(HE.o _ (ai mK s.ok)).1.1
        have mh:∀ s:aB (λx=>jgu wb x),s.w.cell? ⟨w.heap.size,1,none⟩=some (.slice fa fs.length fcap):=λs=>(HE.o _ (ai mK s.ok)).1.2
        have bR:∀ s:aB (λx=>jgu wb x),s.w.cell? ⟨w.heap.size+1,0,none⟩=some (.int .u8 (op:Int)):=λs=>(HE.o _ (ai mK s.ok)).2.2.1
        have bW:∀ s:aB (λx=>jgu wb x),s.w.cell? ⟨w.heap.size+1,0+1,none⟩=some (.int .u32 (f:Int)):=λs=>(HE.o _ (ai mK s.ok)).2.2.2.1
        have hz2':∀ s:aB (λx=>jgu wb x),s.w.cell? ⟨w.heap.size+1,0+2,none⟩=some (.int .u8 (c.1:Int)):=λs=>(HE.o _ (ai mK s.ok)).2.2.2.2.1
        have hz3':∀ s:aB (λx=>jgu wb x),s.w.cell? ⟨w.heap.size+1,0+3,none⟩=some (.int .i64 c.2.1):=λs=>(HE.o _ (ai mK s.ok)).2.2.2.2.2.1
        have hz4':∀ s:aB (λx=>jgu wb x),s.w.cell? ⟨w.heap.size+1,0+4,none⟩=some (.string (bytesT c.2.2)):=λs=>(HE.o _ (ai mK s.ok)).2.2.2.2.2.2.1
        have hz5':∀ s:aB (λx=>jgu wb x),s.w.cell? ⟨w.heap.size+1,0+5,none⟩=some (.slice ka ks.length kcap):=λs=>(HE.o _ (ai mK s.ok)).2.2.2.2.2.2.2
        have hg0:∀ s:aB (λx=>jgu wb x),s.w.cell? ⟨gb,k,none⟩=some (.slice (some ⟨pb,po,none⟩) p.length pc):=λs=>Xg.o _ (ai HB2'.o s.ok)
        have hg1':∀ s:aB (λx=>jgu wb x),s.w.cell? ⟨pb,po+m,none⟩=some (.slice fa9 p[m].length fc9):=λs=>((ai mK s.ok).cell (p:=⟨pb,po+m,none⟩) hpb).trans GU
        haveI:Nonempty (aB (λx=>jgu wb x)):=⟨aB.mk wb (jez _ _)⟩
        have HCR:jgt (∀ U,jgu wb U->U.cell? ⟨pb,po+m,none⟩=some (.slice fa9 p[m].length fc9)):=ae (λU hU=>((ai mK hU).cell (p:=⟨pb,po+m,none⟩) hpb).trans GU);generalize p[m]=row at *;generalize yS fs (.node op f c ks) row=ht at *;generalize aW fs row (.node op f c ks)=ev at *;clear GU Gh mK;go_wp2_with fail;clear cg2;refine aP (S:=λx=>jgu wb x) (by kernel_rfl) (by kernel_rfl) (jez _ _).drew ?_;repeat (go_big_quiet_step ((go_at_call 31;exact(XR.o _ (aB.ok _)).mono (λe w' h=>⟨h.1,aB.mk w' (ai (aB.ok _) h.2),rfl⟩))))
        refine wpQuiet_nil ?_;rintro _ ⟨s3,rfl⟩;obtain⟨w6,hw6⟩:∃ x,x=s3.w:=⟨_,rfl⟩;have ct:=s3.ok;rw[<- hw6]at ct ⊢;have fV:=ae (ai HB2'.o ct);have oJ:=ae (eb.o.kept ct);have GO:=fV.o.size;have cg6:=Xg.o _ fV.o;have cr6:=HCR.o _ ct;clear hw6 ct CK mh bR bW hz2' hz3' hz4' hz5' hg0 hg1' XR;by_cases Lx:ev=2
        ·have MU:jgt (dq fs (.node op f c ks) (p.take (m+1))=dq fs (.node op f c ks) (p.take m)++[row]):=ae (by rw[HHT.o,RV.o,Lx];simp)
         have he2:((ev:Int)==2)=true:=by rw[Lx];rfl
         clear Lx HHT RV;go_wp2_with (first | (at_builtin;refine mc (W0:=Z) rfl _ _ rfl w3.heap.size _ _ l2 [(.slice fa9 row.length fc9,row)] rfl (oJ.o.kept (aj _ _)) rfl (lm (aV _ _ _) (by rw[jeB];omega)) ?c1 ?c2 ?c3 ?_))
         case c1 =>
          intro x hx;rw[je9.1 hx];exact HSC.o
         case c2 =>
          simp only[je7];have:=RY.o;omega
         case c3=>rw[jeB];omega
         intro v' w7 o7 b7;have oV:=ae o7;have jK:=ae ((fV.o.alloc GO _).trans b7);clear o7 b7;go_wp2_with fail;go_roundw
         case rel =>
          exact⟨m+1,_,by go_num,by omega,oV.o,by rw[jeR,sC.o,MU.o,jeQ];rfl,jK.o⟩
         case measure=>simp[intOf];omega
        ·have MU:jgt (dq fs (.node op f c ks) (p.take (m+1))=dq fs (.node op f c ks) (p.take m)):=ae (by rw[HHT.o,RV.o,show (ev==2)=false from jeF.2 Lx,jex (by simp),jeS])
         have he2:((ev:Int)==2)=false:=jeF.2 (by omega);clear Lx HHT RV;go_wp2_with fail;go_roundw
         case rel=>exact⟨m+1,l2,by go_num,by omega,oJ.o,by rw[sC.o,MU.o],fV.o⟩
         case measure=>simp[intOf];omega
       ·obtain rfl:m=p.length:=by omega
        have hge3:¬ ((p.length:Nat):Int)<(p.length:Int):=(by omega);rw[HHE.o]at sC;go_wp2_with fail;go_roundw
        case rel=>exact⟨k+1,l2,by go_num,by omega,by rw[RA.o.2];first | go_num | exact jeG (Value.int IntKind.i64) Lk.o,eb.o,by rw[RA.o.1];exact sC.o,HB2'.o⟩
        case measure=>simp[intOf];omega
  ·obtain rfl:k=gs.length:=by omega
   have ed:¬ ((gs.length:Nat):Int)<(gs.length:Int):=(by omega);have ML:jgt (cU fs (.node op f c ks) (GF.take gs.length)=cU fs (.node op f c ks) GF):=ae (by rw[HTE.o]);rw[HTE.o]at iw;have Lw:=ae (sL.o.sr (ai aY.o HB.o));rw[iw.o]at Lw;go_wp2_with fail;go_ret2
   exact⟨⟨_,by rw[ni.o.1,<- ML.o];rfl,by rw[ni.o.2];exact Lw.o⟩,ai cN.o (ai aY.o HB.o)⟩
def Gd(fs:List Fd)(t:PT)(a b:List Row):dq fs t (a++b)=dq fs t a++dq fs t b:=jf9 ..
def Wh{fs:List Fd}{p:List Row}(h:gG fs p){r:Row}(hr:r∈p)(t:PT):dR (bI fs (grp fs p).2 t) (aW fs r t)=true:=by
 have hl:r.length=fs.length:=ob (h r hr).1;refine cover (by rw[hl];unfold grp;rw[jeE,jga]) (λj y st hy gx=>?_) t;have hj:=(List.getElem?_eq_some_iff.1 hy).1;unfold grp at gx;rw[List.getElem?_map,List.getElem?_range (by omega)]at gx;simp only[jfC,Option.some.injEq]at gx;subst gx;refine Pw (fO h j) (jeN.2 ⟨r,hr,?_⟩);rw[List.getD_eq_getElem?_getD,hy];rfl
def Wi{fs:List Fd}{p:List Row}(h:gG fs p)(t:PT)(hm:qj fs t (grp fs p)=false):dq fs t p=[]:=by
 unfold dq;rw[List.filter_eq_nil_iff];intro r hr hh;unfold yS at hh;have h1:=Wh h hr t;have h2:aW fs r t=2:=by simpa using hh
 rw[h2]at h1;unfold qj at hm;rw[hm]at h1;cases h1
def AH{fs:List Fd}(t:PT):∀ ps:List (List Row),(∀ p∈ps,gG fs p)->dz fs t (ps.map (grp fs))=dq fs t ps.flatten
 | [],_=>rfl
 | p::ps,h=>by
  have ih:=AH t ps (λq hq=>h q (by simp[hq]));have hp:=h p (by simp);rw[jfO,Gd,<- ih];unfold dz;rw[je4,jgh];by_cases hm:qj fs t (grp fs p)=true
  ·rw[jey hm,jfQ]
   rfl
  ·rw[jex hm,Wi hp t (by simpa using hm),jfu]
def Wj{fs:List Fd}(t:PT){g:Nat}(hg:0<g){rs:List Row}(h:gG fs rs):dz fs t (gsF fs g rs)=dq fs t rs:=by
 unfold gsF
 rw[AH t (xF g rs) (λp hp=>by
  unfold xF at hp;obtain⟨j,_,rfl⟩:=jeN.1 hp;exact h.part g j),rN hg]
def jcE(fs:List Fd)(g:Nat)(rs:List Row):gsF fs g rs=(List.range (nps g rs.length)).map λi=>grp fs (prt g rs i):=by
 unfold gsF xF;rw[jfa];rfl
def ZP{fs:List Fd}{g:Nat}{rs:List Row}(h:gG fs rs):∀ x∈gsF fs g rs,∀ s∈x.2,Oks s:=λx hx s hs=>by
 unfold gsF at hx;obtain⟨p,hp,rfl⟩:=jeN.1 hx;unfold xF at hp;obtain⟨j,_,rfl⟩:=jeN.1 hp;unfold grp at hs;obtain⟨q,_,rfl⟩:=jeN.1 hs;have hf:=gE (fO (h.part g j) q);exact⟨hf.1.okc,hf.2.okc⟩
namespace FindsLaw
def walk{w:World}(ht:Tab w){fv v kv:Value}{fs:List Fd}{rs:List Row}(hs:Sf w fv fs)(ho:∀ f∈fs,Okf f)(id:Nat)(pq:id<4294967296)(hr:Sr w v rs)(hro:∀ x∈rs,∀ c∈x,Okc c)(g:Int){op f:Nat}{c:Cl}{ks:List PT}(hk:eF w kv ks)(dD:Okp (.node op f c ks)) :
  Calls prog 5 #[.agg #[.int .u32 (id:Int),fv],v,.int .i64 g,.agg #[.int .u8 (op:Int),.int .u32 (f:Int),.int .u8 (c.1:Int),.int .i64 c.2.1,.string (bytesT c.2.2),kv]] w λe w'=>e=.returned (.bool true)/\jgu w w':=by
 obtain⟨fa,fc,rfl,_,_⟩:=hs.form;obtain⟨a,cap,rfl,_,_⟩:=hr.form;obtain⟨ka,kcap,rfl,_,_⟩:=hk.form;have az:=aj w (.cells #[.int .u32 (id:Int),.slice fa fs.length fc] 25);have hsA:(w.alloc (.cells #[.int .u32 (id:Int),.slice fa fs.length fc] 25)).heap.size=w.heap.size+1:=jeB _ _;have ap:=aj (w.alloc (.cells #[.int .u32 (id:Int),.slice fa fs.length fc] 25)) (.cells #[.int .u8 (op:Int),.int .u32 (f:Int),.int .u8 (c.1:Int),.int .i64 c.2.1,.string (bytesT c.2.2),.slice ka ks.length kcap] 63);obtain⟨x0,x1⟩:=aS w (.int .u32 (id:Int)) (.slice fa fs.length fc) 25;have hE0:=(ap.cell (p:=⟨w.heap.size,0,none⟩) (show w.heap.size<_ by rw[hsA];omega)).trans x0;have hE1:=(ap.cell (p:=⟨w.heap.size,1,none⟩) (show w.heap.size<_ by rw[hsA];omega)).trans x1;have hn:=fE (w.alloc (.cells #[.int .u32 (id:Int),.slice fa fs.length fc] 25)) op f c (.slice ka ks.length kcap);rw[hsA]at hn;have bR:((w.alloc (.cells #[.int .u32 (id:Int),.slice fa fs.length fc] 25)).alloc (.cells #[.int .u8 (op:Int),.int .u32 (f:Int),.int .u8 (c.1:Int),.int .i64 c.2.1,.string (bytesT c.2.2),.slice ka ks.length kcap] 63)).heap.size=w.heap.size+1+1:=by rw[jeB,jeB]
 have cy:=ai az ap;have AP:=ae (ht.kept cy);have HS:=ae (hs.kept cy);have HR:=ae (hr.kept cy);have GA:=ae (hk.kept cy);have ce:=ae cy;have WK:=ae hro;have HO:=ae ho;have mZ:=ae dD;generalize hA:(w.alloc (.cells #[.int .u32 (id:Int),.slice fa fs.length fc] 25)).alloc (.cells #[.int .u8 (op:Int),.int .u32 (f:Int),.int .u8 (c.1:Int),.int .i64 c.2.1,.string (bytesT c.2.2),.slice ka ks.length kcap] 63)=A at *
 have HQ:jgt (∀ U,jgu A U->U.cell? ⟨w.heap.size,0,none⟩=some (.int .u32 (id:Int))/\U.cell? ⟨w.heap.size,1,none⟩=some (.slice fa fs.length fc)):=ae (λU hU =>
  ⟨(hU.cell (p:=⟨w.heap.size,0,none⟩) (by show w.heap.size<_;omega)).trans hE0,(hU.cell (p:=⟨w.heap.size,1,none⟩) (by show w.heap.size<_;omega)).trans hE1⟩)
 have LA:jgt (∀ U,jgu A U->et U (w.heap.size+1) 0 op f c (.slice ka ks.length kcap)):=ae (λU hU=>hn.kept hU);have HAL:=ae (FV AP.o);clear ht hs hr cy hro ho bR x0 x1 hk dD hn hE0 hE1 az ap hsA;subst hA;go_enter func5,ntmps5
 go_wp2_with fail;generalize (w.alloc (.cells #[.int .u32 (id:Int),.slice fa fs.length fc] 25)).alloc (.cells #[.int .u8 (op:Int),.int .u32 (f:Int),.int .u8 (c.1:Int),.int .i64 c.2.1,.string (bytesT c.2.2),.slice ka ks.length kcap] 63)=A at *;refine HAL.o.mono ?_;rintro e w1 ⟨rfl,az⟩;have aL:=ae az;obtain⟨c0,c1⟩:=HQ.o w1 az;have HG:=ae (Pe (HS.o.kept az) id);clear az HAL;go_wp2_with fail;refine HG.o.mono ?_;rintro e w2 ⟨⟨gr,rfl,Rm⟩,ap⟩;have aG:=ae (ai aL.o ap);clear ap Rm c0 c1 HG;cases gr with
 | true =>
  go_wp2_with fail;go_ret
  exact⟨rfl,ai ce.o aG.o⟩
 | false =>
 obtain⟨c0,c1⟩:=HQ.o w2 aG.o;have lE:=ae (Cu (HS.o.kept aG.o) id);go_wp2_with fail;refine lE.o.mono ?_;rintro e w3 ⟨rfl,aJ⟩;have aY:=ae (ai aG.o aJ);clear aJ c0 c1 lE;by_cases eP:chk id fs=0
 case neg =>
  have hckb:(((chk id fs:Nat):Int) != 0)=true:=by simp[eP]
  go_wp2_with fail;go_ret
  exact⟨rfl,ai ce.o aY.o⟩
 have hckb:(((chk id fs:Nat):Int) != 0)=false:=by simp[eP]
 have lE:=ae eP;clear eP;obtain⟨oL,n0,n1,n2,n3,n4,n5⟩:=LA.o w3 aY.o;have HGP:=ae (KR (op:=op) (f:=f) (c:=c) (GA.o.kept aY.o));have HHCK:=ae hckb;go_wp2_with fail;refine HGP.o.mono ?_;rintro e w3b ⟨⟨gp,rfl,hgp⟩,hb3b⟩;have HB3B:=ae (ai aY.o hb3b);clear n0 n1 n2 n3 n4 n5 oL hb3b HGP;cases gp with
 | true =>
  go_wp2_with fail;go_ret
  exact⟨rfl,ai ce.o HB3B.o⟩
 | false =>
 have QU:=ae (hgp rfl);clear hgp;go_upto_region 5 with fail
 go_cut [2] from 110 (λv wx=>∃ G:Nat,v=.int .i64 (G:Int)/\1<=G/\G<=64/\jgu A wx)
 case first =>
  go_wp2_with fail;go_meet
  refine⟨(1+g % 64).toNat,?_,?_,?_,HB3B.o⟩
  ·refine jeG (Value.int IntKind.i64) ?_
   rw[jfm,Int.tmod_eq_emod_of_nonneg (by omega)];simp only[wrap64,jfq];omega
  ·omega
  ·omega
 case rest =>
 obtain⟨G,rfl,hG1,hG2,ao⟩:=hcut;obtain⟨w4,hw4⟩:∃ w4,w4=wc:=⟨_,rfl⟩;subst hw4;have cL:=ae ao;obtain⟨c0,c1⟩:=HQ.o w4 ao;have GS:=ae (KQ (HR.o.kept ao) (HS.o.kept ao) WK.o id 60);clear ao;go_wp2_with fail;refine GS.o.mono ?_;rintro e w5 ⟨⟨v5,l5,rfl,eQ,iX⟩,bQ⟩;have bq:=ae (ai cL.o bQ);have dh:=iX.fit;have h60:(l5.map Prod.snd).length<=60:=by rw[jeE];exact iX.2.1
 have sj:∀ r∈l5.map Prod.snd,r.length<=20:=λr hr=>by
  obtain⟨x,hx,rfl⟩:=jeN.1 hr;exact(iX.1.2 x hx).1
 have oK:=ae eQ.sr;obtain⟨a5,c5,rfl,_,_⟩:=oK.o.form;generalize l5.map Prod.snd=rows at *;have sD:=ae dh;have MH:=ae sj;clear bQ eQ iX dh sj c0 c1 GS WK;have hwm:=rU (g:=G) HO.o pq lE.o (show rows.length<=60 by omega) hG1 hG2 sD.o;have QZ:=nR (g:=G) HO.o pq lE.o (show rows.length<=256 by omega) hG1 hG2 sD.o;have GK:=qh (g:=G) HO.o pq lE.o (show rows.length<=60 by omega) hG1 hG2 sD.o;have HT8:=ae QZ.2
 have H13:jgt (∀ U,jgu w5 U->Calls prog 13 #[.slice a5 rows.length c5] U λe w'=>∃ b c,e=.returned (.slice b rows.length c)/\Rv w' (.slice b rows.length c) rows/\jgu w5 w'):=ae (λU hU=>by
  refine(Qv (oK.o.kept hU) (λr hr=>(sD.o r hr).2) (by omega) (λr hr=>by have:=MH.o r hr;omega)).mono ?_;rintro e w' ⟨⟨v',l',rfl,how',hsn'⟩,hb'⟩;have hrv':=how'.rv;rw[hsn']at hrv';obtain⟨a',c',rfl,_⟩:=hrv'.form;exact⟨a',c',rfl,hrv',ai hU hb'⟩)
 have H12:jgt (∀ U b c,jgu w5 U->Rv U (.slice b rows.length c) rows->Calls prog 12 #[.agg #[.int .u32 (id:Int),.slice fa fs.length fc],.slice b rows.length c,.int .i64 (G:Int)] U λe w'=>∃ p q,e=.returned (.tuple #[.slice p (bG (dO id fs rows G)).length q,.int .i64 0])/\Sv w' (.slice p (bG (dO id fs rows G)).length q) (aA .u8 (bG (dO id fs rows G)))/\jgu w5 w'):=ae (λU b c hU uW=>by
  have h:=nT (AP.o.kept (ai bq.o hU)) (HS.o.kept (ai bq.o hU)) uW HO.o pq (λr hr=>(sD.o r hr).2) (G:Int);rw[hwm]at h;refine h.mono ?_;rintro e w' ⟨⟨v',rfl,how'⟩,hb'⟩;have hsv':=how'.sv;obtain⟨a',c',rfl,_,_⟩:=bn how';exact⟨a',c',rfl,hsv',ai hU hb'⟩)
 have qo:=rV (g:=G) HO.o pq (λr hr=>(sD.o r hr).2) hwm;have ch:=Fs fs (g:=G) (by omega) rows;have zb:Bs (bG (dO id fs rows G)):=HT8.o.seal;have iV:(bG (dO id fs rows G)).length<=80000000:=by rw[kh];have:=QZ.1;omega
 have XP:((List.range (nps G rows.length)).map λi=>grp fs (prt G rows i)).length=nps G rows.length:=by rw[jeE,jga]
 have HQ5:jgt (∀ U,jgu w5 U->U.cell? ⟨w.heap.size,0,none⟩=some (.int .u32 (id:Int))/\U.cell? ⟨w.heap.size,1,none⟩=some (.slice fa fs.length fc)):=ae (λU hU=>HQ.o U (ai bq.o hU));obtain⟨c0,c1⟩:=HQ5.o w5 (jez _ _);have ze:=ae zb;have jdM:=ae qo;have Rd:=ae ch;have HBLN:=ae iV;have XS:=ae XP;have jaL:=ae (And.intro hG1 hG2);clear hwm QZ GK zb qo ch iV XP HT8 hG1 hG2;obtain⟨gs,hgs⟩:∃ gs,gs=((List.range (nps G rows.length)).map λi=>grp fs (prt G rows i)):=⟨_,rfl⟩;rw[<- hgs]at jdM Rd XS;have HGSE:=ae hgs;clear hgs;generalize bG (dO id fs rows G)=b at *;go_upto_region 7 with fail
 go_cut [10,11] from 110 (λv8 v9 wx=>∃ p q,v8=.slice p b.length q/\v9=.int .i64 0/\Sv wx (.slice p b.length q) (aA .u8 b)/\jgu w5 wx)
 case first =>
  generalize rows.length=nr at *;refine wp_region_noPanic ?_
  go_region_law (first
   | (go_simp;go_at_call 13;refine(H13.o _ ?_).mono ?_;exact ak (jez w5.heap.size w5) _;rintro e y1 ⟨b1,d1,rfl,Xi,jdN⟩;obtain⟨q0,q1⟩:=HQ5.o y1 jdN;have Xj:=ae Xi;have HBZ1:=ae jdN;clear Xi jdN;dsimp only)
   | (go_simp;go_at_call 12;refine(H12.o _ _ _ ?_ ?_).mono ?_;(first | exact HBZ1.o | exact ak HBZ1.o _);(first | exact Xj.o | exact Xj.o.kept (ak (jez y1.heap.size y1) _));rintro e y2 ⟨p2,q2,rfl,cV,hbz2⟩;have fJ:=ae cV;have HBZ2:=ae hbz2;clear cV hbz2;dsimp only)
   | fail)
  all_goals refine NoPanic.normal ?_
  all_goals go_wp2_with fail
  all_goals go_meet
  all_goals exact⟨_,_,rfl,rfl,fJ.o,HBZ2.o⟩
 case rest =>
 obtain⟨p,q,rfl,rfl,iF,yj⟩:=hcut;obtain⟨w6,hw6⟩:∃ w6,w6=wc:=⟨_,rfl⟩;subst hw6;have HB56:=ae yj;have fV:=ae (ai bq.o yj);have AU:=ae (qi (AP.o.kept fV.o) iF ze.o HBLN.o);clear iF yj c0 c1 H12 H13;go_wp2_with fail;refine AU.o.mono ?_;rintro e w7 ⟨⟨c,hc,_⟩ | ⟨id',fs',g',gs',fp,fv,ho',rfl,vQ,RU⟩,gJ⟩
 ·rw[jdM.o]at hc;cases hc
 rw[jdM.o]at ho';simp only[Except.ok.injEq,Prod.mk.injEq]at ho';obtain⟨rfl,rfl,rfl,rfl⟩:=ho';have zi:=ae vQ;have yY:=ae RU;have HB57:=ae (ai HB56.o gJ);have jK:=ae (ai fV.o gJ);have QS:=ae (oK.o.kept HB57.o);have Lo:=ae (HS.o.kept jK.o);obtain⟨c0,c1⟩:=HQ.o w7 jK.o;have rZ:=Rd.o;have hlr:rows.length<=60:=by omega
 have CX:=gR lE.o;have hflen:=(oF lE.o).2.1;have hal':bJ gs=rows:=rZ;have hgsF:gs=gsF fs G rows:=by rw[jcE];exact HGSE.o
 obtain⟨T,hT⟩:∃ T,T=PT.node op f c ks:=⟨_,rfl⟩;obtain⟨NN,hNN⟩:∃ NN,NN=(if kN fs (.node op f c ks)=0 then cU fs (.node op f c ks) gs else 0):=⟨_,rfl⟩;obtain⟨RR,hRR⟩:∃ RR,RR=(if kN fs (.node op f c ks)=0 then dq fs (.node op f c ks) rows else []):=⟨_,rfl⟩;have XN:=Wj (.node op f c ks) (show 0<G by have:=jaL.o;omega) sD.o;rw[<- hgsF]at XN;have h9:=QE (λf hf=>(CX f hf).1) (.node op f c ks)
 have GE:jgt (RR.length<=60/\(∀ r∈RR,r∈rows)):=ae (by
  rw[hRR];split
  ·exact⟨jeK (kM _ _ _) hlr,λr hr=>(jfX.1 hr).1⟩
  ·exact⟨by simp,λr hr=>by simp at hr⟩)
 have HF28:=ae (xX (w:=w7) (op:=op) (f:=f) (c:=c) (ks:=ks) (kv:=.slice ka ks.length kcap) zi.o yY.o.sf (GA.o.kept jK.o)
  (λU rv r hU hv hf=>Ez ((GA.o.kept jK.o).kept hU) mZ.o QU.o (yY.o.sf.kept hU) hv hf)
  (λU rv sts hU hv hf=>Mv ((GA.o.kept jK.o).kept hU) mZ.o (yY.o.sf.kept hU) hv hf)
  (λr hr=>by rw[rZ]at hr;exact⟨by have:=MH.o r hr;omega,(sD.o r hr).2⟩) (by rw[rZ];omega)
  (by rw[XS.o];have:=iO (n:=rows.length) jaL.o.1 (by omega);omega) (by rw[hgsF];exact ZP sD.o)
  (yU fs (.node op f c ks)) NN RR (λh=>⟨by rw[hNN,jey (h9.1 h)],by rw[hRR,jey (h9.1 h),XN]⟩) (λh=>⟨by rw[hNN,jex (λe=>h (h9.2 e))],by rw[hRR,jex (λe=>h (h9.2 e))]⟩)
  (λU hU=>uQ ((GA.o.kept jK.o).kept hU) mZ.o (yY.o.sf.kept hU)))
 have HF29:jgt (∀ U,jgu w7 U->Calls prog 29 #[.agg #[.int .u32 (id:Int),.slice fa fs.length fc],.slice a5 rows.length c5,.int .i64 (G:Int),.agg #[.int .u8 (op:Int),.int .u32 (f:Int),.int .u8 (c.1:Int),.int .i64 c.2.1,.string (bytesT c.2.2),.slice ka ks.length kcap]] U λe w'=>(∃ v',e=.returned (.tuple #[v',.int .i64 (NN:Int)])/\Sr w' v' RR)/\jgu U w'):=ae (λU hU=>by
  have h:=yX (id:=id) (Lo.o.kept hU) (QS.o.kept hU) ((GA.o.kept jK.o).kept hU) mZ.o sD.o CX hlr (by omega) jaL.o.1 jaL.o.2;rw[<- hgsF,XN,<- hNN,<- hRR]at h;exact h)
 have MX:jgt (∀ m,m<=rows.length->(if kN fs (.node op f c ks)=0 then dq fs (.node op f c ks) (rows.take m) else []).length<=60):=ae (λm hm=>by
  split
  ·have:=kM fs (.node op f c ks) (rows.take m)
   rw[jeH]at this;omega
  ·simp)
 have HLR:=ae hlr;have HRRZ:jgt ((kN fs (.node op f c ks)=0->RR=dq fs (.node op f c ks) rows)/\(¬ kN fs (.node op f c ks)=0->RR=[])):=ae ⟨λh=>by rw[hRR,jey h],λh=>by rw[hRR,jex h]⟩;have HRRE:jgt (RR=(if kN fs (.node op f c ks)=0 then dq fs (.node op f c ks) (rows.take rows.length) else [])):=ae (by rw[hRR,jeJ])
 have MY:jgt (kN fs (.node op f c ks)=0->jT (.node op f c ks)):=ae (λh=>Mx fs _ (by
  unfold kN at h;by_cases h1:lY (.node op f c ks)<=32/\dpM (.node op f c ks)<=8
  ·rw[jey h1]at h;exact h
  ·rw[jex h1]at h;omega))
 have HC30:=ae (λU (hU:jgu w7 U)=>pn (si:=id) ((GA.o.kept jK.o).kept hU) mZ.o (Lo.o.kept hU));clear vQ RU rZ hal' hgsF XN h9 hNN hRR AU gJ hlr CX c0 c1 hT;obtain⟨oL,n0,n1,n2,n3,n4,n5⟩:=LA.o w7 jK.o;go_wp2_with fail;refine HF28.o.mono ?_;rintro e w8 ⟨⟨v8,l8,rfl,jaM,hsn8⟩,kO⟩;have HOW8:=ae jaM;obtain⟨a8,c8,rfl,_,_,_⟩:=jaM.form;have jdO:=jaM.rv;rw[hsn8]at jdO;have HRV8:=ae jdO;have HB78:=ae kO;have xZ:=ae (ai jK.o kO);clear n0 n1 n2 n3 n4 n5 oL jaM hsn8 jdO kO HF28;obtain⟨oL,n0,n1,n2,n3,n4,n5⟩:=LA.o w8 xZ.o;obtain⟨c0,c1⟩:=HQ.o w8 xZ.o;have HF29':=ae (HF29.o w8 HB78.o);clear HF29;go_wp2_with fail;refine HF29'.o.mono ?_;rintro e w9 ⟨⟨v9,rfl,jdP⟩,yr⟩;have HSR9:=ae jdP;obtain⟨a9,c9,rfl,_,_⟩:=jdP.form;have HRV9:=ae (HRV8.o.kept yr);have HB79:=ae (ai HB78.o yr);have HB9:=ae (ai xZ.o yr);clear n0 n1 n2 n3 n4 n5 oL c0 c1 jdP yr HF29' HRV8 HOW8;by_cases h0:kN fs (.node op f c ks)=0
 ·have XM:jgt (RR=dq fs (.node op f c ks) rows):=ae (HRRZ.o.1 h0)
  go_wp2_with fail;go_loopw [18,19] (λa i wx=>∃(m:Nat) (lst:List (Value×Row)),i=.int .i64 (m:Int)/\m<=rows.length/\Oz w7 wx w9.heap.size a lst/\lst.map Prod.snd=dq fs (.node op f c ks) (rows.take m)/\jgu w9 wx) (λ_ i _=>rows.length-(intOf i).toNat)
  case atStart=>exact⟨0,[],rfl,by omega,Oz.nil _ _ _,by simp[dq],jez _ _⟩
  case round =>
   obtain⟨m,lst,rfl,hm,how,oX,ao⟩:=hrel;have HB:=ae ao;have sL:=ae how;have iw:=ae oX;obtain⟨la,lc,rfl,De,qs⟩:=how.form;have bF:=ao.size;obtain⟨wa,ZW⟩:∃ wa,wa=wr:=⟨_,rfl⟩;subst ZW;have vS:=ae (ai HB79.o ao);have fx:=ae (ai HB9.o ao);clear ao how oX
   have Xh:jgt (lst.length<=60):=ae (by
    have h1:=jeG List.length iw.o;rw[jeE]at h1;rw[h1];have h2:=kM fs (.node op f c ks) (rows.take m);rw[jeH]at h2;have:=HLR.o;omega)
   by_cases ar:m<rows.length
   ·have hlt':(m:Int)<(rows.length:Int):=by omega
    obtain⟨pb,po,rv,rfl,hpb,GU,Gh⟩:=QS.o.at ar;have HSC:=ae Gh;obtain⟨fa9,fc9,rfl,_,_⟩:=Gh.form;have HFRW:jgt (∀ x∈rows[m],aI x):=ae (λx hx=>(sD.o rows[m] (jeD ar)).2 x hx);have H30:=ae (λ(U:World) (hU:jgu wa U)=>HC30.o U (ai vS.o hU));have CK:∀ s:aB (λx=>jgu wa x),s.w.cell? ⟨w.heap.size,0,none⟩=some (.int .u32 (id:Int)):=λs=>(HQ.o _ (ai fx.o s.ok)).1
    have mh:∀ s:aB (λx=>jgu wa x),s.w.cell? ⟨w.heap.size,1,none⟩=some (.slice fa fs.length fc):=λs=>(HQ.o _ (ai fx.o s.ok)).2
    have bR:∀ s:aB (λx=>jgu wa x),s.w.cell? ⟨w.heap.size+1,0,none⟩=some (.int .u8 (op:Int)):=λs=>(LA.o _ (ai fx.o s.ok)).2.1
    have bW:∀ s:aB (λx=>jgu wa x),s.w.cell? ⟨w.heap.size+1,0+1,none⟩=some (.int .u32 (f:Int)):=λs=>(LA.o _ (ai fx.o s.ok)).2.2.1
    have aX:∀ s:aB (λx=>jgu wa x),s.w.cell? ⟨w.heap.size+1,0+2,none⟩=some (.int .u8 (c.1:Int)):=λs=>(LA.o _ (ai fx.o s.ok)).2.2.2.1
    have gy:∀ s:aB (λx=>jgu wa x),s.w.cell? ⟨w.heap.size+1,0+3,none⟩=some (.int .i64 c.2.1):=λs=>(LA.o _ (ai fx.o s.ok)).2.2.2.2.1
    have se:∀ s:aB (λx=>jgu wa x),s.w.cell? ⟨w.heap.size+1,0+4,none⟩=some (.string (bytesT c.2.2)):=λs=>(LA.o _ (ai fx.o s.ok)).2.2.2.2.2.1
    have sk:∀ s:aB (λx=>jgu wa x),s.w.cell? ⟨w.heap.size+1,0+5,none⟩=some (.slice ka ks.length kcap):=λs=>(LA.o _ (ai fx.o s.ok)).2.2.2.2.2.2
    have hg1':∀ s:aB (λx=>jgu wa x),s.w.cell? ⟨pb,po+m,none⟩=some (.slice fa9 rows[m].length fc9):=λs=>((ai vS.o s.ok).cell (p:=⟨pb,po+m,none⟩) hpb).trans GU
    haveI:Nonempty (aB (λx=>jgu wa x)):=⟨aB.mk wa (jez _ _)⟩
    have HCR:jgt (∀ U,jgu wa U->U.cell? ⟨pb,po+m,none⟩=some (.slice fa9 rows[m].length fc9)):=ae (λU hU=>((ai vS.o hU).cell (p:=⟨pb,po+m,none⟩) hpb).trans GU);have XR:=ae (λ(U:World) (hU:jgu wa U)=>uR (si:=id) HFRW.o (.node op f c ks) op f c ks rfl mZ.o (MY.o h0) U _ _ _ (Lo.o.kept (ai vS.o hU)) (HSC.o.kept (ai vS.o hU)) ((GA.o.kept jK.o).kept (ai vS.o hU)));have HHT:=ae (tJ (fs:=fs) (t:=.node op f c ks) ar);have RV:jgt (yS fs (.node op f c ks) rows[m]=(aW fs rows[m] (.node op f c ks)==2)):=ae rfl;rw[h0]at H30;generalize rows[m]=row at *;generalize yS fs (.node op f c ks) row=ht at *;generalize aW fs row (.node op f c ks)=ev at *;have H0:=ae h0;clear GU Gh h0;go_wp2_with fail;refine aP (S:=λx=>jgu wa x) (by kernel_rfl) (by kernel_rfl) (jez _ _).drew ?_;repeat (go_big_quiet_step (first | (go_at_call 30;exact(H30.o _ (aB.ok _)).mono (λe w' h=>⟨h.1,aB.mk w' (ai (aB.ok _) h.2),rfl⟩)) | (go_at_call 31;exact(XR.o _ (aB.ok _)).mono (λe w' h=>⟨h.1,aB.mk w' (ai (aB.ok _) h.2),rfl⟩))))
    refine wpQuiet_nil ?_;rintro _ ⟨s3,rfl⟩;obtain⟨w10,Xt⟩:∃ x,x=s3.w:=⟨_,rfl⟩;have zq:=s3.ok;rw[<- Xt]at zq ⊢;have zh:=ae (ai HB.o zq);have oW:=ae (sL.o.kept zq);have hz10:=zh.o.size;have cr10:=HCR.o _ zq;clear Xt zq CK mh bR bW aX gy se sk hg1' XR;by_cases Lx:ev=2
    ·have MU:jgt (dq fs (.node op f c ks) (rows.take (m+1))=dq fs (.node op f c ks) (rows.take m)++[row]):=ae (by rw[HHT.o,RV.o,Lx];simp)
     have he2:((ev:Int)==2)=true:=by rw[Lx];rfl
     clear Lx HHT RV;go_wp2_with (first | (at_builtin;refine mc (W0:=w7) rfl _ _ rfl w9.heap.size _ _ lst [(.slice fa9 row.length fc9,row)] rfl (oW.o.kept (aj _ _)) rfl (lm (aV _ _ _) (by rw[jeB];omega)) ?c1 ?c2 ?c3 ?_))
     case c1 =>
      intro x hx;rw[je9.1 hx];exact HSC.o
     case c2 =>
      simp only[je7];have:=Xh.o;omega
     case c3=>rw[jeB];omega
     intro v' w11 o11 b11;have CW:=ae o11;have jaE:=ae ((zh.o.alloc hz10 _).trans b11);clear o11 b11;go_wp2_with fail;go_roundw
     case rel=>exact⟨m+1,_,by go_num,by omega,CW.o,by rw[jeR,iw.o,MU.o];rfl,jaE.o⟩
     case measure=>simp[intOf];omega
    ·have MU:jgt (dq fs (.node op f c ks) (rows.take (m+1))=dq fs (.node op f c ks) (rows.take m)):=ae (by rw[HHT.o,RV.o,show (ev==2)=false from jeF.2 Lx,jex (by simp),jeS])
     have he2:((ev:Int)==2)=false:=jeF.2 (by omega);clear Lx HHT RV;go_wp2_with fail;go_roundw
     case rel=>exact⟨m+1,lst,by go_num,by omega,oW.o,by rw[iw.o,MU.o],zh.o⟩
     case measure=>simp[intOf];omega
   ·obtain rfl:m=rows.length:=by omega
    have ed:¬ ((rows.length:Nat):Int)<(rows.length:Int):=(by omega);have hsrA:=sL.o.sr vS.o;rw[iw.o,jeJ,<- XM.o]at hsrA;have jdQ:=ae hsrA;have GH:=ae (HRV9.o.kept HB.o);have Xu:=ae (HSR9.o.kept HB.o);have yn:∀ r∈RR,∀ x∈r,aI x:=λr hr=>(sD.o r (GE.o.2 r hr)).2
    have LB:∀ r∈RR,r.length<=600:=λr hr=>by have:=MH.o r (GE.o.2 r hr);omega
    have LC:=ae (vX GH.o Xu.o yn yn (by have:=GE.o.1;omega) LB);have LD:=ae (λU (hU:jgu wa U)=>vX (GH.o.kept hU) (jdQ.o.kept hU) yn yn (by have:=GE.o.1;omega) LB);simp only[decide_true]at LC LD
    have jdR:lst.length=RR.length:=by
     have h1:=jeG List.length iw.o;rw[jeE,jeJ,<- XM.o]at h1;exact h1
    have hnn:((NN:Int)==(NN:Int))=true:=by simp
    have jdS:=ae fx.o;clear hsrA yn LB jdR;go_wp2_with fail;refine LC.o.mono ?_;rintro e w12 ⟨rfl,tV⟩;have zk:=ae tV;have MD:=ae (LD.o w12 tV);clear tV LC LD;go_wp2_with fail;refine MD.o.mono ?_;rintro e w13 ⟨rfl,GC⟩;have Xo:=ae (ai jdS.o (ai zk.o GC));clear GC;go_wp2_with fail;go_ret
    exact⟨rfl,ai ce.o Xo.o⟩
 ·have XM:jgt (RR=([]:List Row)):=ae (HRRZ.o.2 h0)
  go_wp2_with fail;go_loopw [18,19] (λa i wx=>∃(m:Nat) (lst:List (Value×Row)),i=.int .i64 (m:Int)/\m<=rows.length/\Oz w7 wx w9.heap.size a lst/\lst.map Prod.snd=([]:List Row)/\jgu w9 wx) (λ_ i _=>rows.length-(intOf i).toNat)
  case atStart=>exact⟨0,[],rfl,by omega,Oz.nil _ _ _,by simp[dq],jez _ _⟩
  case round =>
   obtain⟨m,lst,rfl,hm,how,oX,ao⟩:=hrel;have HB:=ae ao;have sL:=ae how;have iw:=ae oX;obtain⟨la,lc,rfl,De,qs⟩:=how.form;have bF:=ao.size;obtain⟨wa,ZW⟩:∃ wa,wa=wr:=⟨_,rfl⟩;subst ZW;have vS:=ae (ai HB79.o ao);have fx:=ae (ai HB9.o ao);clear ao how oX
   have Xh:jgt (lst.length<=60):=ae (by
    have h1:=jeG List.length iw.o;rw[jeE]at h1;rw[h1];simp)
   by_cases ar:m<rows.length
   ·have hlt':(m:Int)<(rows.length:Int):=by omega
    obtain⟨pb,po,rv,rfl,hpb,GU,Gh⟩:=QS.o.at ar;have HSC:=ae Gh;obtain⟨fa9,fc9,rfl,_,_⟩:=Gh.form;have HFRW:jgt (∀ x∈rows[m],aI x):=ae (λx hx=>(sD.o rows[m] (jeD ar)).2 x hx);have H30:=ae (λ(U:World) (hU:jgu wa U)=>HC30.o U (ai vS.o hU));have CK:∀ s:aB (λx=>jgu wa x),s.w.cell? ⟨w.heap.size,0,none⟩=some (.int .u32 (id:Int)):=λs=>(HQ.o _ (ai fx.o s.ok)).1
    have mh:∀ s:aB (λx=>jgu wa x),s.w.cell? ⟨w.heap.size,1,none⟩=some (.slice fa fs.length fc):=λs=>(HQ.o _ (ai fx.o s.ok)).2
    have bR:∀ s:aB (λx=>jgu wa x),s.w.cell? ⟨w.heap.size+1,0,none⟩=some (.int .u8 (op:Int)):=λs=>(LA.o _ (ai fx.o s.ok)).2.1
    have bW:∀ s:aB (λx=>jgu wa x),s.w.cell? ⟨w.heap.size+1,0+1,none⟩=some (.int .u32 (f:Int)):=λs=>(LA.o _ (ai fx.o s.ok)).2.2.1
    have aX:∀ s:aB (λx=>jgu wa x),s.w.cell? ⟨w.heap.size+1,0+2,none⟩=some (.int .u8 (c.1:Int)):=λs=>(LA.o _ (ai fx.o s.ok)).2.2.2.1
    have gy:∀ s:aB (λx=>jgu wa x),s.w.cell? ⟨w.heap.size+1,0+3,none⟩=some (.int .i64 c.2.1):=λs=>(LA.o _ (ai fx.o s.ok)).2.2.2.2.1
    have se:∀ s:aB (λx=>jgu wa x),s.w.cell? ⟨w.heap.size+1,0+4,none⟩=some (.string (bytesT c.2.2)):=λs=>(LA.o _ (ai fx.o s.ok)).2.2.2.2.2.1
    have sk:∀ s:aB (λx=>jgu wa x),s.w.cell? ⟨w.heap.size+1,0+5,none⟩=some (.slice ka ks.length kcap):=λs=>(LA.o _ (ai fx.o s.ok)).2.2.2.2.2.2
    have hg1':∀ s:aB (λx=>jgu wa x),s.w.cell? ⟨pb,po+m,none⟩=some (.slice fa9 rows[m].length fc9):=λs=>((ai vS.o s.ok).cell (p:=⟨pb,po+m,none⟩) hpb).trans GU
    haveI:Nonempty (aB (λx=>jgu wa x)):=⟨aB.mk wa (jez _ _)⟩
    have HCR:jgt (∀ U,jgu wa U->U.cell? ⟨pb,po+m,none⟩=some (.slice fa9 rows[m].length fc9)):=ae (λU hU=>((ai vS.o hU).cell (p:=⟨pb,po+m,none⟩) hpb).trans GU);obtain⟨n9,GW⟩:∃ n9,n9=kN fs (.node op f c ks):=⟨_,rfl⟩;rw[<- GW]at H30;have hq9:(n9==0)=false:=by rw[GW];exact jeF.2 h0
    generalize rows[m]=row at *;have H0:=ae h0;clear GU Gh h0 GW;go_wp2_with fail;refine aP (S:=λx=>jgu wa x) (by kernel_rfl) (by kernel_rfl) (jez _ _).drew ?_;repeat (go_big_quiet_step ((go_at_call 30;exact(H30.o _ (aB.ok _)).mono (λe w' h=>⟨h.1,aB.mk w' (ai (aB.ok _) h.2),rfl⟩))))
    refine wpQuiet_nil ?_;rintro _ ⟨s3,rfl⟩;obtain⟨w10,Xt⟩:∃ x,x=s3.w:=⟨_,rfl⟩;have zq:=s3.ok;rw[<- Xt]at zq ⊢;have zh:=ae (ai HB.o zq);have oW:=ae (sL.o.kept zq);clear Xt zq CK mh bR bW aX gy se sk hg1';go_wp2_with fail;go_roundw
    case rel=>exact⟨m+1,lst,by go_num,by omega,oW.o,iw.o,zh.o⟩
    case measure=>simp[intOf];omega
   ·obtain rfl:m=rows.length:=by omega
    have ed:¬ ((rows.length:Nat):Int)<(rows.length:Int):=(by omega);have hsrA:=sL.o.sr vS.o;rw[iw.o,<- XM.o]at hsrA;have jdQ:=ae hsrA;have GH:=ae (HRV9.o.kept HB.o);have Xu:=ae (HSR9.o.kept HB.o);have yn:∀ r∈RR,∀ x∈r,aI x:=λr hr=>(sD.o r (GE.o.2 r hr)).2
    have LB:∀ r∈RR,r.length<=600:=λr hr=>by have:=MH.o r (GE.o.2 r hr);omega
    have LC:=ae (vX GH.o Xu.o yn yn (by have:=GE.o.1;omega) LB);have LD:=ae (λU (hU:jgu wa U)=>vX (GH.o.kept hU) (jdQ.o.kept hU) yn yn (by have:=GE.o.1;omega) LB);simp only[decide_true]at LC LD
    have jdR:lst.length=RR.length:=by
     have h1:=jeG List.length iw.o;rw[jeE,<- XM.o]at h1;exact h1
    have hnn:((NN:Int)==(NN:Int))=true:=by simp
    have jdS:=ae fx.o;clear hsrA yn LB jdR;go_wp2_with fail;refine LC.o.mono ?_;rintro e w12 ⟨rfl,tV⟩;have zk:=ae tV;have MD:=ae (LD.o w12 tV);clear tV LC LD;go_wp2_with fail;refine MD.o.mono ?_;rintro e w13 ⟨rfl,GC⟩;have Xo:=ae (ai jdS.o (ai zk.o GC));clear GC;go_wp2_with fail;go_ret
    exact⟨rfl,ai ce.o Xo.o⟩
end FindsLaw
abbrev Ge : List (String × DataW Unit) := [("catchment/crc.halves", Rows.laid_catchment_crc_halves)]
def jcF:List Int:=[0,498536548,997073096,651767980,1994146192,1802195444,1303535960,1342533948,3988292384,4027552580,3604390888,3412177804,2607071920,2262029012,2685067896,3183342108]
def MC : prog.globalNamed "catchment/crc.halves" = some 0 := by kernel_rfl
def ZQ:(prog.globals[0]?).map (·.type)=some 245:=by kernel_rfl
def ZR:prog.cellsOf 22=1:=by kernel_rfl
def Wk:prog.cellsOf 245=16:=by kernel_rfl
def jcG:∀ i,i<16->jcF.getD i 0=((fo 4 i:Nat):Int):=by decide +kernel
def ZS{W:World}(h:laidMetH prog Ge W):Tab W:=by
 rw[MakeChecks.laidMetH_plain _ _ _ (by kernel_rfl)]at h;have hT : TabIs prog W "catchment/crc.halves" .u32 jcF := tabIs_of_head MC ZQ underlying245 underlying22 ZR Wk h
 have hc:∀ i:Nat,i<16->W.cell? ⟨0,i,none⟩=some (.int .u32 ((fo 4 i:Nat):Int)):=λi hi=>by
  have:=hT.cell MC i (by simpa [jcF]using hi);rw[this,jcG i hi]
 refine⟨?_,hc⟩;have h0:=hc 0 (by omega);rcases jfs W.heap.size with hz | hz
 ·exfalso
  unfold World.cell? at h0;simp[hz]at h0
 ·exact hz
def Wl(os:Os)(args:Array Value):laidMetH prog Ge ((World.doorLaid prog 400 os).forCall (λ_ _=>0) ⟨#[],args,[]⟩).memory :=
 laidMetH_of_parts3 (fuel:=8) (laidMet_of_run' 8 (by kernel_rfl) (by kernel_rfl)) (by kernel_rfl) (by kernel_rfl)
open Go
def qk:joinedFacts prog 5 f5 Rows.colfileFindsSpec Rows.colfileFindsRow=true:=by
 unfold joinedFacts;simp only[jfF];and_intros
 all_goals (as_aux_lemma=>kernel_rfl)
end Go.Proofs.YtpljdjmpamjkhaaGreatDoor
