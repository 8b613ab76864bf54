import Derived.Test.YtpljdjmpamjkhaaGreatDoorYbm
import Derived.Test.YtpljdjmpamjkhaaGreatDoorYbh
import Derived.Test.YtpljdjmpamjkhaaGreatDoorYbq
import Derived.Test.YtpljdjmpamjkhaaGreatDoorYbf
import Derived.Lib.SlBytesConst
set_option linter.unusedVariables false
set_option linter.unusedSimpArgs false
set_option maxRecDepth 100000
set_option maxHeartbeats 4000000
namespace Go.Proofs.YtpljdjmpamjkhaaGreatDoor
open Go.RowKit Go.Lib
theorem uvL1{n:Nat}(h:n<128):(uv n).length=1:=by rw[uV h];rfl
theorem uvL2{n:Nat}(h:n<16384):(uv n).length<=2:=by
 rw[mf];exact uvarint_length 1 n (by omega)
theorem uvL3{n:Nat}(h:n<2097152):(uv n).length<=3:=by
 rw[mf];exact uvarint_length 2 n (by omega)
theorem wvL2{x:Int}(h0:0<=x)(h:x<=64):(wv x).length<=2:=by
 unfold wv;refine uvL2 ?_;unfold zigzag;rw[if_pos h0];omega
theorem D6:∀{l:List Int},(∀ x∈l,0<=x/\x<=64)->(ge l).length<=2*l.length
 | [],_=>by simp[ge]
 | x::t,h=>by
  have h1:=D6 (l:=t) (fun y hy=>h y (jaZ _ hy));have h2:=h x (List.mem_cons_self ..);have h3:=wvL2 h2.1 h2.2;simp only[ge,ZT,ZW];omega
theorem QO(n:Nat):by8 n<=n:=by unfold by8;omega
theorem QP{l:List Int}(h:∀ x∈l,0<=x/\x<=64):(cN l).length<=2*l.length+1:=by
 have h1:=nS l 4 0 (by omega);have h2:=D6 h;have:(hO 0 l).length=(ge l).length:=rfl;unfold cN;omega
theorem QQ{l:List Int}(h:Is l):(cN l).length<=10*l.length+1:=by
 have h1:=nS l 4 0 (by omega);have h2:=(lH h).1;have:(hO 0 l).length=(ge l).length:=rfl;unfold cN;omega
theorem D7{l:List (List Nat)}(h:Ts l)(hm:l.length<=64):(eJ l).length<=4+66*l.length:=by
 obtain⟨b1,_⟩:=nU h
 have h1:=QP (l:=dY l) (fun x hx=>by
  obtain⟨s,hs,rfl⟩:=jaa.1 hx;have:=(h s hs).1;omega)
 rw[bG]at h1;have h2:=uvL2 (n:=(cN (dY l)).length) (by omega)
 have hp:(plain l).length<=4+66*l.length:=by
  unfold plain fx cnt;simp only[ZW,ZT];omega
 unfold eJ;split<;>omega
theorem GU{l:List (Nat×Int×List Nat)}(hm:l.length<=256):(dD l).length<=1+l.length:=by
 unfold dD;split
 ·have hl:=eF (dU l) (by rw[bg];exact hm)
  rw[bg]at hl;have:=QO l.length;rw[ZW,hl];omega
 ·simp
theorem GV{k:Nat}{l:List Cl}(h:Col k l)(hm:l.length<=64):(em k l).length<=5+67*l.length:=by
 obtain⟨hk,oI,hc⟩:=h;have ho:=gS l;have hh:=GU oI;unfold em;rw[ZT];obtain rfl | rfl | rfl:k=1∨k=2∨k=3:=by omega
 ·have b1:=QQ (iS hc).1
  rw[ZU]at b1;rw[vG];omega
 ·have hl:=eF (fF hc).1 (by rw[ZU];omega)
  rw[ZU]at hl;have:=QO (bS l).length;rw[vH,hl];omega
 ·have hw:=D7 (gE hc).1 (by rw[ZU];omega)
  rw[ZU]at hw;rw[vI];omega
theorem QR{l:List UInt8}(hc:dI l=true):(bV l 4).length<=16:=by
 unfold bV;rw[zX hc,ZX];have:=qM (rs:=iF l) (4:Int).toNat;have h4:(4:Int).toNat=4:=rfl;omega
theorem JP:∀ rs:List Nat,(lx rs).length<=4*rs.length
 | []=>by simp[lx]
 | r::t=>by
  have:=JP t;have:=ic r;unfold lx at *;simp only[ja2,ZT,ZW];omega
theorem QS{l a:List UInt8}(h:gG l 4=some a)(hl:l.length<=64):a.length<=16:=by
 have h0:=h;rw[wn]at h;unfold dV at h;split at h
 ·next hc =>
  have hv:=zX hc;split at h
  ·next h4 =>
   obtain rfl:=Option.some.inj h;have e:=(ld _ l (ZR _) hc).1;have h16:=JP (iF l);rw[hv,ZU]at h4;have e2:=congrArg List.length e;omega
  ·split at h
   ·cases h
   ·unfold upL at h
    cases hg:gT (V l) (4:Int).toNat with
    | none=>rw[hg]at h;cases h
    | some i =>
     rw[hg]at h;have hi:=(qt hg).1;simp only[jaS,Option.some.injEq]at h;subst h;have:=ic (nx ((V l).getD i (0,0)).1);have:=qM (rs:=iF l) i;rw[← hv]at this;have h4:(4:Int).toNat=4:=rfl;simp only[ZT,ZX];omega
 ·cases h
theorem Xq{x:Cl}(hf:aU x){cl:Bool}(hc:cl=true->eK x=true):(nw x cl).2.2.length<=16:=by
 unfold nw;by_cases h:x.1=3/\cl=false
 ·rw[if_pos h];simp
 ·rw[if_neg h]
  show (nb _).length<=16
  rw[om];cases cl with
  | true=>exact QR (hc rfl)
  | false =>
   have hx:x.1≠3:=fun e=>h ⟨e,rfl⟩
   have h2:x.2.2=[]:=by
    rcases hf with rfl | ⟨n,rfl,_⟩ | ⟨n,rfl,_⟩ | ⟨s,rfl,_,_⟩
    ·rfl
    ·rfl
    ·rfl
    ·exact absurd rfl hx
   have:=pD (lb (am x.2.2)) 4;rw[cG,bi,h2]at this;rw[h2];simp only[jad]at this;omega
theorem Ul{x:Cl}(hf:aU x){cl:Bool}:(gp x cl).1.2.2.length<=16:=by
 unfold gp;by_cases h:x.1=3
 ·rw[if_pos h]
  cases ha:gG (lb (am x.2.2)) 4 with
  | none=>exact jav _
  | some a =>
   cases cl
   ·exact jav _
   ·show (nb a).length<=16
    rw[om];refine QS ha ?_;rw[cG];exact hf.short
 ·rw[if_neg h]
  show x.2.2.length<=16
  rcases hf with rfl | ⟨n,rfl,_⟩ | ⟨n,rfl,_⟩ | ⟨s,rfl,_,_⟩
  ·exact jav _
  ·exact jav _
  ·exact jav _
  ·exact absurd rfl h
theorem QT{cs:List Cl}(hf:∀ c∈cs,aU c):(ct cs).lo.2.2.length<=16/\(ct cs).hi.2.2.length<=16:=by
 have J7:∀ c∈aY cs,aU c:=fun c hc=>hf c (by unfold aY at hc;exact(jbq.1 hc).1)
 unfold ct;cases hn:aY cs with
 | nil=>exact⟨jav _,jav _⟩
 | cons y r =>
  rw[hn]at J7;have hy:=J7 y (by simp);have hr:∀ c∈r,aU c:=fun c hc=>J7 c (by simp[hc])
  refine⟨Xq (lN hy hr) (fun cU=>?_),Ul (nt hy hr)⟩;rw[List.all_eq_true]at cU;exact lN (P:=fun c=>eK c=true) (cU y (by simp)) (fun c hc=>cU c (by simp[hc]))
theorem JQ{c:Cl}(h:aU c)(h16:c.2.2.length<=16):(gq c).length<=17:=by
 unfold gq;split
 ·rcases h with rfl | ⟨n,rfl,h1⟩ | ⟨n,rfl,h1⟩ | ⟨s,rfl,h1,h2⟩<;>first | (have:=fd h1;unfold wv at this;simp only;omega) | (simp_all [nul])
 ·split
  ·simp
  ·rw[ZT,uvL1 (by omega)]
   omega
theorem QU{cs:List Cl}(hf:∀ c∈cs,aU c)(hl:cs.length<=64):(es (ct cs)).length<=37:=by
 obtain⟨a1,a2⟩:=kp hf;obtain⟨b1,b2⟩:=QT hf;have c1:=JQ a1 b1;have c2:=JQ a2 b2;obtain⟨n,hn,VU⟩:=kU cs;have hu:=uvL1 (n:=n) (by omega);unfold es;rw[hn,jah];simp only[ZT,jan];split<;>split<;>(try simp only[jad])<;>omega
theorem GW{fs:List Fd}{p:List Row}(hl:p.length<=64)(dT:∀ k,k<fs.length->Col (lO fs k) (cT p k)):∀{k:Nat},k<=fs.length->(eL fs p k).length<=(5+67*p.length)*k:=by
 intro k;induction k with
 | zero=>exact fun _=>by simp[eL]
 | succ k ih =>
  intro hk;have h1:=ih (by omega);have h2:=GV (dT k (by omega)) (by rw[dp];exact hl);rw[dp]at h2;rw[lR,ZT,Nat.mul_succ];omega
theorem LV{fs:List Fd}{p:List Row}(h:jJ fs p)(hl:p.length<=64)(dT:∀ k,k<fs.length->Col (lO fs k) (cT p k)):∀{k:Nat},k<=fs.length->(ftK fs p k).length<=40*k:=by
 intro k;induction k with
 | zero=>exact fun _=>by simp[ftK]
 | succ k ih =>
  intro hk;have h1:=ih (by omega);have h2:=(il (dT k (by omega))).1;have h3:=QU (lV h k) (by rw[dp];exact hl);have h4:=uvL3 (n:=(em (lO fs k) (cT p k)).length) (by omega);rw[nz];simp only[ZT];omega
theorem wV{fs:List Fd}{rs:List Row}{g:Nat}(jM:fs.length<=8)(gK:g<=64)(hk:∀ f∈fs,1<=f.2.2.1/\f.2.2.1<=3)(dy:jJ fs rs):∀ j,(ip fs g rs j).length<=40*j+536*min (j*g) rs.length
 | 0=>by simp[ip]
 | j+1=>by
  have h0:=wV jM gK hk dy j;have kD:(prt g rs j).length<=64:=by rw[bY];omega
  have h1:=GW kD (fun k kz=>eV (dy.part g j) hk (by omega) kz) (ZR _);have h2:(5+67*(prt g rs j).length)*fs.length<=(5+67*(prt g rs j).length)*8:=jaL _ jM;rw[bY]at h1 h2;rw[sE,ZT,jap,jaO];omega
theorem zA{fs:List Fd}{rs:List Row}{g:Nat}(jM:fs.length<=8)(gK:g<=64)(hk:∀ f∈fs,1<=f.2.2.1/\f.2.2.1<=3)(dy:jJ fs rs):∀ j,(ftJ fs g rs j).length<=320*j
 | 0=>by simp[ftJ]
 | j+1=>by
  have h0:=zA jM gK hk dy j;have kD:(prt g rs j).length<=64:=by rw[bY];omega
  have h1:=LV (dy.part g j) kD (fun k kz=>eV (dy.part g j) hk (by omega) kz) (ZR _);rw[wF,ZT];omega
theorem wW{id:Nat}{fs:List Fd}{rs:List Row}{g:Nat}(ho:∀ f∈fs,Okf f)(mR:id<4294967296)(hc:chk id fs=0)(ph:rs.length<=60)(eQ:1<=g)(gK:g<=64)(dy:jJ fs rs):(bK (et id fs rs g)).length<=65536:=by
 obtain⟨hz,jM,_⟩:=my hc;have hk:=gW hc;have h1:=fG ho (by omega) hz fs.length;rw[ZY]at h1;have h2:=gm id (by omega);have h3:=gm fs.length (by omega);have h4:=gm rs.length (by omega);have h5:=gm g (by omega)
 have hn:nps g rs.length<=60:=by
  rcases jae 60 (nps g rs.length)with h | h
  ·have:=(ku (j:=60) (show 0<g by omega)).1 h
   have:60*1<=60*g:=jaL _ eQ;omega
  ·exact h
 have h6:=wV jM gK hk dy (nps g rs.length);have h7:=zA jM gK hk dy (nps g rs.length)
 have h8:(ip fs g rs (nps g rs.length)).length<=34560:=by
  have:=Nat.min_le_right (nps g rs.length*g) rs.length;omega
 unfold bK et lQ fV dz;simp only[ZT,ZW,jad,le4];omega
theorem JR{fs:List Fd}:∀{rs:List Row},(∀ r∈rs,jE fs r=0)->kr fs rs=0
 | [],_=>rfl
 | x::t,h=>by
  unfold kr;rw[if_pos (h x (List.mem_cons_self ..))];exact JR fun r hr=>h r (jaZ _ hr)
theorem D8{id:Nat}{fs:List Fd}{rs:List Row}{g:Nat}(hc:chk id fs=0)(eQ:1<=g)(gK:g<=64)(hl:rs.length<=256)(hf:jJ fs rs):dS id fs rs (g:Int)=0:=by
 unfold dS;rw[if_neg (by omega),if_neg (by omega),if_neg (by omega)];exact JR fun r hr=>(hf r hr).1
theorem A7{id:Nat}{fs:List Fd}{rs:List Row}{g:Nat}(ho:∀ f∈fs,Okf f)(mR:id<4294967296)(hc:chk id fs=0)(hl:rs.length<=60)(eQ:1<=g)(gK:g<=64)(hf:jJ fs rs):bT id fs rs (g:Int)=(bK (et id fs rs g),0):=by
 have h1:=D8 (g:=g) hc eQ gK (show rs.length<=256 by omega) hf;have h2:=wW ho mR hc hl eQ gK hf;unfold bT;rw[h1,if_neg (by simp),jah,if_neg (by omega)]
theorem A8{id:Nat}{fs:List Fd}{rs:List Row}{g:Nat}{b:List Nat}(ho:∀ f∈fs,Okf f)(mR:id<4294967296)(Wi:∀ r∈rs,∀ c∈r,aU c)(h:bT id fs rs (g:Int)=(b,0)) :
  jl b=.ok (id,fs,g,(List.range (nps g rs.length)).map fun i=>grp fs (prt g rs i)):=by
 have hw:=h;unfold bT at h;by_cases h0:dS id fs rs (g:Int)≠0
 ·rw[if_pos h0]at h
  exact absurd (Prod.mk.inj h).2 h0
 rw[if_neg h0]at h;obtain⟨hc,⟨eQ,gK⟩,hl,lq⟩:=kV (Decidable.not_not.1 h0);rw[jah]at h;by_cases hz:65536<(bK (et id fs rs g)).length
 ·rw[if_pos hz]at h
  cases (Prod.mk.inj h).2
 rw[if_neg hz]at h;obtain⟨rfl,_⟩:=Prod.mk.inj h;have hf:jJ fs rs:=fun r hr=>⟨lY lq r hr,Wi r hr⟩
 have jq:(fV id fs rs g).length<4294967296:=by
  have:=(rh (g:=g) ho mR hc hl (by omega) (by omega) hf).1;omega
 unfold jl;rw[Gd];simp only;have ht:(et id fs rs g).take 3=[67,70,49]:=rfl;have hd:(et id fs rs g).drop 3=lQ id fs rs g:=rfl;rw[if_pos ht,hd,GA mR ho hc hf hl (by omega) (by omega) jq];simp only;rw[QC fs (by omega) rs,if_pos hw]
theorem QV{w:World}(ht:Tab w){v fv:Value}{b:List Nat}{B fp id:Nat}{fs:List Fd}{gs:List Gr}{g:Nat}(hs:Sv w v (aE .u8 b))(h8:Bs b)(h:Fil w B fp id fv gs)(hf:Sf w fv fs)(ho:∀ f∈fs,Okf f)(mR:id<4294967296)
  (hr:∀ r∈bP gs,r.length<=1000/\∀ c∈r,aU c) (BE:(bP gs).length<=1000) :
  Calls Tryz.prog 54 #[v,.pointer (some ⟨fp,0,none⟩),.int .i64 (g:Int)] w fun e w'=>e=.returned (.bool (decide (bT id fs (bP gs) (g:Int)=(b,0))))/\Below w.heap.size w w':=by
 have HT:=ae ht;have HS:=ae hs;have HF:=ae hf;have h':=h;obtain⟨gv,xs,jN,hB,_,_⟩:=h';have EH:=(Array.getElem?_eq_some_iff.1 jN).1;obtain⟨fa,fc,rfl,_,_⟩:=hf.form;obtain⟨ba,bc,rfl,_,_⟩:=hs.form1;rw[ap]at *
 have zS:Hid (∀ U,Below w.heap.size w U->U.cell? ⟨fp,0,none⟩=some (.int .u32 (id:Int))/\U.cell? ⟨fp,1,none⟩=some (.slice fa fs.length fc)):=ae (fun U hU=>by
  have hh:=(hU.block fp EH).trans jN;constructor<;>(rw[ax hh];rfl))
 have HA:Hid (∀ U,Below w.heap.size w U->Calls Tryz.prog 23 #[.pointer (some ⟨fp,0,none⟩)] U fun e w'=>∃ a c,e=.returned (.slice a (bP gs).length c)/\Rv w' (.slice a (bP gs).length c) (bP gs)/\Below w.heap.size w w'/\w'.cell? ⟨fp,0,none⟩=some (.int .u32 (id:Int))/\w'.cell? ⟨fp,1,none⟩=some (.slice fa fs.length fc)):=ae (fun U hU=>by
  refine(zz (h.kept hU) (fun r hh=>(hr r hh).1) (by omega)).mono ?_;rintro e w' ⟨⟨v,l,rfl,how,uJ⟩,hb⟩;have aD:=ai hU hb;have zU:=how.rv;rw[uJ]at zU;obtain⟨a,c,rfl,_⟩:=zU.form;exact⟨a,c,rfl,zU,aD,zS.out _ aD⟩)
 have HW:Hid (∀ U ra rc,Below w.heap.size w U->Rv U (.slice ra (bP gs).length rc) (bP gs)->Calls Tryz.prog 12 #[.agg #[.int .u32 (id:Int),.slice fa fs.length fc],.slice ra (bP gs).length rc,.int .i64 (g:Int)] U fun e w'=>∃ a c,e=.returned (.tuple #[.slice a (bT id fs (bP gs) (g:Int)).1.length c,.int .i64 ((bT id fs (bP gs) (g:Int)).2:Int)])/\Sv w' (.slice a (bT id fs (bP gs) (g:Int)).1.length c) (aE .u8 (bT id fs (bP gs) (g:Int)).1)/\Below w.heap.size w w'):=ae (fun U ra rc hU zU=>by
  refine(tG (HT.out.kept hU) (HF.out.kept hU) zU ho mR (fun r hh=>(hr r hh).2) (g:Int)).mono ?_;rintro e w' ⟨⟨v,rfl,how⟩,hb⟩;have ib:=how.sv;obtain⟨a,c,rfl,_,_⟩:=ib.form1;rw[ap]at *;exact⟨a,c,rfl,ib,ai hU hb⟩)
 have tS:Hid (Bs (bT id fs (bP gs) (g:Int)).1):=ae (by
  unfold bT;split
  ·exact fun x hx=>by simp at hx
  ·next h0 =>
   split
   ·exact fun x hx=>by simp at hx
   ·obtain⟨hc,⟨eQ,gK⟩,hl,lq⟩:=kV (Decidable.not_not.1 h0)
    rw[jah];exact(lX ho mR hc hl (by omega) (by omega) (fun r hh=>⟨lY lq r hh,(hr r hh).2⟩)).2.seal)
 obtain⟨WM,hWM⟩:∃ WM,bT id fs (bP gs) (g:Int)=WM:=⟨_,rfl⟩;rw[hWM]at HW tS ⊢;obtain⟨D,hD⟩:∃ D,decide (WM=(b,0))=D:=⟨_,rfl⟩;rw[hD];obtain⟨wb,we⟩:=WM;simp only at HW tS;have HD:=ae hD;clear hD;have p6:=ae h8;clear hs hf h jN ho hr h8 hWM;obtain⟨c0,c1⟩:=zS.out w (ZQ _ _);generalize (bP gs).length=n at *;go_enter Tryz.func54,Tryz.ntmps54
 go_wp2_with fail;refine wp_region_noPanic ?_
 go_region_law (first
  | (go_simp;go_at_call 23;refine(HA.out _ ?_).mono ?_;exact below_drewN (ZQ w.heap.size w) _;rintro e w1 ⟨ra,rc,rfl,hrv1,aG,d0,d1⟩;have HRV1:=ae hrv1;have aQ:=ae aG;clear hrv1 aG;dsimp only)
  | (go_simp;go_at_call 12;refine(HW.out _ _ _ ?_ ?_).mono ?_;(first | exact aQ.out | exact below_drewN aQ.out _);(first | exact HRV1.out | exact HRV1.out.kept (below_drewN (ZQ w1.heap.size w1) _));rintro e w2 ⟨a2,cc2,rfl,ef,aD⟩;have gC:=ae ef;have aN:=ae aD;clear ef aD;dsimp only)
  | fail)
 all_goals refine NoPanic.normal ?_
 all_goals
  by_cases he:we=0
  ·have hez:(((we:Nat):Int)==0)=true:=by rw[he];rfl
   have Bv:=ae (oo gC.out (HS.out.kept aN.out) tS.out p6.out)
   have yl:Hid (decide (wb=b)=D):=ae (by
    rw[← HD.out,he];by_cases xw:wb=b
    ·rw[xw];simp
    ·simp[xw])
   rw[yl.out]at Bv;go_wp2_with fail;refine Bv.out.mono ?_;rintro e w3 ⟨rfl,rfl⟩;go_wp2_with fail;go_ret
   exact⟨rfl,aN.out⟩
  ·have hez:(((we:Nat):Int)==0)=false:=by simpa using he
   have yl:Hid (D=false):=ae (by rw[← HD.out];simp[he]);go_wp2_with fail;go_ret
   exact⟨by rw[yl.out];rfl,aN.out⟩
def Vw(w:World)(b:List Nat)(e:Ending)(w':World):Prop :=
 ((∃ c,jl b=.error c/\e=.returned (.tuple #[.pointer none,.int .i64 (c:Int)])) ∨
  ∃ id fs g gs fp fv,jl b=.ok (id,fs,g,gs)/\e=.returned (.tuple #[.pointer (some ⟨fp,0,none⟩),.int .i64 0])/\Fil w' w.heap.size fp id fv gs/\dR w' w.heap.size fv fs)/\Below w.heap.size w w'
theorem mB{b t:List Nat}(h:ep b=some t)(h8:Bs b):Bs t/\t.length<=b.length:=by
 unfold ep at h;split at h
 ·cases h
  exact⟨h8.take _,by rw[ZX];omega⟩
 ·cases h
theorem pre3(t:List Nat):([67,70,49]:List Nat).isPrefixOf t=true↔t.take 3=[67,70,49]:=by
 constructor
 ·intro h
  obtain⟨r,rfl⟩:=jaW.1 h;rfl
 ·intro h
  exact jaW.2 ⟨t.drop 3,by rw[← h,ja5]⟩
theorem pV{w:World}(ht:Tab w){v:Value}{b:List Nat}(hs:Sv w v (aE .u8 b))(h8:Bs b)(hl:b.length<=80000000) :
  Calls Tryz.prog 17 #[v] w (Vw w b):=by
 have HT:=ae ht;have HS:=ae hs;have H8:=ae h8;have HO:=ae (Qg ht hs.toK h8 (by omega));obtain⟨a,cap,rfl,_,_⟩:=hs.form1;rw[ap]at *
 have HE:Hid (jl b=match ep b with
  | none=>.error 101
  | some t=>if t.take 3=[67,70,49] then (match iI (t.drop 3)with
    | none=>.error 102
    | some x=>if bT x.1 x.2.1 (bP x.2.2.2) x.2.2.1=(b,0) then .ok x else .error 102) else .error 100):=ae rfl
 have Bz:=ae (fun t (h:ep b=some t)=>mB h h8);unfold Vw;generalize jl b=OF at *;clear ht hs h8;cases BU:ep b with
 | none =>
  rw[BU]at HE HO;clear BU Bz;go_enter Tryz.func17,Tryz.ntmps17
  go_wp2_with fail;refine HO.out.mono ?_;rintro e w1 ⟨⟨v1,rfl,o1⟩,aG⟩;have aQ:=ae aG;clear o1 aG;simp only[Option.isSome];go_wp2_with fail;go_ret2
  exact⟨.inl ⟨101,HE.out,rfl⟩,aQ.out⟩
 | some t =>
  obtain⟨t8,tl⟩:=Bz.out t BU;rw[BU]at HE HO;simp only at HE;clear BU Bz;have T8:=ae t8;go_enter Tryz.func17,Tryz.ntmps17
  go_wp2_with fail;refine HO.out.mono ?_;rintro e w1 ⟨⟨v1,rfl,o1⟩,aG⟩;simp only[Option.isSome,Option.getD]at *;have aQ:=ae aG;have fA:=ae o1;obtain⟨a1,cap1,rfl,_,_⟩:=bF o1;have ib:=o1.sv;have yh:=o1.lt;have HWI:Hid (∀ i,(Value.slice a1 t.length cap1).ownBlock=some i->i<w1.heap.size):=ae (fun i hi=>(yh i hi).2);have aD:=dq w1 (.cells #[.int .u8 67,.int .u8 70,.int .u8 49] 5 (3,4));have xh:fJ (w1.alloc (.cells #[.int .u8 67,.int .u8 70,.int .u8 49] 5 (3,4))) w1.heap.size (.slice (some ⟨w1.heap.size,0,none⟩) 3 3) [67,70,49]:=Or.inr ⟨rfl,_,rfl,ZR _,heap_alloc_new _ _⟩;have RZ:=ae (DP (ib.kept aD) xh.sv t8 (by intro x hx;simp at hx;omega));have aN:=ae (ai aQ.out aD);have HTB2:=ae (HT.out.kept aN.out);have gC:=ae (HS.out.kept aN.out);have J6:Hid (∀ p,w1.heap.size<p->True):=ae (fun _ _=>trivial);have hsz2:w1.heap.size<=(w1.alloc (.cells #[.int .u8 67,.int .u8 70,.int .u8 49] 5 (3,4))).heap.size:=aD.size;have HSZ2:=ae hsz2
  have uk:(convert 30 30 (.slice (some ⟨w1.heap.size,0,none⟩) 3 3)).run Tryz.prog (w1.alloc (.cells #[.int .u8 67,.int .u8 70,.int .u8 49] 5))=.ok (.slice (some ⟨w1.heap.size,0,none⟩) 3 3) (w1.alloc (.cells #[.int .u8 67,.int .u8 70,.int .u8 49] 5 (3,4))) :=
   run_convert_bytes_const w1 30 5 #[.int .u8 67,.int .u8 70,.int .u8 49] 3 3 Tryz.underlying30 Tryz.underlying5
  clear aG o1 ib yh aD xh hsz2 t8 HO;go_wp2_with fail;refine RZ.out.mono ?_;rintro e w3 ⟨⟨v3,rfl,kX,hw3⟩,rfl⟩;generalize w1.alloc (.cells #[.int .u8 67,.int .u8 70,.int .u8 49] 5 (3,4))=W2 at *;have ym:Hid (nE W2.heap.size v3):=ae (hw3 W2.heap.size fun i hi=>Z9 (HWI.out i hi) HSZ2.out);clear hw3 RZ;by_cases hp:([67,70,49]:List Nat).isPrefixOf t=true
  ·have hp3:=(pre3 t).1 hp
   rw[if_pos hp]at kX;rw[if_pos hp3]at HE;rw[hp];have h38:Bs (t.drop 3):=fun x hx=>T8.out x (jbc hx)
   have h3l:(t.drop 3).length<=80000000:=by rw[jai];omega
   have Zw:=ae (GT (b:=t.drop 3) kX h38 h3l ym.out);have HWH:=ae (fun id g fs gs (h:iI (t.drop 3)=some (id,fs,g,gs))=>tJ h38 h)
   obtain⟨va3,vn3,vc3,rfl⟩:∃ a n c,v3=.slice a n c:=by
    obtain⟨a,c,e,_⟩:=kX.form1;exact⟨_,_,_,e⟩
   clear hp hp3 kX h38 h3l;go_wp2_with fail;refine Zw.out.mono ?_;rintro e w4 ⟨⟨hrn,fp,g,rfl⟩ | ⟨id,fs,g,gs,fp,fv,V1,rfl,uy,how⟩,bv⟩
   ·rw[hrn]at HE
    simp only at HE;have b9:=ae (ai aN.out bv);clear bv hrn Zw HWH;go_wp2_with fail;go_ret2
    exact⟨.inl ⟨102,HE.out,rfl⟩,b9.out⟩
   ·obtain⟨dP,mR,ho,eQ,gK,xk,dT,_⟩:=HWH.out _ _ _ _ V1
    rw[V1]at HE;simp only at HE;have jM:=(my dP).2.1;have HSO:=ae (QV (g:=g) (HTB2.out.kept bv) (gC.out.kept bv) H8.out uy how.sf ho mR (fun r hr=>⟨by rw[(dT r hr).1];omega,(dT r hr).2⟩) (by omega));obtain⟨D,hD⟩:∃ D,decide (bT id fs (bP gs) (g:Int)=(b,0))=D:=⟨_,rfl⟩;rw[hD]at HSO;have HD:=ae hD;have b9:=ae (ai aN.out bv);have xq:=ae uy;have R6:=ae how;have He:=aN.out.size;clear bv V1 Zw HWH dP mR ho eQ gK xk dT hD uy how jM;go_wp2_with fail;refine HSO.out.mono ?_;rintro e w5 ⟨rfl,bq⟩;have aR:=ae (ai b9.out bq);have xy:=ae (xq.out.kept bq);have dH:=ae (R6.out.kept bq);clear bq xq R6 HSO;cases D with
    | true =>
     have hw:=of_decide_eq_true HD.out;rw[if_pos hw]at HE;clear hw HD;go_wp2_with fail;go_ret2
     exact⟨.inr ⟨id,fs,g,gs,fp,fv,HE.out,rfl,xy.out.low He,dH.out.low He⟩,aR.out⟩
    | false =>
     have hw:=of_decide_eq_false HD.out;rw[if_neg hw]at HE;clear hw HD;go_wp2_with fail;go_ret2
     exact⟨.inl ⟨102,HE.out,rfl⟩,aR.out⟩
  ·have MH:([67,70,49]:List Nat).isPrefixOf t=false:=Bool.eq_false_iff.2 hp
   rw[if_neg (fun e=>hp ((pre3 t).2 e))]at HE;rw[MH];clear hp MH kX;go_wp2_with fail;go_ret2
   exact⟨.inl ⟨100,HE.out,rfl⟩,aN.out⟩
theorem wX{w:World}{B fp id:Nat}{fv:Value}{gs:List Gr}(h:Fil w B fp id fv gs)(BE:(bP gs).length<=100000) :
  Calls Tryz.prog 20 #[.pointer (some ⟨fp,0,none⟩)] w fun e w'=>e=.returned (.int .i64 ((bP gs).length:Int))/\Below w.heap.size w w':=by
 obtain⟨gv,xs,h1,h2,h3,h4⟩:=h;obtain⟨ga,gc,rfl,hgc,hgm⟩:=bF h3;have c2:w.cell? ⟨fp,2,none⟩=some (.slice ga gs.length gc):=by rw[ax h1];rfl
 have HG:Hid (∀ k (hk:k<gs.length),∃ G R va vn vc,ga=some ⟨G,0,none⟩/\∀ W,Below w.heap.size w W->W.cell? ⟨G,k*2,none⟩=some (.slice (some ⟨R,0,none⟩) gs[k].1.length gs[k].1.length)/\W.cell? ⟨G,k*2+1,none⟩=some (.slice va vn vc)):=ae (fun k hk=>by
  obtain⟨a,b,e1,e2,e3⟩:=h4 k hk;obtain⟨R,rfl,g1,g2,⟨va,vn,vc,rfl⟩,g4⟩:=e3.rows;obtain⟨G,rfl,_,hG,lp⟩:=gX h3 e1;obtain⟨_,e,_,_,kx⟩:=gX h3 e2;cases e
  exact⟨G,R,va,vn,vc,rfl,fun W hb=>⟨(hb.cell (p:=⟨G,k*2,none⟩) hG).trans (by rw[jak];exact lp),(hb.cell (p:=⟨G,k*2+1,none⟩) hG).trans (by rw[jak k];exact kx)⟩⟩)
 have HT:=ae (fun j=>eZ gs j);have rx:=ae (fun j (h:j<gs.length)=>lZ h);have HTA:Hid (bP (gs.take gs.length)=bP gs):=ae (by rw[ZY]);have MM:=ae BE;clear h1 h2 h3 h4 BE;go_enter Tryz.func20,Tryz.ntmps20
 go_wp2_with fail;go_loopw [3,11] (fun a i wr=>∃ k:Nat,i=.int .i64 (k:Int)/\k<=gs.length/\a=.int .i64 ((bP (gs.take k)).length:Int)/\Below w.heap.size w wr) (fun _ i _=>gs.length-(intOf i).toNat)
 case atStart=>exact⟨0,rfl,by omega,rfl,ZQ _ _⟩
 case round =>
  obtain⟨k,rfl,hk,rfl,ay⟩:=hrel;have HB:=ae ay;clear ay;by_cases aB:k<gs.length
  ·obtain⟨G,R,va,vn,vc,rfl,hcells⟩:=HG.out k aB
   obtain⟨ca,cb⟩:=hcells wr HB.out;have hlt':(k:Int)<(gs.length:Int):=by omega
   have m9:=ae (HB.out.alloc HB.out.size (.cells #[.slice (some ⟨R,0,none⟩) gs[k].1.length gs[k].1.length,.slice va vn vc] 109));obtain⟨cg,_⟩:=bE wr (.slice (some ⟨R,0,none⟩) gs[k].1.length gs[k].1.length) (.slice va vn vc) 109;have R9:=congrArg List.length (rx.out k aB);have pd:=HT.out (k+1);have htt:=MM.out;rw[ZT]at R9;have Hj:IntKind.i64.wrap (((bP (gs.take k)).length:Int)+(gs[k].1.length:Int))=((bP (gs.take (k+1))).length:Int):=by rw[jam];omega
   have Jb:=ae (show ((bP (gs.take (k+1))).length:Int)=((bP (gs.take (k+1))).length:Int) from rfl);clear R9 pd htt hcells;go_wp2_with fail;go_roundw
   case rel=>exact⟨k+1,by go_num,by omega,rfl,m9.out⟩
   case measure=>simp[intOf];omega
  ·obtain rfl:k=gs.length:=by omega
   have gJ:¬ ((gs.length:Nat):Int)<(gs.length:Int):=by omega
   have HTE:Hid ((bP (gs.take gs.length)).length=(bP gs).length):=ae (congrArg List.length HTA.out);go_wp2_with fail;go_ret
   exact⟨by rw[← HTE.out];rfl,HB.out⟩
end Go.Proofs.YtpljdjmpamjkhaaGreatDoor
