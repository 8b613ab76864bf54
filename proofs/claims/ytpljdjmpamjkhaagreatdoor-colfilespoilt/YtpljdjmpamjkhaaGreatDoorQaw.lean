import Derived.Test.YtpljdjmpamjkhaaGreatDoorQau
set_option linter.unusedVariables false
set_option linter.unusedSimpArgs false
set_option maxRecDepth 100000
set_option maxHeartbeats 8000000
namespace Go.Proofs.YtpljdjmpamjkhaaGreatDoor
open Go.RowKit Go.Lib
theorem vG{w:World}{v:Value}{rs:List Row}(hs:Sr w v rs)(hl:rs.length<=1000){k:Nat}(hk:∀ r∈rs,k<r.length) :
  Calls Tryz.prog 26 #[v,.int .i64 (k:Int)] w fun e w'=>(∃ v',e=.returned v'/\ex w' w.heap.size v' (cY rs k))/\Below w.heap.size w w':=by
 have HS:=ae hs;have HK:=ae hk;obtain⟨a,cap,rfl,aW,bC⟩:=hs.form;have hcm':cap<=9223372036854775807:=by unfold maxLen at bC;omega
 have eX:(cY rs k).length=rs.length:=dx rs k;obtain⟨D,hD⟩:∃ D,cY rs k=D:=⟨_,rfl⟩;have QF:jgf (∀ j (h:j<rs.length),∃ h2:j<D.length,D[j]=rs[j].getD k nul):=ae (fun j h=>by subst hD;exact⟨by omega,by simp[cY]⟩);rw[hD]at eX ⊢;have pQ:=ae eX;clear hs bC hk hD eX;go_enter Tryz.func26,Tryz.ntmps26
 go_wp2_with fail;go_loopw [5,6] (fun o i wr=>∃ j:Nat,j<=rs.length/\i=.int .i64 (j:Int)/\ex wr w.heap.size o (D.take j)/\Below w.heap.size w wr) (fun _ i _=>rs.length-(intOf i).toNat)
 case atStart=>exact⟨0,by omega,rfl,ex.nil _ _,jej _ _⟩
 case round =>
  obtain⟨j,hj,rfl,aA,az⟩:=hrel;have HO:=ae aA;have HB:=ae az;have bH:=az.size;clear aA az;by_cases aB:j<rs.length
  ·obtain⟨g,off,rv,rfl,hg,bn,yB⟩:=(HS.o.kept HB.o).at aB
   obtain⟨hjD,hDj⟩:=QF.o j aB;have oF:=HK.o _ (jeo aB);obtain⟨ra,rc,rfl,QM,Da⟩:=yB.form;obtain⟨b2,o2,rfl,aE,x0,x1,x2⟩:=yB.at oF;have dN:rs[j].getD k nul=rs[j][k]:=by rw[List.getD_eq_getElem?_getD,List.getElem?_eq_getElem oF];rfl
   rw[dN]at hDj;have hrc2':rc<=9223372036854775807:=by unfold maxLen at Da;omega
   have hlt':(j:Int)<(rs.length:Int):=(by omega);have hkl':(k:Int)<(rs[j].length:Int):=(by omega);have lz:jgf (D.take (j+1)=D.take j++[D[j]]):=ae (jeA hjD);have hlen':(D.take j).length<=100000:=by rw[jeq];omega
   rw[hDj]at lz;generalize rs[j][k]=fc at *;generalize D.take j=LL at *;generalize rs[j].length=rl at *;have kf:=ae (dB wr (.int .u8 (fc.1:Int)) (.int .i64 fc.2.1) (txt fc.2.2) 52);clear yB hDj dN;unfold txt at *;go_wp2_with (first | (at_builtin;refine jK rfl _ _ rfl w.heap.size _ _ fc LL rfl (HO.o.kept (ak _ _)) rfl kf.o.1 kf.o.2.1 kf.o.2.2 hlen' ?c2 ?_))
   case c2=>first | omega | (rw[jel];omega)
   intro v' w5 o5 b5;have df:=ae o5;have aQ:=ae ((HB.o.alloc bH _).trans b5);clear o5 b5;go_wp2_with fail;go_roundw
   case rel=>exact⟨j+1,by omega,by go_num,by rw[lz.o];exact df.o,aQ.o⟩
   case measure=>simp[intOf];omega
  ·obtain rfl:j=rs.length:=by omega
   rw[← pQ.o,jes]at HO;have gi:¬ ((rs.length:Nat):Int)<(rs.length:Int):=(by omega);go_wp2_with fail;go_ret
   exact⟨⟨_,rfl,HO.o⟩,HB.o⟩
theorem Sr.cut{W:World}{b off n cap:Nat}{rs:List Row}(h:Sr W (.slice (some ⟨b,off,none⟩) n cap) rs){i m:Nat}(him:i+m<=rs.length):Sr W (.slice (some ⟨b,off+i,none⟩) m (cap-i)) ((rs.drop i).take m):=by
 obtain⟨a',cap',e,h1,h2,h4⟩:=h;simp only[Value.slice.injEq]at e;obtain⟨rfl,_,rfl⟩:=e;have hl:((rs.drop i).take m).length=m:=by rw[jeq,jeR];omega
 refine⟨_,cap-i,by rw[hl],by omega,by unfold maxLen at *;omega,fun h0=>?_⟩;obtain⟨b',off',e,h5,h6⟩:=h4 (by omega);cases e
 refine⟨b,off+i,rfl,h5,fun j hj=>?_⟩;obtain⟨rv,h7,h8⟩:=h6 (i+j) (by omega);refine⟨rv,by rw[jfr];exact h7,?_⟩;have:((rs.drop i).take m)[j]=rs[i+j]'(by omega):=by simp
 rw[this];exact h8
def ZX(W:World)(gs:List (Value×List Row)):Prop:=∀ x∈gs,Sr W x.1 x.2
theorem YH:(Tryz.prog.info? 26).map (fun i=>(i.zero,i.size,i.bytes))=some (some (.slice none 0 0),1,24):=by kernel_rfl
theorem vH{w0 w:World}{v:Value}{rs:List Row}(zg:Sr w0 v rs)(lC:Below w0.heap.size w0 w)(hl:rs.length<=1000){g:Nat}(eZ:1<=g)(gY:g<=64) :
  Calls Tryz.prog 46 #[v,.int .i64 (g:Int)] w fun e w'=>(∃ v' gs,e=.returned v'/\w'.ownsRow w.heap.size 26 1 v' gs.length (gs.map Prod.fst)/\ZX w0 gs/\gs.map Prod.snd=JL g rs)/\Below w.heap.size w w':=by
 obtain⟨i0,hi,ch,hz1',bv⟩:=jeD YH;have HS:=ae zg;obtain⟨a,cap,rfl,aW,bC⟩:=zg.form;have hcm':cap<=9223372036854775807:=by unfold maxLen at bC;omega
 have WV:=ae (fun j=>kN (n:=rs.length) (j:=j) (show 0<g by omega));have HPR:jgf (JL g rs=(List.range (nps g rs.length)).map (prt g rs)):=ae rfl;rw[HPR.o];clear HPR
 have qG:jgf (nps g rs.length<=1000):=ae (by
  rcases jeM 1000 (nps g rs.length)with h | h
  ·have:=(WV.o 1000).1 h
   have:1000*1<=1000*g:=jfm _ eZ;omega
  ·exact h)
 generalize nps g rs.length=N at *;clear zg lC bC;go_enter Tryz.func46,Tryz.ntmps46
 go_wp2_with fail;go_loopw [5,6] (fun o i wr=>∃(j:Nat) (gs:List (Value×List Row)),j<=N/\i=.int .i64 ((j*g:Nat):Int)/\gs.map Prod.snd=(List.range j).map (prt g rs)/\wr.ownsRow w.heap.size 26 1 o gs.length (gs.map Prod.fst)/\ZX w0 gs/\Below w.heap.size w wr) (fun _ i _=>rs.length+64-(intOf i).toNat)
 case atStart=>exact⟨0,[],by omega,by simp,rfl,jfb _ _ _ _,fun x hx=>by simp at hx,jej _ _⟩
 case round =>
  obtain⟨j,gs,hj,rfl,sR,aA,Qq,az⟩:=hrel;have HO:=ae aA;have HB:=ae az;have pV:=ae sR;have Zn:gs.length=j:=by have:=jep List.length sR;simpa using this
  have HGL:=ae Zn;have bH:=az.size;obtain⟨la,lc,rfl,Rf,AO⟩:=be aA;have Gm:=ae HS.o;have HSS:=ae Qq;clear aA az sR Zn Qq;by_cases aB:j<N
  ·have hjg:=(WV.o j).1 aB
   obtain⟨b,off,rv,rfl,hb,_⟩:=Gm.o.at hjg;obtain⟨p,hp⟩:∃ p,j*g=p:=⟨_,rfl⟩;have HP:=ae hp;have HPA:jgf ((j+1)*g=p+g):=ae (by rw[jeZ,jfp,hp]);rw[hp]at hjg ⊢;obtain⟨m,hm⟩:∃ m,min rs.length (p+g)-p=m:=⟨_,rfl⟩;have QR:min (rs.length:Int) ((p:Int)+(g:Int))=((p+m:Nat):Int):=(by omega)
   have HPT:jgf (prt g rs j=(rs.drop p).take m):=ae (by
    unfold prt;rw[hp];apply List.ext_getElem?
    intro q;rw[List.getElem?_take,List.getElem?_take,List.getElem?_drop];by_cases h1:q<g
    ·rw[jei h1]
     by_cases h2:q<m
     ·rw[jei h2]
     ·rw[jeh h2,List.getElem?_eq_none (by omega)]
    ·rw[jeh h1,jeh (by omega)])
   have HCU:=ae (Gm.o.cut (i:=p) (m:=m) (by omega));have hjg':(p:Int)<(rs.length:Int):=(by omega);have hlt':((p:Nat):Int)<=((p+m:Nat):Int):=(by omega);have hpc:((p+m:Nat):Int)<=(cap:Int):=(by omega);have hpm:((p+m:Nat):Int).toNat=p+m:=(by omega);have hpn:((p:Nat):Int).toNat=p:=(by omega);have hdm:p+m-p=m:=(by omega);have hw1:IntKind.i64.wrap ((p:Int)+(g:Int))=(p:Int)+(g:Int):=by rw[jeV];omega
   have hd2:((p+m:Nat):Int)-(p:Int)=(m:Int):=(by omega);have hgl3:gs.length<=1000:=by have:=HGL.o;have:=qG.o;omega
   have kf:=ae (aK wr (.slice (some ⟨b,off+p,none⟩) m (cap-p)) 26);clear hm hp;go_wp2_with (first | (at_builtin;refine jeY (w:=_) rfl _ _ 93 rfl w.heap.size 26 i0 (.slice none 0 0) 1 24 Tryz.underlying93 hi ch hz1' bv rfl (by decide) (.slice la gs.length lc) gs.length (gs.map Prod.fst) rfl ?q0 ⟨wr.heap.size,0,none⟩ 1 1 [.slice (some ⟨b,off+p,none⟩) m (cap-p)] rfl rfl ?q1 ?q2 ?q3 ?q4 ?q5 ?_))
   case q0=>exact bJ HO.o (ak _ _)
   case q1 =>
    intro j2 u hu;rw[mC];cases j2 with
    | zero =>
     simp only[List.getElem?_cons_zero,Option.some.injEq]at hu;rw[← hu];exact kf.o
    | succ j2=>simp at hu
   case q2 =>
    intro u hu;rw[jeX.1 hu];rfl
   case q3=>unfold maxLen;omega
   case q4=>omega
   case q5=>rw[jel];omega
   intro v' w5 o5 g5 _ e5;have df:=ae o5;have aQ:=ae ((HB.o.alloc bH (.cells #[.slice (some ⟨b,off+p,none⟩) m (cap-p)] 26)).grown g5 (by rw[jel];omega) (fun k hk=>(World.ownsRow.lt (bJ HO.o (ak wr (.cells #[.slice (some ⟨b,off+p,none⟩) m (cap-p)] 26))) k hk).1));clear o5 g5 e5;go_wp2_with fail;go_roundw
   case rel =>
    refine⟨j+1,gs++[(.slice (some ⟨b,off+p,none⟩) m (cap-p),prt g rs j)],by omega,by rw[HPA.o];rfl,by rw[jeE,pV.o,jfC,jeE];rfl,?_,fun x hx=>?_,aQ.o⟩
    ·rw[jem,jeE]
     exact df.o
    ·rcases jeN.1 hx with hx | hx
     ·exact HSS.o x hx
     ·rw[jeX.1 hx,HPT.o]
      exact HCU.o
   case measure=>simp[intOf];omega
  ·have hjN:¬ j*g<rs.length:=fun h=>aB ((WV.o j).2 h)
   obtain rfl:j=N:=by omega
   obtain⟨p,hp⟩:∃ p,j*g=p:=⟨_,rfl⟩;rw[hp]at hjN ⊢;have gi:¬ (p:Int)<(rs.length:Int):=(by omega);go_wp2_with fail;go_ret
   first | exact⟨⟨_,gs,rfl,HO.o,HSS.o,pV.o⟩,HB.o⟩ | exact⟨⟨_,rfl,gs,HO.o,HSS.o,pV.o⟩,HB.o⟩
theorem Gb{w:World}{v:Value}{l:List Int}(hs:Sv w v (aL l))(hl:l.length<=256)(hi:Is l) :
  Calls Tryz.prog 135 #[.int .i64 3,v] w (mP (qc l) w):=by
 have HI:jgf (Is (cI l)):=lX hi;have HS:=ae hs;have QD:=ae (xq hs hl);have HF:jgf (qc l=uv (cI l).length++(iu (cI l)++bm (l.map (pl (cI l))) (wd (l.map (pl (cI l))):Int))):=rfl;have HUR:=ae (ib l);have KX:jgf (∀ x∈l,x∈cI l):=fun x hx=>gC.2 hx
 have Vw:jgf (∀ x∈l.map (pl (cI l)),x<18446744073709551616):=xl hl;have vK:=fN l;have hps:=ln (p:=l.map (pl (cI l))) (x:=(wd (l.map (pl (cI l))):Int)) (by rw[jen];omega);have HSU:=ae (mc (lX hi)).1;obtain⟨a,cap,rfl,aW,bC⟩:=hs.form;have vZ:¬ (l.length:Int) > 256:=by omega
 clear hs hi aW bC;generalize cI l=u at *;have HP:=ae hps;clear hps;go_enter Tryz.func135,Tryz.ntmps135
 go_wp2_with fail;refine QD.o.mono ?_;rintro e w1 ⟨⟨vu,rfl,ou⟩,aH⟩;have HU1:=ae ou;have aP:=ae aH;have cK:=aH.size;obtain⟨au,cu,rfl⟩:=ou.len;clear ou aH;have VA:u.length<=256:=by omega
 go_wp2_with fail;refine(bK u.length (by omega) _).mono ?_;rintro e w2 ⟨⟨v2,rfl,o2⟩,aE⟩;have dz:=ae o2;have aN:=ae aE;clear o2 aE;have nB:=bO (n:=u.length) (by omega);generalize uv u.length=un at *;go_wp2_with fail;go_loopw [6,13] (fun b i wr=>∃ k:Nat,k<=u.length/\i=.int .i64 (k:Int)/\aD wr w1.heap.size b (un++iu (u.take k))/\Below w1.heap.size w1 wr) (fun _ i _=>u.length-(intOf i).toNat)
 case atStart=>exact⟨0,by omega,rfl,by rw[jfK,iu,jeG];exact dz.o,aN.o⟩
 case round =>
  obtain⟨k,hk,rfl,aA,az⟩:=hrel;have HO:=ae aA;have HB:=ae az;have bH:=az.size;clear aA az;by_cases aB:k<u.length
  ·have nc:(k:Int)<(u.length:Int):=by omega
   obtain⟨b,off,AQ,hb,CT⟩:=HU1.o.sv.at aB;cases AQ
   have dN:=(HB.o.cell (p:=⟨b,off+k,none⟩) hb).trans CT;clear CT;have HX:=ae (HI.o.get aB);have jG:=(mc (HI.o.take k)).1;rw[jeq]at jG;have Gl:=fC (HI.o.get aB);cases k with
   | zero =>
    have HT:=ae (Em aB);rw[je9]at dN;generalize iu (u.take 0)=acc at *;generalize u[0]=x at *;go_wp2_with fail;refine(du HX.o _).mono ?_;rintro e w3 ⟨⟨v3,rfl,jaQ⟩,aS⟩;have dd:=ae jaQ;have HOk:=ae (HO.o.kept aS);have bN:=ae (HB.o.trans (aS.mono bH));have iN:=bN.o.size;clear jaQ aS;go_wp2_with (first | (at_builtin;refine ax rfl _ _ rfl w1.heap.size _ _ (un++acc) (wv x) rfl HOk.o rfl dd.o.sv ?c1 ?c2 ?_))
    case c1=>simp;omega
    case c2=>omega
    intro v4 w4 o4 b4;have o4':aD w4 w1.heap.size v4 (un++iu (u.take 1)):=by rw[HT.o,← jez];simpa using o4
    have eY:=ae o4';have cp:=ae (bN.o.trans b4);clear o4 o4' b4;go_wp2_with fail;go_roundw
    case rel=>exact⟨1,by omega,by go_num,eY.o,cp.o⟩
    case measure=>simp[intOf];omega
   | succ k =>
    obtain⟨b',off',AQ,_,jaR⟩:=HU1.o.sv.at (show k<u.length by omega);cases AQ
    have YR:=(HB.o.cell (p:=⟨b,off+k,none⟩) hb).trans jaR;clear jaR;have zi:=ae (HI.o.get (show k<u.length by omega));have jT:u[k]<u[k+1]:=jfW.1 HUR.o k (k+1) (by omega) aB (by omega);have HT:=ae (Ad aB);have h1:=HX.o;have h2:=zi.o;unfold I64 at h1 h2;have hd:(u[k+1]-u[k]).toNat<18446744073709551616:=(by omega);have Vv:=bO hd;have tQ:=mG (u[k+1]-u[k]).toNat;have qB:(((k+1:Nat):Int)==0)=false:=jev.2 (by omega);have hj1:(0:Int)<=(k:Int)+1:=(by omega);have Mw:(k:Int)+1<(u.length:Int):=(by omega);have hj3:((k:Int)+1).toNat=k+1:=(by omega);have hj4:(0:Int)<=(k:Int):=(by omega);have hj5:(k:Int)<(u.length:Int):=(by omega);have hj6:IntKind.i64.wrap ((k:Int)+1-1)=(k:Int):=by rw[jeV];omega
    have hj7:(k:Int)+1-1=(k:Int):=(by omega);have Rb:IntKind.i64.wrap (k:Int)=(k:Int):=by rw[jeV];omega
    obtain⟨X,hX⟩:∃ X,IntKind.u64.wrap u[k+1]=X:=⟨_,rfl⟩;obtain⟨Y,hY⟩:∃ Y,IntKind.u64.wrap u[k]=Y:=⟨_,rfl⟩
    have hD:IntKind.u64.wrap (X-Y)=(((u[k+1]-u[k]).toNat:Nat):Int):=by
     rw[← hX,← hY,jeP,jeP,jeP];omega
    have kY:=ae hd;clear h1 h2 hd jT;generalize u[k+1]=x at *;generalize u[k]=y at *;generalize iu (u.take (k+1))=acc at *;generalize (x-y).toNat=d at *
    have et:jgf (∀ n W',Below wr.heap.size (wr.drewN n) W'->W'.cell? ⟨b,off+(k+1),none⟩=some (.int .i64 x)/\W'.cell? ⟨b,off+k,none⟩=some (.int .i64 y)/\aD W' w1.heap.size u6 (un++acc)/\Below w1.heap.size w1 W'/\w1.heap.size<=W'.heap.size):=ae (fun n W' h=>by
     have hb':Below wr.heap.size wr W':=(ar (jej _ _) n).trans h;have lC:=HB.o.trans (hb'.mono bH);exact⟨(hb'.cell (p:=⟨b,off+(k+1),none⟩) (jeH hb bH)).trans dN,(hb'.cell (p:=⟨b,off+k,none⟩) (jeH hb bH)).trans YR,HO.o.kept hb',lC,lC.size⟩)
    have bR:(un++acc).length+(uv d).length<=100000:=by simp;omega
    go_wp2_with fail
    go_region_held3 (fun w'=>w'.cell? ⟨b,off+(k+1),none⟩=some (.int .i64 x)/\w'.cell? ⟨b,off+k,none⟩=some (.int .i64 y)) (go_keep) (first
     | (go_at_call 45;refine(bK d kY.o _).mono ?_;rintro e w2 ⟨⟨v2,rfl,cB⟩,aE⟩;obtain⟨Lj,oD,hm3,hm4,hm5⟩:=et.o _ _ aE;have VB:=ae hm3;have Qy:=ae hm4;have dz:=ae cB;clear aE hm3 hm4 cB)
     | (refine pI (by rfl) _ _ (by rfl) w1.heap.size _ _ _ (un++acc) (uv d) (by rfl) VB.o (by rfl) dz.o tQ bR hm5 ?_;intro v3 w3 o3 b3;have sN:=(b3.cell (p:=⟨b,off+(k+1),none⟩) hb).trans Lj;have nw:=(b3.cell (p:=⟨b,off+k,none⟩) hb).trans oD;have dd:=ae o3;have bN:=ae (Qy.o.trans b3);clear o3 b3))
    all_goals go_wp2_with fail
    all_goals go_roundw
    case rel=>exact⟨k+1+1,by omega,by go_num,by rw[HT.o,← jez];simpa using dd.o,bN.o⟩
    case measure=>simp[intOf];omega
  ·obtain rfl:k=u.length:=by omega
   have nc:¬ (u.length:Int)<(u.length:Int):=(by omega);rw[jes]at HO;have HUZ:=ae (HU1.o.kept HB.o);have qG:=ae (HS.o.kept (aP.o.trans (HB.o.mono cK)));generalize wr=W5 at *;go_wp2_with fail;go_loopw [12,14] (fun vp i wr=>∃ k:Nat,k<=l.length/\i=.int .i64 (k:Int)/\dJ wr W5.heap.size vp ((l.take k).map (pl u))/\Below W5.heap.size W5 wr) (fun _ i _=>l.length-(intOf i).toNat)
   case atStart=>exact⟨0,by omega,rfl,dJ.nil _ _,jej _ _⟩
   case round =>
    obtain⟨k,hk,rfl,hoP,hbP⟩:=hrel;have iT:=ae hoP;have Zz:=ae hbP;have hzP:=hbP.size;clear hoP hbP;by_cases vO:k<l.length
    ·have Lf:(k:Int)<(l.length:Int):=by omega
     obtain⟨bl,offl,rfl,fK,eX⟩:=(qG.o.kept Zz.o).at vO;have HPLC:=ae (Ji (HUZ.o.kept Zz.o).sv VA l[k] (KX.o _ (jeo vO)));have sy:=ae (jeA vO);obtain⟨ys,zk⟩:∃ ys,(l.take k).map (pl u)=ys:=⟨_,rfl⟩;have zf:ys.length<=256:=by rw[← zk,jen,jeq];omega
     rw[zk]at iT;have KZ:=ae zk;clear zk;obtain⟨q,hq⟩:∃ q,pl u l[k]=q:=⟨_,rfl⟩;rw[hq]at HPLC;have HQ:=ae hq;clear hq;generalize l[k]=x at *;have nE:=ae (iT.o.kept (dm wr (.cells #[.int .u64 (q:Int)] 92)));have fx:=ae (Zz.o.alloc hzP (.cells #[.int .u64 (q:Int)] 92));go_wp2_with fail;refine HPLC.o.mono ?_;rintro e w8 ⟨rfl,rfl⟩;go_wp2_with (first | (at_builtin;refine jO rfl _ _ rfl W5.heap.size _ _ q ys rfl nE.o rfl (aK _ _ _) ?c2 ?c3 ?_))
     case c2=>omega
     case c3=>first | omega | (rw[jel];omega)
     intro v7 w7 o7 b7;have iI:=ae o7;have ir:=ae (fx.o.trans b7);clear o7 b7;go_wp2_with fail;go_roundw
     case rel =>
      refine⟨k+1,by omega,by go_num,?_,ir.o⟩;rw[sy.o,jeE,KZ.o,List.map_singleton,HQ.o];exact iI.o
     case measure=>simp[intOf];omega
    ·obtain rfl:k=l.length:=by omega
     have Lf:¬ (l.length:Int)<(l.length:Int):=(by omega);rw[jes]at iT;obtain⟨P,hP⟩:∃ P,l.map (pl u)=P:=⟨_,rfl⟩;rw[hP]at iT Vw HF HP;have zp:=ae (HO.o.kept Zz.o);have ZA:=ae (jY iT.o.sv.sx Vw.o);have hps:=HP.o;have hsu:=HSU.o;clear hP;go_wp2_with fail;refine ZA.o.mono ?_;rintro e w8 ⟨rfl,rfl⟩;go_wp2_with fail;refine(mN iT.o.sv.sx Vw.o _).mono ?_;rintro e w9 ⟨v9,rfl,o9,pS⟩;have Vx:jgf (aD w9 w8.heap.size v9 (bm P (wd P:Int))):=o9;have HO19:=ae (zp.o.kept pS);have ny:=ae (HB.o.trans ((Zz.o.trans (pS.mono hzP)).mono bH));have YU:=ny.o.size;clear o9 pS;generalize bm P (wd P:Int)=PK at *;go_wp2_with (first | (at_builtin;refine ax rfl _ _ rfl w1.heap.size _ _ (un++iu u) PK rfl HO19.o rfl Vx.o.sv ?d1 ?d2 ?_))
     case d1=>simp;omega
     case d2=>omega
     intro vA wA oA bA
     have nE:jgf (aD wA w.heap.size vA (qc l)):=ae (by
      rw[HF.o];have:=oA.low cK;simpa using this)
     have fx:=ae (aP.o.trans ((ny.o.trans bA).mono cK));clear oA bA;go_wp2_with fail;go_ret2
     exact⟨⟨_,rfl,nE.o⟩,fx.o⟩
theorem CC{w:World}{v:Value}(hs:Sv w v (aL [])):Calls Tryz.prog 135 #[.int .i64 4,v] w (mP (lZ []) w):=by
 obtain⟨a,cap,rfl,aW,bC⟩:=hs.form;clear hs aW bC;go_enter Tryz.func135,Tryz.ntmps135
 go_wp2_with fail;go_ret2
 exact⟨⟨_,rfl,aD.nil _ _⟩,jej _ _⟩
theorem Gc{l:List Int}(h:0<(cI l).length):(cI l)[0]=ic l:=by
 unfold ic;revert h
 generalize cI l=u;intro h;cases u with
 | nil=>simp at h
 | cons y t=>rfl
theorem CD{w:World}{v:Value}{l:List Int}(hs:Sv w v (aL l))(hl:l.length<=256)(hi:Is l)(hp:0<l.length) :
  Calls Tryz.prog 135 #[.int .i64 4,v] w (mP (lZ l) w):=by
 have HI:=ae hi;have HS:=ae hs;have QD:=ae (xq hs hl);have hup:=nM hp;have HLF:=ae (Gc hup);have HE:=ae (uq hp);have sD:=ae (hi _ (ie hp));have vJ:=ae (nN (l:=l));have CJ:=ae (lY hi);have nB:=fC (hi _ (ie hp));have Mu:=Hh (lY hi);have hps:=ln (p:=dr l) (x:=(wd (dr l):Int)) (by rw[ge];omega);have kY:=ae (ge l);have HG:jgf (∀ k (h:k<l.length) (h2:k<(dr l).length),(dr l)[k]=(l[k]-ic l).toNat):=ae (fun k h h2=>by simp[dr]);have HUW:jgf (uv (wd (dr l))=[wd (dr l)]):=wL (by omega);obtain⟨a,cap,rfl,aW,bC⟩:=hs.form;have vZ:¬ (l.length:Int) > 256:=by omega
 have hlen0:((l.length:Int)==0)=false:=jev.2 (by omega);clear hs hi aW bC;obtain⟨D,hD⟩:∃ D,dr l=D:=⟨_,rfl⟩;rw[hD]at HE CJ Mu hps kY HG HUW;obtain⟨lo,hlo⟩:∃ lo,ic l=lo:=⟨_,rfl⟩;rw[hlo]at HE sD vJ HLF HG nB;clear hD hlo;go_enter Tryz.func135,Tryz.ntmps135
 go_wp2_with fail;refine QD.o.mono ?_;rintro e w1 ⟨⟨vu,rfl,ou⟩,aH⟩;have aP:=ae aH;have cK:=aH.size;obtain⟨gu,cu,rfl,_,_⟩:=oZ ou hup;obtain⟨b',off',AQ,_,Zg⟩:=ou.sv.at hup;cases AQ
 rw[HLF.o,je9]at Zg;clear ou aH;have hup3:(0:Int)<((cI l).length:Int):=by omega
 go_wp2_with fail;go_loopw [18,19] (fun vm i wr=>∃ k:Nat,k<=l.length/\i=.int .i64 (k:Int)/\dJ wr w1.heap.size vm (D.take k)/\Below w1.heap.size w1 wr) (fun _ i _=>l.length-(intOf i).toNat)
 case atStart=>exact⟨0,by omega,rfl,dJ.nil _ _,jej _ _⟩
 case round =>
  obtain⟨k,hk,rfl,hoP,hbP⟩:=hrel;have iT:=ae hoP;have Zz:=ae hbP;have hzP:=hbP.size;clear hoP hbP Zg;by_cases vO:k<l.length
  ·have Lf:(k:Int)<(l.length:Int):=by omega
   have hkD:k<D.length:=by rw[kY.o];exact vO
   obtain⟨bl,offl,rfl,fK,eX⟩:=(HS.o.kept (aP.o.trans (Zz.o.mono cK))).at vO;have sy:=ae (jeA hkD);have hval:=HG.o k vO hkD;have h1:=HI.o.get vO;have h2:=sD.o;have h3:=vJ.o _ (jeo vO);unfold I64 at h1 h2;obtain⟨X,hX⟩:∃ X,IntKind.u64.wrap l[k]=X:=⟨_,rfl⟩;obtain⟨Y,hY⟩:∃ Y,IntKind.u64.wrap lo=Y:=⟨_,rfl⟩
   have hXY:IntKind.u64.wrap (X-Y)=((D[k]:Nat):Int):=by
    rw[← hX,← hY,hval,jeP,jeP,jeP];omega
   have zf:(D.take k).length<=256:=by rw[jeq];omega
   clear hval h1 h2 h3;generalize l[k]=x at *;generalize D[k]=q at *;generalize D.take k=ys at *;have nE:=ae (iT.o.kept (dm wr (.cells #[.int .u64 (q:Int)] 92)));have fx:=ae (Zz.o.alloc hzP (.cells #[.int .u64 (q:Int)] 92));go_wp2_with (first | (at_builtin;refine jO rfl _ _ rfl w1.heap.size _ _ q ys rfl nE.o rfl (aK _ _ _) ?c2 ?c3 ?_))
   case c2=>omega
   case c3=>first | omega | (rw[jel];omega)
   intro v7 w7 o7 b7;have iI:=ae o7;have ir:=ae (fx.o.trans b7);clear o7 b7;go_wp2_with fail;go_roundw
   case rel=>exact⟨k+1,by omega,by go_num,by rw[sy.o];exact iI.o,ir.o⟩
   case measure=>simp[intOf];omega
  ·obtain rfl:k=l.length:=by omega
   have Lf:¬ (l.length:Int)<(l.length:Int):=(by omega);rw[← kY.o,jes]at iT;have ZA:=ae (jY iT.o.sv.sx CJ.o);have Qr:=ae (fun x=>mN iT.o.sv.sx CJ.o x);generalize wd D=W at *;go_wp2_with fail;refine ZA.o.mono ?_;rintro e w8 ⟨rfl,rfl⟩;go_wp2_with fail;refine(Qr.o _).mono ?_;rintro e w9 ⟨v9,rfl,o9,pS⟩;have Vx:jgf (aD w9 w8.heap.size v9 (bm D (W:Int))):=o9;have ny:=ae (aP.o.trans ((Zz.o.trans (pS.mono hzP)).mono cK));have YU:=ny.o.size;clear o9 pS;generalize bm D (W:Int)=PK at *;go_wp2_with fail;refine(du sD.o _).mono ?_;rintro e w10 ⟨⟨v10,rfl,o10⟩,Df⟩;have QO:=ae o10;have HB910:=ae Df;have vR:=ae (ny.o.trans (Df.mono YU));have hz10:=Df.size;clear o10 Df;have GI:=ae (cH w10 W);have Qs:=ae (dm w10 (.cells #[.int .u8 (W:Int)] 5));have ZB:=ae (QO.o.kept Qs.o);go_wp2_with (first | (at_builtin;refine ax rfl _ _ rfl w9.heap.size _ _ (wv lo) [W] rfl ZB.o rfl GI.o.sv ?d1 ?d2 ?_))
   case d1=>simp;omega
   case d2=>first | omega | (rw[jel];omega)
   intro vA wA oA bA;have nE:=ae oA;have HB10A:=ae ((Qs.o.mono hz10).trans bA);have jc6:=ae (HB910.o.trans HB10A.o);have HPA:=ae (Vx.o.kept jc6.o);have fx:=ae (ny.o.trans (jc6.o.mono YU));have hzA:=jc6.o.size;clear oA bA;go_wp2_with (first | (at_builtin;refine ax rfl _ _ rfl w9.heap.size _ _ (wv lo++[W]) PK rfl nE.o rfl HPA.o.sv ?e1 ?e2 ?_))
   case e1=>simp;omega
   case e2=>omega
   intro vB wB oB bB
   have AV:jgf (aD wB w.heap.size vB (lZ l)):=ae (by
    rw[HE.o,HUW.o];have:=oB.low YU;simpa using this)
   have fX:=ae (fx.o.trans (bB.mono YU));clear oB bB;go_wp2_with fail;go_ret2
   exact⟨⟨_,rfl,AV.o⟩,fX.o⟩
theorem Gd{w:World}{v:Value}{l:List Int}(hs:Sv w v (aL l))(hl:l.length<=256)(hi:Is l):Calls Tryz.prog 135 #[.int .i64 4,v] w (mP (lZ l) w):=by
 rcases jfa l.length with h0 | h0
 ·obtain rfl:l=[]:=jeI h0
  exact CC hs
 ·exact CD hs hl hi h0
theorem sp{w:World}{v:Value}{l:List Int}(hs:Sv w v (aL l))(c:Nat)(hno:¬ (c<=4/\l.length<=256)) :
  Calls Tryz.prog 135 #[.int .i64 (c:Int),v] w fun e w'=>(∃ v',e=.returned (.tuple #[v',.bool false])/\aD w' w.heap.size v' [])/\Below w.heap.size w w':=by
 obtain⟨a,cap,rfl,aW,bC⟩:=hs.form;have hm:l.length<=9223372036854775807:=by unfold maxLen at bC;omega
 clear hs aW bC;by_cases h5:(c:Int) > 4
 ·go_enter Tryz.func135,Tryz.ntmps135
  go_wp2_with fail;go_ret2
  exact⟨⟨_,rfl,aD.nil _ _⟩,jej _ _⟩
 ·have vZ:(l.length:Int) > 256:=by omega
  go_enter Tryz.func135,Tryz.ntmps135
  go_wp2_with fail;go_ret2
  exact⟨⟨_,rfl,aD.nil _ _⟩,jej _ _⟩
theorem zc{w:World}{v:Value}{l:List Int}(hs:Sv w v (aL l))(hi:Is l)(c:Nat) :
  Calls Tryz.prog 135 #[.int .i64 (c:Int),v] w fun e w'=>(∃ v',e=.returned (.tuple #[v',.bool (decide (c<=4/\l.length<=256))])/\aD w' w.heap.size v' (En c l))/\Below w.heap.size w w':=by
 by_cases h:c<=4/\l.length<=256
 ·rw[jeB h]
  unfold En;rw[jei h];obtain⟨h4,hl⟩:=h;obtain rfl | rfl | rfl | rfl | rfl:c=0∨c=1∨c=2∨c=3∨c=4:=by omega
  ·exact Ew hs hl hi
  ·exact Ex hs hl hi
  ·exact Ey hs hl hi
  ·exact Gb hs hl hi
  ·exact Gd hs hl hi
 ·rw[jeu h]
  unfold En;rw[jeh h];exact sp hs c h
theorem UZ(l:List Int)(k:Nat):bst l (k+1)=if k=0 then [k]++iv k l else if (iv k l).length+1<(bst l k).length then [k]++iv k l else bst l k:=by
 cases k with
 | zero=>rfl
 | succ k=>rw[jeh (by omega)];rfl
theorem Ge{w:World}{v:Value}{l:List Int}(hs:Sv w v (aL l))(hl:l.length<=256)(hi:Is l) :
  Calls Tryz.prog 88 #[v] w fun e w'=>(∃ v',e=.returned (.tuple #[v',.bool true])/\aD w' w.heap.size v' (jL l 4))/\Below w.heap.size w w':=by
 have HS:=ae hs;obtain⟨a,cap,rfl,aW,bC⟩:=hs.form
 have qG:jgf (∀ k,(bst l k).length<=5131):=by
  intro k;cases k with
  | zero=>simp[bst]
  | succ k =>
   obtain⟨c,_,e⟩:=jx l k;rw[bst,e];have:=(eI c hi hl).1;simp
   omega
 have HESZ:jgf (∀ k,(iv k l).length<=5130):=fun k=>(eI k hi hl).1
 have HEN:jgf (∀ W (k:Nat),k<=4->Sv W (.slice a l.length cap) (aL l)->Calls Tryz.prog 135 #[.int .i64 (k:Int),.slice a l.length cap] W fun e w'=>(∃ v',e=.returned (.tuple #[v',.bool true])/\aD w' W.heap.size v' (iv k l))/\Below W.heap.size W w'):=ae (fun W k hk h=>by
  have:=zc h hi k;rwa[jeB (⟨hk,hl⟩:k<=4/\l.length<=256),show En k l=iv k l from jei ⟨hk,hl⟩]at this)
 clear hs aW bC hi;go_enter Tryz.func88,Tryz.ntmps88
 go_wp2_with fail;go_loopw [4,5] (fun b i wr=>∃ k:Nat,k<=5/\i=.int .i64 (k:Int)/\aD wr w.heap.size b (bst l k)/\Below w.heap.size w wr) (fun _ i _=>5-(intOf i).toNat)
 case atStart=>exact⟨0,by omega,rfl,aD.nil _ _,jej _ _⟩
 case round =>
  obtain⟨k,hk,rfl,aA,az⟩:=hrel;have HO:=ae aA;have HB:=ae az;have bH:=az.size;obtain⟨ab,cb,rfl⟩:=aA.len;have fK:=qG.o k;have hel:=HESZ.o k;have HT:=ae (UZ l k);clear aA az;by_cases hk5:(k:Int)<5
  ·have HENk:=ae (HEN.o wr k (by omega) (HS.o.kept HB.o))
   generalize bst l k=B0 at *;generalize iv k l=EC at *;go_wp2_with fail;refine HENk.o.mono ?_;rintro e w3 ⟨⟨v3,rfl,fW⟩,aS⟩;have dd:=ae fW;have bN:=ae (HB.o.trans (aS.mono bH));have AV:=ae (HO.o.kept aS);have iN:=bN.o.size;obtain⟨a3,c3,rfl⟩:=fW.len;clear fW aS;have nz:=ae (cH w3 k);have fx:=ae (dm w3 (.cells #[.int .u8 (k:Int)] 5));have Rq:=ae (dd.o.kept fx.o);by_cases qB:((k:Int)==0)=true
   ·have hk0':k=0:=by simpa using qB
    have Bc:jgf (bst l (k+1)=[k]++EC):=ae (by rw[HT.o,jei hk0']);clear hk0';go_wp2_with (first | (at_builtin;refine ax rfl _ _ rfl w3.heap.size _ _ [k] EC rfl nz.o rfl Rq.o.sv ?c1 ?c2 ?_))
    case c1=>simp;omega
    case c2=>first | omega | (rw[jel];omega)
    intro v4 w4 o4 b4;have eY:=ae (o4.low iN);have cp:=ae (bN.o.trans ((fx.o.trans b4).mono iN));clear o4 b4;go_wp2_with fail;go_roundw
    case rel=>exact⟨k+1,by omega,by go_num,by rw[Bc.o];exact eY.o,cp.o⟩
    case measure=>simp[intOf];omega
   ·have hk0f:((k:Int)==0)=false:=by simpa using qB
    have hk0':¬ k=0:=by simpa using qB
    by_cases aB:EC.length+1<B0.length
    ·have Bc:jgf (bst l (k+1)=[k]++EC):=ae (by rw[HT.o,jeh hk0',jei aB])
     have CY:(EC.length:Int)+1<(B0.length:Int):=(by omega);clear hk0' qB aB;go_wp2_with (first | (at_builtin;refine ax rfl _ _ rfl w3.heap.size _ _ [k] EC rfl nz.o rfl Rq.o.sv ?c1 ?c2 ?_))
     case c1=>simp;omega
     case c2=>first | omega | (rw[jel];omega)
     intro v4 w4 o4 b4;have eY:=ae (o4.low iN);have cp:=ae (bN.o.trans ((fx.o.trans b4).mono iN));clear o4 b4;go_wp2_with fail;go_roundw
     case rel=>exact⟨k+1,by omega,by go_num,by rw[Bc.o];exact eY.o,cp.o⟩
     case measure=>simp[intOf];omega
    ·have Bc:jgf (bst l (k+1)=B0):=ae (by rw[HT.o,jeh hk0',jeh aB])
     have CY:¬ (EC.length:Int)+1<(B0.length:Int):=(by omega);clear hk0' qB aB;go_wp2_with fail;go_roundw
     case rel=>exact⟨k+1,by omega,by go_num,by rw[Bc.o];exact AV.o,bN.o⟩
     case measure=>simp[intOf];omega
  ·obtain rfl:k=5:=by omega
   go_wp2_with fail;go_ret2
   exact⟨⟨_,rfl,HO.o⟩,HB.o⟩
theorem KG{w:World}{v:Value}{l:List Int}(hs:Sv w v (aL l))(hi:Is l)(hl:¬ l.length<=256) :
  Calls Tryz.prog 88 #[v] w fun e w'=>(∃ v',e=.returned (.tuple #[v',.bool false])/\aD w' w.heap.size v' [])/\Below w.heap.size w w':=by
 have HEN:=ae (sp hs 0 (fun h=>hl h.2));clear hs hi hl;go_enter Tryz.func88,Tryz.ntmps88
 go_wp2_with fail;refine wp_loop_rounds 1 ?_;rw[rounds_succ];go_wp2_with fail;refine HEN.o.mono ?_;rintro e w3 ⟨⟨v3,rfl,fW⟩,aS⟩;go_wp2_with fail;go_ret2
 exact⟨⟨_,rfl,aD.nil _ _⟩,aS⟩
theorem jF{w:World}{v:Value}{l:List Int}(hs:Sv w v (aL l))(hi:Is l) :
  Calls Tryz.prog 88 #[v] w fun e w'=>(∃ v',e=.returned (.tuple #[v',.bool (decide (l.length<=256))])/\aD w' w.heap.size v' (EJ l))/\Below w.heap.size w w':=by
 unfold EJ;by_cases h:l.length<=256
 ·rw[jeB h,jei h]
  exact Ge hs h hi
 ·rw[jeu h,jeh h]
  exact KG hs hi h
def sq(x:List Nat)(u pre:List (List Nat))(d:Bool)(k:Nat):Prop:=pre++(if d then u.drop k else jM x (u.drop k))=jM x u
theorem sq.step{x:List Nat}{u pre:List (List Nat)}{d:Bool}{k:Nat}(h:sq x u pre d k)(hk:k<u.length) :
  (d=true->sq x u (pre++[u[k]]) true (k+1))/\(d=false->u[k]=x->sq x u (pre++[u[k]]) true (k+1))/\(d=false->x<u[k]->sq x u ((pre++[x])++[u[k]]) true (k+1))/\(d=false->u[k]≠x->¬ x<u[k]->sq x u (pre++[u[k]]) false (k+1)):=by
 unfold sq at *;rw[je1 hk]at h;refine⟨fun hd=>?_,fun hd he=>?_,fun hd he=>?_,fun hd he hn=>?_⟩
 ·subst hd
  rw[jei rfl]at h ⊢;rw[← h];simp
 ·subst hd
  rw[jeh (by simp),jM,jei he.symm]at h;rw[jei rfl,← h];simp
 ·subst hd
  rw[jeh (by simp),jM,jeh (fun e=>jfU u[k] (by rw[e]at he;exact he)),jei he]at h;rw[jei rfl,← h];simp
 ·subst hd
  rw[jeh (by simp),jM,jeh (fun e=>he e.symm),jeh hn]at h;rw[jeh (by simp),← h];simp
theorem sq.last{x:List Nat}{u pre:List (List Nat)}{d:Bool}(h:sq x u pre d u.length):(d=true->pre=jM x u)/\(d=false->pre++[x]=jM x u):=by
 unfold sq at h;rw[jfg]at h;refine⟨fun hd=>?_,fun hd=>?_⟩
 ·subst hd
  simpa using h
 ·subst hd
  simpa [jM]using h
theorem sq.len{x:List Nat}{u pre:List (List Nat)}{d:Bool}{k:Nat}(h:sq x u pre d k):pre.length<=u.length+1:=by
 unfold sq at h;have h1:=jep List.length h;have h2:=nO (x:=x) (u:=u);rw[jem]at h1;omega
theorem uN{w:World}{v:Value}{l:List (List Nat)}(hs:Sv w v (cC l))(hl:l.length<=256)(hb:∀ s∈l,Bs s) :
  Calls Tryz.prog 89 #[v] w fun e w'=>(∃ v',e=.returned v'/\eL w' w.heap.size v' (tuq l))/\Below w.heap.size w w':=by
 have HS:=ae hs;have sO:=ae hb;obtain⟨a,cap,rfl,aW,bC⟩:=hs.form1;rw[dP]at *;have hcm':cap<=9223372036854775807:=by unfold maxLen at bC;omega
 clear hs bC hb;go_enter Tryz.func89,Tryz.ntmps89
 go_wp2_with fail;go_loopw [3,4] (fun vo i wr=>∃ k:Nat,k<=l.length/\i=.int .i64 (k:Int)/\eL wr w.heap.size vo (tuq (l.take k))/\Below w.heap.size w wr) (fun _ i _=>l.length-(intOf i).toNat)
 case atStart=>exact⟨0,by omega,rfl,eL.nil _ _,jej _ _⟩
 case round =>
  obtain⟨i,hi,rfl,how,az⟩:=hrel;have HO:=ae how;have HB:=ae az;have bH:=az.size;obtain⟨ao,co,rfl,hco,hcom⟩:=aO how;have hcom':co<=9223372036854775807:=by unfold maxLen at hcom;omega
  clear how az;by_cases aB:i<l.length
  ·have nc:(i:Int)<(l.length:Int):=by omega
   have HU:=ae (yI aB);have vK:=fO (l.take i);rw[jeq]at vK;obtain⟨bl,offl,rfl,fK,eX⟩:=(HS.o.kept HB.o).at1 (cO aB);rw[dM]at eX;have mz:=ae (sO.o l[i] (jeo aB));have HBU:jgf (∀ s∈tuq (l.take i),Bs s):=ae (fun s hs=>sO.o s (je2 (jr.1 hs)));generalize l[i]=x at *;generalize tuq (l.take i)=u at *;have VA:u.length<=256:=(by omega);generalize wr=W1 at *;go_wp2_with fail;go_loopw [5,6,7] (fun vn vd j wq=>∃(k:Nat) (pre:List (List Nat)) (d:Bool),k<=u.length/\j=.int .i64 (k:Int)/\vd=.bool d/\eL wq W1.heap.size vn pre/\sq x u pre d k/\Below W1.heap.size W1 wq) (fun _ _ j _=>u.length-(intOf j).toNat)
   case atStart=>exact⟨0,[],false,by omega,rfl,rfl,eL.nil _ _,rfl,jej _ _⟩
   case round =>
    obtain⟨k,pre,d,hk,rfl,rfl,hon,hia,vP⟩:=hrel;have AP:=ae hon;have HIA:=ae hia;have pu:=ae vP;have zl:=vP.size;have kV:=hia.len;obtain⟨an,cn,rfl,_,_⟩:=aO hon;clear hon hia vP;have fx:jgf (∀ n z,Below W1.heap.size W1 ((wr.drewN n).alloc (.cells #[.string (am z)] 9))):=fun n z=>(ar pu.o n).alloc zl _
    have Lg:jgf (∀ n z,W1.heap.size<=((wr.drewN n).alloc (.cells #[.string (am z)] 9)).heap.size):=fun n z=>by rw[jel];exact Nat.le_succ_of_le zl
    have nE:jgf (∀ n z,eL ((wr.drewN n).alloc (.cells #[.string (am z)] 9)) W1.heap.size (.slice an pre.length cn) pre):=fun n z=>(AP.o.kept (ar (jej _ _) n)).kept (dm _ _)
    by_cases oF:k<u.length
    ·have jcg:(k:Int)<(u.length:Int):=by omega
     obtain⟨b2,off2,AQ,aE,Gu⟩:=HO.o.sv.at1 (cO oF);rw[dM]at Gu;have Dn:=ae (HBU.o u[k] (jeo oF));cases AQ
     have ke:=(pu.o.cell (p:=⟨b2,off2+k,none⟩) aE).trans Gu;have jch:=(pu.o.cell (p:=⟨bl,offl+i,none⟩) fK).trans eX;have HSt:=ae (HIA.o.step oF);have jci:=ae Gu;clear HIA Gu;generalize u[k]=y at *
     have CV:jgf (((am y).toList==(am x).toList)=decide (y=x)):=ae (by
      rw[bI,bI];by_cases e:y=x
      ·rw[e];simp
      ·rw[jeu e]
       exact jev.2 (fun h=>e (by rw[← fE Dn.o,← fE mz.o,h])))
     have GI:jgf (Op.bytesLess (am x).toList (am y).toList=decide (x<y)):=ae (by
      rw[bI,bI];exact nK mz.o Dn.o)
     cases d with
     | true =>
      have sK:=ae (HSt.o.1 rfl);by_cases yt:y=x
      ·have Lh:((am y).toList==(am x).toList)=true:=CV.o.trans (jeB yt)
       clear yt;go_wp2_with fail;go_quiet (fail)
       go_wp2_with fail;go_quiet (fail)
       go_wp2_with (first | (at_builtin;refine cd rfl _ _ rfl W1.heap.size _ _ y pre rfl (nE.o _ y) rfl (aK _ _ _) ?c2 ?c3 ?_))
       case c2=>omega
       case c3=>first | omega | exact Lg.o _ _
       intro v7 w7 o7 b7;have iI:=ae o7;have ir:=ae ((fx.o _ y).trans b7);clear o7 b7;go_wp2_with fail;go_roundw
       case rel=>exact⟨k+1,_,true,by omega,by go_num,rfl,iI.o,sK.o,ir.o⟩
       case measure=>simp[intOf];omega
      ·have jcj:((am y).toList==(am x).toList)=false:=CV.o.trans (jeu yt)
       clear yt;go_wp2_with fail;go_quiet (fail)
       go_wp2_with fail;go_quiet (fail)
       go_wp2_with (first | (at_builtin;refine cd rfl _ _ rfl W1.heap.size _ _ y pre rfl (nE.o _ y) rfl (aK _ _ _) ?c2 ?c3 ?_))
       case c2=>omega
       case c3=>first | omega | exact Lg.o _ _
       intro v7 w7 o7 b7;have iI:=ae o7;have ir:=ae ((fx.o _ y).trans b7);clear o7 b7;go_wp2_with fail;go_roundw
       case rel=>exact⟨k+1,_,true,by omega,by go_num,rfl,iI.o,sK.o,ir.o⟩
       case measure=>simp[intOf];omega
     | false =>
      by_cases yt:y=x
      ·have sK:=ae (HSt.o.2.1 rfl yt)
       have Lh:((am y).toList==(am x).toList)=true:=CV.o.trans (jeB yt);clear yt;go_wp2_with fail;go_quiet (fail)
       go_wp2_with fail;go_quiet (fail)
       go_wp2_with (first | (at_builtin;refine cd rfl _ _ rfl W1.heap.size _ _ y pre rfl (nE.o _ y) rfl (aK _ _ _) ?c2 ?c3 ?_))
       case c2=>omega
       case c3=>first | omega | exact Lg.o _ _
       intro v7 w7 o7 b7;have iI:=ae o7;have ir:=ae ((fx.o _ y).trans b7);clear o7 b7;go_wp2_with fail;go_roundw
       case rel=>exact⟨k+1,_,true,by omega,by go_num,rfl,iI.o,sK.o,ir.o⟩
       case measure=>simp[intOf];omega
      ·have jcj:((am y).toList==(am x).toList)=false:=CV.o.trans (jeu yt)
       have Li:y≠x:=yt;clear yt;by_cases Di:x<y
       ·have jck:Op.bytesLess (am x).toList (am y).toList=true:=GI.o.trans (jeB Di)
        have sK:=ae (HSt.o.2.2.1 rfl Di);clear Li Di;go_wp2_with fail;go_quiet (fail)
        go_wp2_with fail;go_quiet (fail)
        go_wp2_with (first | (at_builtin;refine cd rfl _ _ rfl W1.heap.size _ _ x pre rfl (nE.o _ x) rfl (aK _ _ _) ?c2 ?c3 ?_))
        case c2=>omega
        case c3=>first | omega | exact Lg.o _ _
        intro v6 w6 o6 b6;have my:=ae o6;have gW:=ae ((fx.o _ x).trans b6);have hc6:=(gW.o.cell (p:=⟨b2,off2+k,none⟩) aE).trans jci.o;have Gq:=gW.o.size;have AV:=ae (o6.kept (dm w6 (.cells #[.string (am y)] 9)));clear o6 b6;go_wp2_with (first | (at_builtin;refine cd rfl _ _ rfl W1.heap.size _ _ y (pre++[x]) rfl AV.o rfl (aK _ _ _) ?c2 ?c3 ?_))
        case c2=>simp;omega
        case c3=>first | omega | (rw[jel];omega)
        intro v7 w7 o7 b7;have o7':eL w7 W1.heap.size v7 (pre++[x]++[y]):=by simpa using o7
        have iI:=ae o7';have ir:=ae ((gW.o.alloc Gq (.cells #[.string (am y)] 9)).trans b7);clear o7 o7' b7;go_wp2_with fail;go_roundw
        case rel=>exact⟨k+1,_,true,by omega,by go_num,rfl,iI.o,sK.o,ir.o⟩
        case measure=>simp[intOf];omega
       ·have jck:Op.bytesLess (am x).toList (am y).toList=false:=GI.o.trans (jeu Di)
        have sK:=ae (HSt.o.2.2.2 rfl Li Di);clear Li Di;go_wp2_with fail;go_quiet (fail)
        go_wp2_with fail;go_quiet (fail)
        go_wp2_with (first | (at_builtin;refine cd rfl _ _ rfl W1.heap.size _ _ y pre rfl (nE.o _ y) rfl (aK _ _ _) ?c2 ?c3 ?_))
        case c2=>omega
        case c3=>first | omega | exact Lg.o _ _
        intro v7 w7 o7 b7;have iI:=ae o7;have ir:=ae ((fx.o _ y).trans b7);clear o7 b7;go_wp2_with fail;go_roundw
        case rel=>exact⟨k+1,_,false,by omega,by go_num,rfl,iI.o,sK.o,ir.o⟩
        case measure=>simp[intOf];omega
    ·obtain rfl:k=u.length:=by omega
     have jcg:¬ (u.length:Int)<(u.length:Int):=(by omega);have Re:=ae HIA.o.last;cases d with
     | true =>
      have e:=Re.o.1 rfl;have jcl:jgf (eL wr w.heap.size (.slice an pre.length cn) (tuq (l.take (i+1)))):=ae (by rw[HU.o,← e];exact bg AP.o bH);clear e;go_wp2_with fail;go_roundw
      case rel=>exact⟨i+1,by omega,by go_num,jcl.o,HB.o.trans (pu.o.mono bH)⟩
      case measure=>simp[intOf];omega
     | false =>
      have HE:=ae (Re.o.2 rfl);have jch:=(pu.o.cell (p:=⟨bl,offl+i,none⟩) fK).trans eX;have zp:=ae (AP.o.kept (dm wr (.cells #[.string (am x)] 9)));have tW:=ae (pu.o.alloc zl (.cells #[.string (am x)] 9));go_wp2_with (first | (at_builtin;refine cd rfl _ _ rfl W1.heap.size _ _ x pre rfl zp.o rfl (aK _ _ _) ?c2 ?c3 ?_))
      case c2=>omega
      case c3=>first | omega | (rw[jel];omega)
      intro v7 w7 o7 b7;have iI:jgf (eL w7 w.heap.size v7 (tuq (l.take (i+1)))):=ae (by rw[HU.o,← HE.o];exact bg o7 bH);have ir:=ae (HB.o.trans ((tW.o.trans b7).mono bH));clear o7 b7;go_wp2_with fail;go_roundw
      case rel=>exact⟨i+1,by omega,by go_num,iI.o,ir.o⟩
      case measure=>simp[intOf];omega
  ·obtain rfl:i=l.length:=by omega
   have nc:¬ (l.length:Int)<(l.length:Int):=(by omega);rw[jes]at HO;go_wp2_with fail;go_ret
   exact⟨⟨_,rfl,HO.o⟩,HB.o⟩
def Ap(a b:Value):Prop:=∀ g,a.ownBlock=some g->b.ownBlock≠some g
theorem Ap.symm{a b:Value}(h:Ap a b):Ap b a:=fun g hg h2=>h g h2 hg
theorem Ap.of_types{w:World}{B B' e e' n n':Nat}{v v':Value}{xs xs':List Value}(h:w.ownsRow B e 1 v n xs)(h':w.ownsRow B' e' 1 v' n' xs')(fJ:e≠e'):Ap v v':=by
 intro g hg hg';obtain⟨_,⟨rfl,_⟩ | ⟨k,cap,cur,rfl,_,h3,_⟩⟩:=h
 ·cases hg
 ·obtain⟨_,⟨rfl,_⟩ | ⟨k',cap',cur',rfl,_,h3',_⟩⟩:=h'
  ·cases hg'
  ·cases hg
   cases hg'
   rw[h3]at h3';cases h3'
   exact fJ rfl
theorem dE{W w':World}{B e n:Nat}{v u:Value}{xs:List Value}(h:W.ownsRow B e 1 v n xs)(hg:W.grownBy w' u.ownBlock)(ha:Ap v u):w'.ownsRow B e 1 v n xs:=by
 refine h.kept hg ?_;cases hv:v.ownBlock with
 | none=>exact Or.inl rfl
 | some g=>exact Or.inr (fun e=>ha g hv e.symm)
theorem Ap.grow{a a' b:Value}{n:Nat}(h:Ap a b)(hn:a'.ownBlock=a.ownBlock∨a'.ownBlock=some n)(hb:∀ k,b.ownBlock=some k->k<n):Ap a' b:=by
 intro g hg gY;rcases hn with hn | hn
 ·exact h g (by rw[← hn];exact hg) gY
 ·have e:n=g:=Option.some.inj (hn.symm.trans hg)
  have:=hb g gY;omega
theorem mx{w:World}{ops:Array Oper}{rest:List Oper}{o:Oper}{a:Act}{Q:Exit->Act->World->Prop}(dY:o.guard=none)(s x:Operand)
  (ho:o.op=.call { callee:=.builtin .append,args:=#[s,x],argTypes:=#[143,143] })
  (base:Nat) (v:Value) (g:Nat) (z:Int) (l0:List Int) (hs:a.eval s=v) (aA:bF w base v l0) (hx:a.eval x=.slice (some ⟨g,0,none⟩) 1 1) (hc:w.cell? ⟨g,0,none⟩=some (.int .i64 z))
  (hbytes:l0.length<=100000) (aI:base<=w.heap.size)
  (h:∀ v' w',bF w' base v' (l0++[z])->w.grownBy w' v.ownBlock->wpList Tryz.prog ops Q rest (a.put o.dst v') w') :
  wpList Tryz.prog ops Q (o::rest) a w:=by
 obtain⟨i0,hi,ch,hz1',bv⟩:=jeD Ag;unfold bF at *
 refine jeY (w:=w) dY s x 143 ho base 2 i0 (.int .i64 0) 1 8 Tryz.underlying143 hi ch hz1' bv rfl (by decide) v l0.length (aL l0) hs aA ⟨g,0,none⟩ 1 1 [.int .i64 z] hx rfl ?_ (fun u hu=>by
  have:u=.int .i64 z:=by simpa using hu
  subst this;rfl) (by unfold maxLen;omega) (by omega) aI ?_
 ·intro j u hu
  rw[mC];cases j with
  | zero =>
   simp only[List.getElem?_cons_zero,Option.some.injEq]at hu;rw[← hu];exact hc
  | succ j=>simp at hu
 ·intro v' w' o1 g1 _ _
  refine h v' w' ?_ g1;rw[rt,jem];exact o1
theorem jm{w:World}{ops:Array Oper}{rest:List Oper}{o:Oper}{a:Act}{Q:Exit->Act->World->Prop}(dY:o.guard=none)(s x:Operand)
  (ho:o.op=.call { callee:=.builtin .append,args:=#[s,x],argTypes:=#[142,142] })
  (base:Nat) (v:Value) (g:Nat) (z:Nat) (l0:List Nat) (hs:a.eval s=v) (aA:dJ w base v l0) (hx:a.eval x=.slice (some ⟨g,0,none⟩) 1 1) (hc:w.cell? ⟨g,0,none⟩=some (.int .u64 (z:Int)))
  (hbytes:l0.length<=100000) (aI:base<=w.heap.size)
  (h:∀ v' w',dJ w' base v' (l0++[z])->w.grownBy w' v.ownBlock->(v'.ownBlock=v.ownBlock∨v'.ownBlock=some w.heap.size)->wpList Tryz.prog ops Q rest (a.put o.dst v') w') :
  wpList Tryz.prog ops Q (o::rest) a w:=by
 obtain⟨i0,hi,ch,hz1',bv⟩:=jeD pZ;unfold dJ at *
 refine jeY (w:=w) dY s x 142 ho base 92 i0 (.int .u64 0) 1 8 Tryz.underlying142 hi ch hz1' bv rfl (by decide) v l0.length (aF .u64 l0) hs aA ⟨g,0,none⟩ 1 1 [.int .u64 (z:Int)] hx rfl ?_ (fun u hu=>by
  have:u=.int .u64 (z:Int):=by simpa using hu
  subst this;rfl) (by unfold maxLen;omega) (by omega) aI ?_
 ·intro j u hu
  rw[mC];cases j with
  | zero =>
   simp only[List.getElem?_cons_zero,Option.some.injEq]at hu;rw[← hu];exact hc
  | succ j=>simp at hu
 ·intro v' w' o1 g1 _ g2
  refine h v' w' ?_ g1 g2;rw[ct,jem];exact o1
theorem sw{w:World}{ops:Array Oper}{rest:List Oper}{o:Oper}{a:Act}{Q:Exit->Act->World->Prop}(dY:o.guard=none)(s x:Operand)
  (ho:o.op=.call { callee:=.builtin .append,args:=#[s,x],argTypes:=#[144,144] })
  (base:Nat) (v:Value) (g:Nat) (z:List Nat) (l0:List (List Nat)) (hs:a.eval s=v) (aA:eL w base v l0) (hx:a.eval x=.slice (some ⟨g,0,none⟩) 1 1) (hc:w.cell? ⟨g,0,none⟩=some (txt z))
  (hbytes:l0.length<=100000) (aI:base<=w.heap.size)
  (h:∀ v' w',eL w' base v' (l0++[z])->w.grownBy w' v.ownBlock->wpList Tryz.prog ops Q rest (a.put o.dst v') w') :
  wpList Tryz.prog ops Q (o::rest) a w:=by
 obtain⟨i0,hi,ch,hz1',bv⟩:=jeD ZS;unfold eL at *
 refine jeY (w:=w) dY s x 144 ho base 9 i0 (.string ⟨#[]⟩) 1 16 Tryz.underlying144 hi ch hz1' bv rfl (by decide) v l0.length (cC l0) hs aA ⟨g,0,none⟩ 1 1 [txt z] hx rfl ?_ (fun u hu=>by
  have:u=txt z:=by simpa using hu
  subst this;rfl) (by unfold maxLen;omega) (by omega) aI ?_
 ·intro j u hu
  rw[mC];cases j with
  | zero =>
   simp only[List.getElem?_cons_zero,Option.some.injEq]at hu;rw[← hu];exact hc
  | succ j=>simp at hu
 ·intro v' w' o1 g1 _ _
  refine h v' w' ?_ g1;rw[pN,jem];exact o1
theorem tM{w:World}{ops:Array Oper}{rest:List Oper}{o:Oper}{a:Act}{Q:Exit->Act->World->Prop}(dY:o.guard=none)(s x:Operand)
  (ho:o.op=.call { callee:=.builtin .append,args:=#[s,x],argTypes:=#[30,9] })
  (base:Nat) (v:Value) (l0 z:List Nat) (hs:a.eval s=v) (aA:aD w base v l0) (hx:a.eval x=.string (am z)) (hz:Bs z)
  (hbytes:l0.length+z.length<=140737488355328) (aI:base<=w.heap.size)
  (h:∀ v' w',aD w' base v' (l0++z)->w.grownBy w' v.ownBlock->wpList Tryz.prog ops Q rest (a.put o.dst v') w') :
  wpList Tryz.prog ops Q (o::rest) a w:=by
 obtain⟨i0,hi,ch,hz1',bv⟩:=jeD jv;unfold aD at *;refine wpList_append_own_string (w:=w) dY s x 30 9 ho base 5 i0 Tryz.underlying30 Tryz.underlying9 hi ch hz1' bv v l0.length (aF .u8 l0) hs aA (am z) hx (by rw[bi];unfold maxLen;omega) (by rw[bi];exact hbytes) aI ?_;intro v' w' o1 g1 _;refine h v' w' ?_ g1;rw[bi]at o1
 have e:strCells (am z)=aF .u8 z:=by
  unfold strCells am aF;simp only[jeW];apply jff
  intro y hy;have:=hz y hy;simp[jfd this]
 rw[e]at o1;rw[ct,jem];exact o1
theorem tN{w:World}{v:Value}{l:List Nat}(hs:Sv w v (aF .u64 l))(h2:∀ x∈l,x<18446744073709551616):Calls Tryz.prog 87 #[v] w (dA w (bm l 1)):=by
 have HB:=ae (mN hs.sx h2 1);clear hs h2;generalize bm l 1=bs at *;generalize can l 1=bb at *;go_enter Tryz.func87,Tryz.ntmps87
 go_wp2_with fail;refine HB.o.mono ?_;rintro e w1 ⟨v1,rfl,ei,aH⟩;have eO:=ae ei;have aP:=ae aH;clear ei aH;go_wp2_with fail;go_ret
 exact⟨⟨_,rfl,eO.o⟩,aP.o⟩
theorem yc{w:World}{v:Value}{l:List Int}(hs:Sv w v (aL l))(hl:l.length<=256)(hi:Is l):Calls Tryz.prog 136 #[v] w (dA w (cnt l)):=by
 have HB:=ae (jF hs hi);rw[kp hl]at HB;have bR:=gL hi hl;have kf:jgf (cnt l=uv (cV l).length++cV l):=rfl;clear hs hi;generalize cnt l=cn at *;generalize cV l=bs at *;have nB:=bO (n:=bs.length) (by omega);have HP:=ae (bK bs.length (by omega));go_enter Tryz.func136,Tryz.ntmps136
 go_wp2_with fail;refine HB.o.mono ?_;rintro e w1 ⟨⟨v1,rfl,ei⟩,aH⟩;have eO:=ae ei;have aP:=ae aH;have cK:=aH.size;obtain⟨a1,c1,rfl⟩:=ei.len;clear ei aH;go_wp2_with fail;refine(HP.o _).mono ?_;rintro e w2 ⟨⟨v2,rfl,ft⟩,aE⟩;have dz:=ae (ft.low cK);have aN:=ae aE;have bv:=aE.size;clear ft aE;go_wp2_with (first | (at_builtin;refine ax rfl _ _ rfl w.heap.size _ _ (uv bs.length) bs rfl dz.o rfl (eO.o.kept aN.o).sv ?c1 ?c2 ?_))
 case c1=>omega
 case c2=>omega
 intro v4 w4 o4 b4;have eY:=ae o4;have cp:=ae ((aP.o.trans (aN.o.mono cK)).trans b4);clear o4 b4;go_wp2_with fail;go_ret
 rw[kf.o];exact⟨⟨_,rfl,eY.o⟩,cp.o⟩
theorem vI{l:List (List Nat)}{k:Nat}(h:k<l.length):em (l.take (k+1))=em (l.take k)++[((am l[k]).size:Int)]:=by
 unfold em;rw[jeA h,jeE,bi];rfl
theorem jZ{w:World}{v:Value}{l:List (List Nat)}(hs:Sv w v (cC l))(hl:l.length<=256)(ht:Ts l):Calls Tryz.prog 90 #[v] w (dA w (fH l)):=by
 have HS:=ae hs;have HT:=ae ht;obtain⟨a,cap,rfl,aW,bC⟩:=hs.form1;rw[dP]at *;have hcm':cap<=9223372036854775807:=by unfold maxLen at bC;omega
 have HTX:jgf (fH l=cnt (em l)++l.flatten):=rfl;have zr:=ae (fun k=>ji ht hl k);have HSI:=ae (ig ht)
 have eX:(cnt (em l)).length<=5141:=by
  have h1:=gL (ig ht) (by rw[bM];exact hl);have h2:=bO (n:=(cV (em l)).length) (by omega);unfold cnt;rw[jem];omega
 have jH:=ji ht hl l.length;rw[jes]at jH;clear hs bC ht;generalize fH l=TX at *;go_enter Tryz.func90,Tryz.ntmps90
 go_wp2_with fail;go_loopw [3,4,5] (fun o q i wr=>∃ j:Nat,j<=l.length/\i=.int .i64 (j:Int)/\bF wr w.heap.size o (em (l.take j))/\aD wr w.heap.size q (l.take j).flatten/\Below w.heap.size w wr) (fun _ _ i _=>l.length-(intOf i).toNat)
 case atStart=>exact⟨0,by omega,rfl,bF.nil _ _,aD.nil _ _,jej _ _⟩
 case round =>
  obtain⟨j,hj,rfl,aA,jaS,az⟩:=hrel;have HO:=ae aA;have AV:=ae jaS;have HB:=ae az;have bH:=az.size;clear aA jaS az;by_cases aB:j<l.length
  ·obtain⟨g,off,rfl,hg,bn⟩:=HS.o.at1 (cO aB)
   rw[dM]at bn;have HCE:=ae bn;have jc8:=(HB.o.cell (p:=⟨g,off+j,none⟩) hg).trans bn;have hlt':(j:Int)<(l.length:Int):=(by omega);have HZS:=ae (vI aB);have tT:=ae (lu aB);have hlen':(em (l.take j)).length<=100000:=by rw[bM,jeq];omega
   have sH:=zr.o j;obtain⟨Dk,YP⟩:=HT.o _ (jeo aB);have yo:=ae YP;clear bn YP;generalize l[j]=x at *;generalize hfj:(l.take j).flatten=FJ at *;generalize em (l.take j)=SJ at *;clear hfj;go_wp2_with (first | (at_builtin;refine mx rfl _ _ rfl w.heap.size _ _ ((am x).size:Int) SJ rfl (HO.o.kept (ak _ _)) rfl (aK _ _ _) hlen' ?c2 ?_))
   case c2=>first | omega | (rw[jel];omega)
   intro v5 w5 o5 g5;have hob:aD wr w.heap.size _ FJ:=AV.o;have Mv:=Ap.of_types hob HO.o (by decide);have Wm:=ae (show aD w5 w.heap.size _ FJ from dE (bJ hob (ak wr (.cells #[.int .i64 ((am x).size:Int)] 2))) g5 Mv);have df:=ae o5;have bD:Below w.heap.size w w5:=(HB.o.alloc bH (.cells #[.int .i64 ((am x).size:Int)] 2)).grown g5 (by rw[jel];omega) (fun k hk=>(HO.o.lt k hk).1);have aQ:=ae bD;have tU:=bD.size;have hcell5:=(bD.cell (p:=⟨g,off+j,none⟩) hg).trans HCE.o;clear o5 g5 hob Mv bD jc8;go_wp2_with (first | (at_builtin;refine tM rfl _ _ rfl w.heap.size _ FJ x rfl Wm.o rfl yo.o ?d1 ?d2 ?_))
   case d1=>omega
   case d2=>omega
   intro v6 w6 o6 g6;have Mv:=Ap.of_types df.o Wm.o (by decide);have my:=ae (show bF w6 w.heap.size v5 (SJ++[((am x).size:Int)]) from dE df.o g6 Mv);have HOB6:=ae o6;have gW:=ae (aQ.o.grown g6 tU (fun k hk=>(Wm.o.lt k hk).1));clear o6 g6 Mv;go_wp2_with fail;go_roundw
   case rel=>exact⟨j+1,by omega,by go_num,by rw[HZS.o];exact my.o,by rw[tT.o];exact HOB6.o,gW.o⟩
   case measure=>simp[intOf];omega
  ·obtain rfl:j=l.length:=by omega
   rw[jes]at HO AV;have gi:¬ ((l.length:Nat):Int)<(l.length:Int):=(by omega);have HCT:=ae (yc HO.o.sv (by rw[bM];exact hl) HSI.o);generalize cnt (em l)=CN at *;generalize l.flatten=FL at *;go_wp2_with fail;refine HCT.o.mono ?_;rintro e w5 ⟨⟨v5,rfl,o5⟩,bD⟩;have df:=ae (o5.low bH);have Wm:=ae (AV.o.kept bD);have aQ:=ae (HB.o.trans (bD.mono bH));have tU:=bD.size;clear o5 bD;go_wp2_with (first | (at_builtin;refine ax rfl _ _ rfl w.heap.size _ _ CN FL rfl df.o rfl Wm.o.sv ?e1 ?e2 ?_))
   case e1=>omega
   case e2=>omega
   intro v6 w6 o6 b6;have my:=ae o6;have gW:=ae (aQ.o.trans b6);clear o6 b6;go_wp2_with fail;go_ret
   rw[HTX.o];exact⟨⟨_,rfl,my.o⟩,gW.o⟩
def AH(c:Nat×Int×List Nat):Prop :=
 c=nul∨(∃ n,c=(1,n,[])/\I64 n)∨(∃ n:Nat,c=(2,(n:Int),[])/\n<2)∨(∃ s,c=(3,0,s)/\Bs s)
theorem aT.wide{c:Nat×Int×List Nat}(h:aT c):AH c:=by
 rcases h with h | h | h | ⟨s,h,_,h2⟩
 ·exact Or.inl h
 ·exact Or.inr (Or.inl h)
 ·exact Or.inr (Or.inr (Or.inl h))
 ·exact Or.inr (Or.inr (Or.inr ⟨s,h,h2⟩))
theorem AH.fine{c:Nat×Int×List Nat}(h:AH c)(hs:c.2.2.length<=64):aT c:=by
 rcases h with h | h | h | ⟨s,rfl,h2⟩
 ·exact Or.inl h
 ·exact Or.inr (Or.inl h)
 ·exact Or.inr (Or.inr (Or.inl h))
 ·exact Or.inr (Or.inr (Or.inr ⟨s,rfl,hs,h2⟩))
theorem AH.parts{c:Nat×Int×List Nat}(h:AH c):c.1<=3/\I64 c.2.1/\Bs c.2.2:=by
 rcases h with rfl | ⟨n,rfl,h⟩ | ⟨n,rfl,h⟩ | ⟨s,rfl,h⟩
 ·exact⟨by simp[nul],by simp[nul,I64],fun x hx=>by simp[nul]at hx⟩
 ·exact⟨by simp,h,fun x hx=>by simp at hx⟩
 ·exact⟨by simp,by simp only[I64];omega,fun x hx=>by simp at hx⟩
 ·exact⟨by simp,by simp[I64],h⟩
def yd(z:Int):Nat:=(z % 18446744073709551616).toNat
theorem KH(z:Int):IntKind.u64.wrap z=(yd z:Int):=by rw[jeP];unfold yd;omega
def tr4(l:List (Nat×Int×List Nat)):List Nat:=(bV l).map fun c=>yd c.2.1
def wh4(l:List (Nat×Int×List Nat)):List Int:=(bV l).map fun c=>c.2.1
def wd4(l:List (Nat×Int×List Nat)):List (List Nat):=(bV l).map fun c=>c.2.2
theorem Qf{l:List (Nat×Int×List Nat)}{j:Nat}(h:j<l.length)(h0:l[j].1=0):bP (l.take (j+1))=bP (l.take j)++[0]/\tr4 (l.take (j+1))=tr4 (l.take j)/\wh4 (l.take (j+1))=wh4 (l.take j)/\wd4 (l.take (j+1))=wd4 (l.take j):=by
 have h1:=jQ h;have h2:=fR h;rw[jei h0]at h1 h2;rw[jeG]at h2;unfold tr4 wh4 wd4;rw[h2];exact⟨h1,rfl,rfl,rfl⟩
theorem Qg{l:List (Nat×Int×List Nat)}{j:Nat}(h:j<l.length)(h0:l[j].1≠0):bP (l.take (j+1))=bP (l.take j)++[1]/\tr4 (l.take (j+1))=tr4 (l.take j)++[yd l[j].2.1]/\wh4 (l.take (j+1))=wh4 (l.take j)++[l[j].2.1]/\wd4 (l.take (j+1))=wd4 (l.take j)++[l[j].2.2]:=by
 have h1:=jQ h;have h2:=fR h;rw[jeh h0]at h1 h2;unfold tr4 wh4 wd4;rw[h2,jeE,jeE,jeE];exact⟨h1,rfl,rfl,rfl⟩
theorem Va(l:List (Nat×Int×List Nat))(j:Nat):(bP (l.take j)).length<=l.length/\(tr4 (l.take j)).length<=l.length/\(wh4 (l.take j)).length<=l.length/\(wd4 (l.take j)).length<=l.length:=by
 have h:=jt l j;refine⟨by rw[br,jeq];omega,?_,?_,?_⟩
 ·unfold tr4;rw[jen];exact h
 ·unfold wh4;rw[jen];exact h
 ·unfold wd4;rw[jen];exact h
def kb(W:World)(B:Nat)(a b c d:Value)(L1 L2:List Nat)(L3:List Int)(L4:List (List Nat)):Prop:=dJ W B a L1/\dJ W B b L2/\bF W B c L3/\eL W B d L4/\Ap a b
theorem kb.nil(W:World)(B:Nat):kb W B (.slice none 0 0) (.slice none 0 0) (.slice none 0 0) (.slice none 0 0) [] [] [] []:=⟨dJ.nil _ _,dJ.nil _ _,bF.nil _ _,eL.nil _ _,fun g hg=>by cases hg⟩
theorem kb.kept{W W':World}{B:Nat}{a b c d:Value}{L1 L2:List Nat}{L3:List Int}{L4:List (List Nat)}(h:kb W B a b c d L1 L2 L3 L4)(hb:Below W.heap.size W W'):kb W' B a b c d L1 L2 L3 L4:=⟨h.1.kept hb,h.2.1.kept hb,h.2.2.1.kept hb,h.2.2.2.1.kept hb,h.2.2.2.2⟩
theorem kb.g1{W W':World}{B:Nat}{a a' b c d:Value}{L1 L1' L2:List Nat}{L3:List Int}{L4:List (List Nat)}(h:kb W B a b c d L1 L2 L3 L4)(ho:dJ W' B a' L1')(hg:W.grownBy W' a.ownBlock)(hn:a'.ownBlock=a.ownBlock∨a'.ownBlock=some W.heap.size):kb W' B a' b c d L1' L2 L3 L4:=by
 obtain⟨h1,h2,h3,h4,h5⟩:=h;exact⟨ho,dE h2 hg h5.symm,dE h3 hg (Ap.of_types h3 h1 (by decide)),dE h4 hg (Ap.of_types h4 h1 (by decide)),h5.grow hn (fun k hk=>(h2.lt k hk).2)⟩
theorem kb.g2{W W':World}{B:Nat}{a b b' c d:Value}{L1 L2 L2':List Nat}{L3:List Int}{L4:List (List Nat)}(h:kb W B a b c d L1 L2 L3 L4)(ho:dJ W' B b' L2')(hg:W.grownBy W' b.ownBlock)(hn:b'.ownBlock=b.ownBlock∨b'.ownBlock=some W.heap.size):kb W' B a b' c d L1 L2' L3 L4:=by
 obtain⟨h1,h2,h3,h4,h5⟩:=h;exact⟨dE h1 hg h5,ho,dE h3 hg (Ap.of_types h3 h2 (by decide)),dE h4 hg (Ap.of_types h4 h2 (by decide)),(h5.symm.grow hn (fun k hk=>(h1.lt k hk).2)).symm⟩
theorem kb.g3{W W':World}{B:Nat}{a b c c' d:Value}{L1 L2:List Nat}{L3 L3':List Int}{L4:List (List Nat)}(h:kb W B a b c d L1 L2 L3 L4)(ho:bF W' B c' L3')(hg:W.grownBy W' c.ownBlock):kb W' B a b c' d L1 L2 L3' L4:=by
 obtain⟨h1,h2,h3,h4,h5⟩:=h;exact⟨dE h1 hg (Ap.of_types h1 h3 (by decide)),dE h2 hg (Ap.of_types h2 h3 (by decide)),ho,dE h4 hg (Ap.of_types h4 h3 (by decide)),h5⟩
theorem kb.g4{W W':World}{B:Nat}{a b c d d':Value}{L1 L2:List Nat}{L3:List Int}{L4 L4':List (List Nat)}(h:kb W B a b c d L1 L2 L3 L4)(ho:eL W' B d' L4')(hg:W.grownBy W' d.ownBlock):kb W' B a b c d' L1 L2 L3 L4':=by
 obtain⟨h1,h2,h3,h4,h5⟩:=h;exact⟨dE h1 hg (Ap.of_types h1 h4 (by decide)),dE h2 hg (Ap.of_types h2 h4 (by decide)),dE h3 hg (Ap.of_types h3 h4 (by decide)),ho,h5⟩
theorem KI{x:List Nat}:∀{u:List (List Nat)} {q:Nat} (h:q<u.length),q<plT u x->u[q]≠x
 | y::t,0,h,hq=>by
  intro e;unfold plT at hq;rw[jei (by simpa using e)]at hq;omega
 | y::t,q+1,h,hq=>by
  unfold plT at hq;split at hq
  ·omega
  ·have:=KI (x:=x) (u:=t) (q:=q) (by simpa using h) (by omega)
   simpa using this
theorem Mp{l:List (Nat×Int×List Nat)}(h:∀ c∈l,gD 2 c):tr4 l=(bV l).map fun c=>c.2.1.toNat:=by
 unfold tr4;apply jff
 intro c hc;obtain⟨h1,h2⟩:=jy hc;rcases h c h1 with rfl | ⟨e,_⟩ | ⟨_,n,rfl,hn⟩ | ⟨e,_⟩
 ·exact absurd rfl h2
 ·omega
 ·simp only[yd];omega
 ·omega
theorem uO{k:Nat}{l:List (Nat×Int×List Nat)}(h:¬ (1<=k/\k<=3/\∀ c∈l,c.1=0∨c.1=k)):dZ k l=([],10):=jeh h
theorem Gf{k:Nat}{l:List (Nat×Int×List Nat)}(h:1<=k/\k<=3/\∀ c∈l,c.1=0∨c.1=k)(h2:¬ (l.length<=256/\∀ c∈l,c.2.2.length<=64)):dZ k l=([],5):=by
 unfold dZ;rw[jei h,jeh h2]
end Go.Proofs.YtpljdjmpamjkhaaGreatDoor
