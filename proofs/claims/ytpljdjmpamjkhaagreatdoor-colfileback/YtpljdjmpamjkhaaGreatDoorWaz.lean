import Derived.Test.YtpljdjmpamjkhaaGreatDoorWax
set_option linter.unusedVariables false
set_option linter.unusedSimpArgs false
set_option maxRecDepth 100000
set_option maxHeartbeats 16000000
namespace Go.Proofs.YtpljdjmpamjkhaaGreatDoor
open Go.RowKit Go.Lib
theorem BS{w:World}{v1 v2:Value}{l m:List Fd}(h1:Sf w v1 l)(h2:Sf w v2 m)(i1 i2:Nat) :
  Calls Tryz.prog 18 #[.agg #[.int .u32 (i1:Int),v1],.agg #[.int .u32 (i2:Int),v2]] w fun e w'=>e=.returned (.bool (decide (i1=i2/\l=m)))/\Below w.heap.size w w':=by
 obtain⟨a,cap,rfl,aV,bw⟩:=h1.form;obtain⟨a2,cap2,rfl,BZ,pR⟩:=h2.form;have hbW:Below w.heap.size w ((w.alloc (.cells #[.int .u32 (i1:Int),.slice a l.length cap] 25)).alloc (.cells #[.int .u32 (i2:Int),.slice a2 m.length cap2] 25)):=((Yz _ _).alloc (YA _) _).alloc (by rw[YB];omega) _;have jb:=ae hbW;have gI:=ae (h1.kept hbW);have eP:=ae (h2.kept hbW);obtain⟨c0,c1⟩:=aR w (.int .u32 (i1:Int)) (.slice a l.length cap) 25;have bN:(w.alloc (.cells #[.int .u32 (i1:Int),.slice a l.length cap] 25)).heap.size=w.heap.size+1:=YB _ _;have aA:=aj (w.alloc (.cells #[.int .u32 (i1:Int),.slice a l.length cap] 25)) (.cells #[.int .u32 (i2:Int),.slice a2 m.length cap2] 25);have p0:=(aA.cell (p:=⟨w.heap.size,0,none⟩) (show w.heap.size<_ by omega)).trans c0;have p1:=(aA.cell (p:=⟨w.heap.size,1,none⟩) (show w.heap.size<_ by omega)).trans c1;obtain⟨e0,e1⟩:=aR (w.alloc (.cells #[.int .u32 (i1:Int),.slice a l.length cap] 25)) (.int .u32 (i2:Int)) (.slice a2 m.length cap2) 25;rw[bN]at e0 e1;have hzW0:w.heap.size+1<((w.alloc (.cells #[.int .u32 (i1:Int),.slice a l.length cap] 25)).alloc (.cells #[.int .u32 (i2:Int),.slice a2 m.length cap2] 25)).heap.size:=by rw[YB,YB];omega
 have HZW:=ae hzW0;clear h1 h2 aA c0 c1 hbW hzW0;generalize hW:(w.alloc (.cells #[.int .u32 (i1:Int),.slice a l.length cap] 25)).alloc (.cells #[.int .u32 (i2:Int),.slice a2 m.length cap2] 25)=W at *;by_cases hi:i1=i2
 ·have hi':((i1:Int) != (i2:Int))=false:=by simp[hi]
  by_cases bg:l.length=m.length
  ·have fb:(((l.length:Nat):Int) != (m.length:Int))=false:=by simp[bg]
   have Fo:=ae bg;have RC:jaH (decide (i1=i2/\l=m)=decide (l=m)):=ae (by simp[hi]);generalize decide (i1=i2/\l=m)=DD at *;clear bg hi;go_enter Tryz.func18,Tryz.ntmps18
   go_wp2_with fail;try rw[hW]
   clear hW;go_loopw [5] (fun i wr=>∃ j:Nat,j<=l.length/\i=.int .i64 (j:Int)/\l.take j=m.take j/\Below W.heap.size W wr) (fun i _=>l.length-(intOf i).toNat)
   case atStart=>exact⟨0,by omega,rfl,rfl,Yz _ _⟩
   case round =>
    obtain⟨j,hj,rfl,sg,ao⟩:=hrel;have Qg:=ae sg;have HB:=ae ao;have hzW:w.heap.size+1<W.heap.size:=HZW.o;have q1:=(ao.cell (p:=⟨w.heap.size,1,none⟩) (show w.heap.size<_ by omega)).trans p1;have q2:=(ao.cell (p:=⟨w.heap.size+1,1,none⟩) hzW).trans e1;clear sg ao;by_cases ar:j<l.length
    ·have KH:j<m.length:=by have:=Fo.o;omega
     obtain⟨g,off,rfl,hg,c0,c1,c2,c3⟩:=(gI.o.kept HB.o).at ar;obtain⟨g2,off2,rfl,gx,d0,d1,d2,d3⟩:=(eP.o.kept HB.o).at KH;have hlt':(j:Int)<(l.length:Int):=(by omega);have hltm':(j:Int)<(m.length:Int):=(by omega);have hjn:(0:Int)<=(j:Int):=(by omega);have jz:=ae (fun he=>kO ar KH Qg.o he);have uY:jaH (l[j]≠m[j]->decide (l=m)=false):=ae (fun h=>YO (fun e=>h (by subst e;rfl)));generalize l[j]=c at *;generalize m[j]=d at *;obtain⟨ck,cn,cs,cb⟩:=c;obtain⟨dk,dn,ds,db⟩:=d;simp only at *;by_cases hk:ck=dk
     ·subst hk
      by_cases hn:cn=dn
      ·subst hn
       by_cases hs:cs=ds
       ·subst hs
        by_cases sd:cb=db
        ·subst sd
         have HN':=ae (jz.o rfl);clear jz uY;go_wp2_with fail;go_quiet (fail)
         go_wp2_with fail;go_roundw
         case rel=>exact⟨j+1,by omega,by go_num,HN'.o,ak HB.o _⟩
         case measure=>simp[intOf];omega
        ·have HNE':=ae (uY.o (fun e=>sd (by have:=YE (fun t=>t.2.2.2) e;simpa using this)))
         have TT:(cb==db)=false:=by cases cb<;>cases db<;>simp_all
         clear jz uY sd;go_wp2_with fail;go_quiet (fail)
         go_wp2_with fail;go_ret
         rw[RC.o,HNE'.o];exact⟨rfl,ag jb.o (ak HB.o _)⟩
       ·have HNE':=ae (uY.o (fun e=>hs (by have:=YE (fun t=>t.2.2.1) e;simpa using this)))
        have TT:((cs:Int)==(ds:Int))=false:=YN.2 (by omega);clear jz uY hs;go_wp2_with fail;go_quiet (fail)
        go_wp2_with fail;go_ret
        rw[RC.o,HNE'.o];exact⟨rfl,ag jb.o (ak HB.o _)⟩
      ·have HNE':=ae (uY.o (fun e=>hn (by have:=YE (fun t=>t.2.1) e;simpa using this)))
       have TT:(cn.toList==dn.toList)=false:=by rw[tW];exact YO hn
       clear jz uY hn;go_wp2_with fail;go_quiet (fail)
       go_wp2_with fail;go_ret
       rw[RC.o,HNE'.o];exact⟨rfl,ag jb.o (ak HB.o _)⟩
     ·have HNE':=ae (uY.o (fun e=>hk (by have:=YE (fun t=>t.1) e;simpa using this)))
      have Rm:((ck:Int)==(dk:Int))=false:=YN.2 (by omega);clear jz uY hk;go_wp2_with fail;go_quiet (fail)
      go_wp2_with fail;go_ret
      rw[RC.o,HNE'.o];exact⟨rfl,ag jb.o (ak HB.o _)⟩
    ·obtain rfl:j=l.length:=by omega
     have Ce:jaH (decide (l=m)=true):=ae (YT (by
      have:=Qg.o;rw[YK]at this;rw[this,Fo.o,YK]))
     have eO:¬ ((l.length:Nat):Int)<(l.length:Int):=(by omega);go_wp2_with fail;go_ret
     rw[RC.o,Ce.o];exact⟨rfl,ag jb.o HB.o⟩
  ·have fb:(((l.length:Nat):Int) != (m.length:Int))=true:=by
    have:(l.length:Int)≠(m.length:Int):=by omega
    simpa using this
   have Ce:jaH (decide (i1=i2/\l=m)=false):=ae (YO (fun e=>bg (by rw[e.2])));clear bg hi;go_enter Tryz.func18,Tryz.ntmps18
   go_wp2_with fail;go_ret
   rw[Ce.o];refine⟨rfl,?_⟩;first | exact jb.o | (rw[hW];exact jb.o)
 ·have hi':((i1:Int) != (i2:Int))=true:=by
   have:(i1:Int)≠(i2:Int):=by omega
   simpa using this
  have Ce:jaH (decide (i1=i2/\l=m)=false):=ae (YO (fun e=>hi e.1));clear hi;go_enter Tryz.func18,Tryz.ntmps18
  go_wp2_with fail;go_ret
  rw[Ce.o];refine⟨rfl,?_⟩;first | exact jb.o | (rw[hW];exact jb.o)
theorem sN{w:World}{v:Value}{rs:List Row}(hs:Sr w v rs)(hl:rs.length<=1000){k:Nat}(hk:∀ r∈rs,k<r.length) :
  Calls Tryz.prog 26 #[v,.int .i64 (k:Int)] w fun e w'=>(∃ v',e=.returned v'/\dB w' w.heap.size v' (bq rs k))/\Below w.heap.size w w':=by
 have HS:=ae hs;have HK:=ae hk;obtain⟨a,cap,rfl,aV,bw⟩:=hs.form;have hcm':cap<=9223372036854775807:=by unfold maxLen at bw;omega
 have fT:(bq rs k).length=rs.length:=bR rs k;obtain⟨D,hD⟩:∃ D,bq rs k=D:=⟨_,rfl⟩;have QB:jaH (∀ j (h:j<rs.length),∃ h2:j<D.length,D[j]=rs[j].getD k nul):=ae (fun j h=>by subst hD;exact⟨by omega,by simp[bq]⟩);rw[hD]at fT ⊢;have mH:=ae fT;clear hs bw hk hD fT;go_enter Tryz.func26,Tryz.ntmps26
 go_wp2_with fail;go_loopw [5,6] (fun o i wr=>∃ j:Nat,j<=rs.length/\i=.int .i64 (j:Int)/\dB wr w.heap.size o (D.take j)/\Below w.heap.size w wr) (fun _ i _=>rs.length-(intOf i).toNat)
 case atStart=>exact⟨0,by omega,rfl,dB.nil _ _,Yz _ _⟩
 case round =>
  obtain⟨j,hj,rfl,aw,ao⟩:=hrel;have HO:=ae aw;have HB:=ae ao;have bM:=ao.size;clear aw ao;by_cases ar:j<rs.length
  ·obtain⟨g,off,rv,rfl,hg,bn,uO⟩:=(HS.o.kept HB.o).at ar
   obtain⟨hjD,hDj⟩:=QB.o j ar;have te:=HK.o _ (YF ar);obtain⟨ra,rc,rfl,KS,zc⟩:=uO.form;obtain⟨b2,o2,rfl,ay,x0,x1,x2⟩:=uO.at te;have ek:rs[j].getD k nul=rs[j][k]:=by rw[List.getD_eq_getElem?_getD,List.getElem?_eq_getElem te];rfl
   rw[ek]at hDj;have hrc2':rc<=9223372036854775807:=by unfold maxLen at zc;omega
   have hlt':(j:Int)<(rs.length:Int):=(by omega);have hkl':(k:Int)<(rs[j].length:Int):=(by omega);have jz:jaH (D.take (j+1)=D.take j++[D[j]]):=ae (YP hjD);have hlen':(D.take j).length<=100000:=by rw[YH];omega
   rw[hDj]at jz;generalize rs[j][k]=fc at *;generalize D.take j=LL at *;generalize rs[j].length=rl at *;have jI:=ae (dC wr (.int .u8 (fc.1:Int)) (.int .i64 fc.2.1) (txt fc.2.2) 52);clear uO hDj ek;unfold txt at *;go_wp2_with (first | (at_builtin;refine iv rfl _ _ rfl w.heap.size _ _ fc LL rfl (HO.o.kept (aj _ _)) rfl jI.o.1 jI.o.2.1 jI.o.2.2 hlen' ?c2 ?_))
   case c2=>first | omega | (rw[YB];omega)
   intro v' w5 o5 b5;have cQ:=ae o5;have aJ:=ae ((HB.o.alloc bM _).trans b5);clear o5 b5;go_wp2_with fail;go_roundw
   case rel=>exact⟨j+1,by omega,by go_num,by rw[jz.o];exact cQ.o,aJ.o⟩
   case measure=>simp[intOf];omega
  ·obtain rfl:j=rs.length:=by omega
   rw[← mH.o,YK]at HO;have eO:¬ ((rs.length:Nat):Int)<(rs.length:Int):=(by omega);go_wp2_with fail;go_ret
   exact⟨⟨_,rfl,HO.o⟩,HB.o⟩
theorem UC(a b:Cl)(w:World):Calls Tryz.prog 61 #[.agg #[.int .u8 (a.1:Int),.int .i64 a.2.1,.string (ai a.2.2)],.agg #[.int .u8 (b.1:Int),.int .i64 b.2.1,.string (ai b.2.2)]] w fun e w'=>e=.returned (.bool (decide (ch a b<0)))/\Below w.heap.size w w':=by
 refine SJ _ _ _ _ _ _ _ ?_ w;rw[ls_cv];have:=DP a b;show decide (ch a b=-1)=_
 rcases this with h | h | h
 ·rw[h];rfl
 ·rw[h];rfl
 ·rw[h];rfl
theorem xq:∀(r:List Cl) (m c:Cl),eX m (r++[c])=if ch c (eX m r)<0 then c else eX m r
 | [],m,c=>rfl
 | x::r,m,c=>by
  rw[Zv,eX,xq r,eX]
theorem xr:∀(r:List Cl) (m c:Cl),dF m (r++[c])=if 0<ch c (dF m r) then c else dF m r
 | [],m,c=>rfl
 | x::r,m,c=>by
  rw[Zv,dF,xr r,dF]
def soM(ns:List Cl):Bool:=!ns.isEmpty
def leM:List Cl->Cl
 | []=>nul
 | x::r=>eX x r
def moM:List Cl->Cl
 | []=>nul
 | x::r=>dF x r
def ckM(ns:List Cl):Bool:=ns.all fun c=>!decide (c.1=3) || dT c
theorem PR(ns:List Cl)(c:Cl):ckM (ns++[c])=(ckM ns && (!decide (c.1=3) || dT c)):=by simp[ckM]
theorem PS(ns:List Cl)(c:Cl):soM (ns++[c])=true:=by simp[soM]
theorem PU(ns:List Cl)(c:Cl):leM (ns++[c])=if soM ns=false∨ch c (leM ns)<0 then c else leM ns:=by
 cases ns with
 | nil=>rfl
 | cons x r =>
  show eX x (r++[c])=_
  rw[xq];simp[soM,leM]
theorem PW(ns:List Cl)(c:Cl):moM (ns++[c])=if soM ns=false∨ch (moM ns) c<0 then c else moM ns:=by
 cases ns with
 | nil=>rfl
 | cons x r =>
  show dF x (r++[c])=_
  rw[xr];have h:=Jm c (dF x r);by_cases h2:0<ch c (dF x r)
  ·rw[Yy h2]
   have h4:soM (x::r)=false∨ch (moM (x::r)) c<0:=Or.inr (show ch (dF x r) c<0 by omega);rw[Yy h4]
  ·rw[Yx h2]
   have h4:¬ (soM (x::r)=false∨ch (moM (x::r)) c<0):=fun h3=>by
    rcases h3 with h3 | h3
    ·simp[soM]at h3
    ·have h4:ch (dF x r) c<0:=h3
     omega
   rw[Yx h4];rfl
theorem Kr{cs:List Cl}{j:Nat}(h:j<cs.length)(h0:cs[j].1=0):aP (cs.take (j+1))=aP (cs.take j):=by
 unfold aP;rw[YP h,jaq];simp[h0]
theorem Ks{cs:List Cl}{j:Nat}(h:j<cs.length)(h0:cs[j].1≠0):aP (cs.take (j+1))=aP (cs.take j)++[cs[j]]:=by
 unfold aP;rw[YP h,jaq];simp[h0]
def Rw(W:World)(q0 q1 q2 q3:Nat)(st:Stt)(lo hi:Cl):Prop :=
 Stb W q0 stZ/\Stb W q1 st/\Ceb W q2 (.int .u8 (lo.1:Int)) (.int .i64 lo.2.1) (.string (ai lo.2.2))/\Ceb W q3 (.int .u8 (hi.1:Int)) (.int .i64 hi.2.1) (.string (ai hi.2.2))
theorem Rw.kept{W X:World}{q0 q1 q2 q3:Nat}{st:Stt}{lo hi:Cl}(h:Rw W q0 q1 q2 q3 st lo hi)(hb:Below W.heap.size W X):Rw X q0 q1 q2 q3 st lo hi:=⟨h.1.kept hb,h.2.1.kept hb,h.2.2.1.kept hb,h.2.2.2.kept hb⟩
theorem Ceb.other{W:World}{p q:Nat}{x y z:Value}(h:Ceb W q x y z)(hn:q≠p)(i:Nat)(v:Value):Ceb (W.setCell ⟨p,i,none⟩ v) q x y z:=by
 unfold Ceb at *;rw[heap_setCell_other _ ⟨p,i,none⟩ q _ hn];exact h
theorem Ceb.put{W:World}{p:Nat}{x y z:Value}(h:Ceb W p x y z)(x' y' z':Value):Ceb (((W.setCell ⟨p,0,none⟩ x').setCell ⟨p,1,none⟩ y').setCell ⟨p,2,none⟩ z') p x' y' z':=by
 unfold Ceb at *;rw[bY (bY (bY h 0 _) 1 _) 2 _];rfl
theorem Ceb.put2{W:World}{p:Nat}{x y z:Value}(h:Ceb W p x y z)(z':Value):Ceb (W.setCell ⟨p,2,none⟩ z') p x y z':=by
 unfold Ceb at *;rw[bY h 2 _];rfl
theorem Rw.nulls{W:World}{q0 q1 q2 q3:Nat}{st:Stt}{lo hi:Cl}(h:Rw W q0 q1 q2 q3 st lo hi)(h0:q0<q1)(h1:q1<q2)(h2:q2<q3)(m:Int):Rw (W.setCell ⟨q1,1,none⟩ (.int .i64 m)) q0 q1 q2 q3 {st with nulls:=m} lo hi:=by
 refine⟨h.1.other (by omega) _ _,?_,h.2.2.1.other (by omega) _ _,h.2.2.2.other (by omega) _ _⟩;have:=h.2.1;unfold Stb at *;rw[bY this 1 _];rfl
theorem Rw.some{W:World}{q0 q1 q2 q3:Nat}{st:Stt}{lo hi:Cl}(h:Rw W q0 q1 q2 q3 st lo hi)(h0:q0<q1)(h1:q1<q2)(h2:q2<q3):Rw (W.setCell ⟨q1,2,none⟩ (.bool true)) q0 q1 q2 q3 {st with some:=true} lo hi:=by
 refine⟨h.1.other (by omega) _ _,?_,h.2.2.1.other (by omega) _ _,h.2.2.2.other (by omega) _ _⟩;have:=h.2.1;unfold Stb at *;rw[bY this 2 _];rfl
theorem Rw.high{W:World}{q0 q1 q2 q3:Nat}{st:Stt}{lo hi:Cl}(h:Rw W q0 q1 q2 q3 st lo hi)(h0:q0<q1)(h1:q1<q2)(h2:q2<q3)(b:Bool):Rw (W.setCell ⟨q1,3,none⟩ (.bool b)) q0 q1 q2 q3 {st with high:=b} lo hi:=by
 refine⟨h.1.other (by omega) _ _,?_,h.2.2.1.other (by omega) _ _,h.2.2.2.other (by omega) _ _⟩;have:=h.2.1;unfold Stb at *;rw[bY this 3 _];rfl
theorem Rw.lo{W:World}{q0 q1 q2 q3:Nat}{st:Stt}{lo hi:Cl}(h:Rw W q0 q1 q2 q3 st lo hi)(h0:q0<q1)(h1:q1<q2)(h2:q2<q3)(c:Cl):Rw (((W.setCell ⟨q2,0,none⟩ (.int .u8 (c.1:Int))).setCell ⟨q2,1,none⟩ (.int .i64 c.2.1)).setCell ⟨q2,2,none⟩ (.string (ai c.2.2))) q0 q1 q2 q3 st c hi :=
 ⟨((h.1.other (by omega) _ _).other (by omega) _ _).other (by omega) _ _,((h.2.1.other (by omega) _ _).other (by omega) _ _).other (by omega) _ _,h.2.2.1.put _ _ _,((h.2.2.2.other (by omega) _ _).other (by omega) _ _).other (by omega) _ _⟩
theorem Rw.hi{W:World}{q0 q1 q2 q3:Nat}{st:Stt}{lo hi:Cl}(h:Rw W q0 q1 q2 q3 st lo hi)(h0:q0<q1)(h1:q1<q2)(h2:q2<q3)(c:Cl):Rw (((W.setCell ⟨q3,0,none⟩ (.int .u8 (c.1:Int))).setCell ⟨q3,1,none⟩ (.int .i64 c.2.1)).setCell ⟨q3,2,none⟩ (.string (ai c.2.2))) q0 q1 q2 q3 st lo c :=
 ⟨((h.1.other (by omega) _ _).other (by omega) _ _).other (by omega) _ _,((h.2.1.other (by omega) _ _).other (by omega) _ _).other (by omega) _ _,((h.2.2.1.other (by omega) _ _).other (by omega) _ _).other (by omega) _ _,h.2.2.2.put _ _ _⟩
theorem Rw.loS{W:World}{q0 q1 q2 q3:Nat}{st:Stt}{lo hi:Cl}(h:Rw W q0 q1 q2 q3 st lo hi)(h0:q0<q1)(h1:q1<q2)(h2:q2<q3)(s:List Nat):Rw (W.setCell ⟨q2,2,none⟩ (.string (ai s))) q0 q1 q2 q3 st (lo.1,lo.2.1,s) hi :=
 ⟨h.1.other (by omega) _ _,h.2.1.other (by omega) _ _,h.2.2.1.put2 _,h.2.2.2.other (by omega) _ _⟩
theorem Rw.facts{W:World}{q0 q1 q2 q3:Nat}{st:Stt}{lo hi:Cl}(h:Rw W q0 q1 q2 q3 st lo hi) :
  (W.cell? ⟨q1,1,none⟩=Option.some (.int .i64 st.nulls)/\W.cell? ⟨q1,2,none⟩=Option.some (.bool st.some)/\W.cell? ⟨q1,3,none⟩=Option.some (.bool st.high)) /\
  (W.cell? ⟨q2,0,none⟩=Option.some (.int .u8 (lo.1:Int))/\W.cell? ⟨q2,1,none⟩=Option.some (.int .i64 lo.2.1)/\W.cell? ⟨q2,2,none⟩=Option.some (.string (ai lo.2.2))) /\
  (W.cell? ⟨q3,0,none⟩=Option.some (.int .u8 (hi.1:Int))/\W.cell? ⟨q3,1,none⟩=Option.some (.int .i64 hi.2.1)/\W.cell? ⟨q3,2,none⟩=Option.some (.string (ai hi.2.2))) /\
  (∀ i,W.frozen? ⟨q0,i,none⟩=false)/\(∀ i,W.frozen? ⟨q1,i,none⟩=false)/\(∀ i,W.frozen? ⟨q2,i,none⟩=false)/\(∀ i,W.frozen? ⟨q3,i,none⟩=false):=by
 obtain⟨_,⟨_,a1,a2,a3⟩,_⟩:=h.2.1.at;simp only[YY]at a1 a2 a3;refine⟨⟨a1,a2,a3⟩,h.2.2.1.facts.1,h.2.2.2.facts.1,h.1.frozen,h.2.1.frozen,?_,?_⟩
 ·have:=h.2.2.1
  unfold Ceb at this;intro i;simp[World.frozen?,this]
 ·have:=h.2.2.2
  unfold Ceb at this;intro i;simp[World.frozen?,this]
def eF(cs:List Cl):Stt :=
 if soM (aP cs)=false then ⟨cs.length,(cs.length:Int)-((aP cs).length:Nat),false,false,nul,nul⟩
 else if (leM (aP cs)).1=3 then (if ckM (aP cs)=false then ⟨cs.length,(cs.length:Int)-((aP cs).length:Nat),true,false,((leM (aP cs)).1,(leM (aP cs)).2.1,[]),nul⟩
  else match di (lb (ai (moM (aP cs)).2.2)) 4 with
   | none=>⟨cs.length,(cs.length:Int)-((aP cs).length:Nat),true,false,((leM (aP cs)).1,(leM (aP cs)).2.1,nb (bC (lb (ai (leM (aP cs)).2.2)) 4)),nul⟩
   | some a=>⟨cs.length,(cs.length:Int)-((aP cs).length:Nat),true,true,((leM (aP cs)).1,(leM (aP cs)).2.1,nb (bC (lb (ai (leM (aP cs)).2.2)) 4)),((moM (aP cs)).1,(moM (aP cs)).2.1,nb a)⟩)
 else ⟨cs.length,(cs.length:Int)-((aP cs).length:Nat),true,true,leM (aP cs),moM (aP cs)⟩
theorem yU{w:World}{v:Value}{cs:List Cl}(hs:Sc w v cs)(hf:∀ c∈cs,aI c)(hl:cs.length<=1000):Calls Tryz.prog 25 #[v] w fun e w'=>e=.returned (kU (eF cs))/\Below w.heap.size w w':=by
 have HF:=ae hf;have HL:=ae hl;obtain⟨a,cap,rfl,aV,bw⟩:=hs.form;have HS:=ae hs;clear hs hf hl bw;go_enter Tryz.func25,Tryz.ntmps25
 go_wp2_with fail;have bN:=Stb.new w stZ;have cO:=aj w (.cells #[.int .i64 0,.int .i64 0,.bool false,.bool false,.int .u8 0,.int .i64 0,.string ⟨#[]⟩,.int .u8 0,.int .i64 0,.string ⟨#[]⟩] 54);have s0:(w.alloc (.cells #[.int .i64 0,.int .i64 0,.bool false,.bool false,.int .u8 0,.int .i64 0,.string ⟨#[]⟩,.int .u8 0,.int .i64 0,.string ⟨#[]⟩] 54)).heap.size=w.heap.size+1:=YB _ _;have hz0':Stb (w.alloc (.cells #[.int .i64 0,.int .i64 0,.bool false,.bool false,.int .u8 0,.int .i64 0,.string ⟨#[]⟩,.int .u8 0,.int .i64 0,.string ⟨#[]⟩] 54)) w.heap.size stZ:=bN;clear bN;generalize hA:w.alloc (.cells #[.int .i64 0,.int .i64 0,.bool false,.bool false,.int .u8 0,.int .i64 0,.string ⟨#[]⟩,.int .u8 0,.int .i64 0,.string ⟨#[]⟩] 54)=A at *;have cG:=Stb.new A ⟨cs.length,0,false,false,nul,nul⟩;have aA:=aj A (.cells #[.int .i64 (cs.length:Int),.int .i64 0,.bool false,.bool false,.int .u8 0,.int .i64 0,.string ⟨#[]⟩,.int .u8 0,.int .i64 0,.string ⟨#[]⟩] 54);have s1:(A.alloc (.cells #[.int .i64 (cs.length:Int),.int .i64 0,.bool false,.bool false,.int .u8 0,.int .i64 0,.string ⟨#[]⟩,.int .u8 0,.int .i64 0,.string ⟨#[]⟩] 54)).heap.size=A.heap.size+1:=YB _ _;have hz1':Stb (A.alloc (.cells #[.int .i64 (cs.length:Int),.int .i64 0,.bool false,.bool false,.int .u8 0,.int .i64 0,.string ⟨#[]⟩,.int .u8 0,.int .i64 0,.string ⟨#[]⟩] 54)) A.heap.size ⟨cs.length,0,false,false,nul,nul⟩:=cG;clear cG;generalize hB:A.alloc (.cells #[.int .i64 (cs.length:Int),.int .i64 0,.bool false,.bool false,.int .u8 0,.int .i64 0,.string ⟨#[]⟩,.int .u8 0,.int .i64 0,.string ⟨#[]⟩] 54)=B at *;have bh:=Ceb.new B (.int .u8 0) (.int .i64 0) (.string ⟨#[]⟩);have ay:=aj B (.cells #[.int .u8 0,.int .i64 0,.string ⟨#[]⟩] 52);have s2:(B.alloc (.cells #[.int .u8 0,.int .i64 0,.string ⟨#[]⟩] 52)).heap.size=B.heap.size+1:=YB _ _;generalize hC:B.alloc (.cells #[.int .u8 0,.int .i64 0,.string ⟨#[]⟩] 52)=C at *;have jE:=Ceb.new C (.int .u8 0) (.int .i64 0) (.string ⟨#[]⟩);have aO:=aj C (.cells #[.int .u8 0,.int .i64 0,.string ⟨#[]⟩] 52);have s3:(C.alloc (.cells #[.int .u8 0,.int .i64 0,.string ⟨#[]⟩] 52)).heap.size=C.heap.size+1:=YB _ _;generalize hD:C.alloc (.cells #[.int .u8 0,.int .i64 0,.string ⟨#[]⟩] 52)=D at *;have CB:jaH (Rw D w.heap.size A.heap.size B.heap.size C.heap.size ⟨cs.length,0,false,false,nul,nul⟩ nul nul):=ae ⟨((hz0'.kept aA).kept ay).kept aO,(hz1'.kept ay).kept aO,bh.kept aO,jE⟩;have Cx:=ae (ag (ag (ag cO aA) ay) aO);have e1:A.heap.size=w.heap.size+1:=s0;have e2:B.heap.size=w.heap.size+1+1:=by omega
 have e3:C.heap.size=w.heap.size+1+1+1:=by omega
 rw[e1,e2,e3]at CB;clear hz0' hz1' bh jE cO aA ay aO hA hB hC hD s0 s1 s2 s3 e1 e2 e3;obtain⟨q1,re⟩:∃ q1,q1=w.heap.size+1:=⟨_,rfl⟩;obtain⟨q2,od⟩:∃ q2,q2=w.heap.size+1+1:=⟨_,rfl⟩;obtain⟨q3,KM⟩:∃ q3,q3=w.heap.size+1+1+1:=⟨_,rfl⟩;have HQ:jaH (w.heap.size<q1/\q1<q2/\q2<q3):=ae (by omega);rw[← KM,← od,← re]at CB;rw[← KM,← od,← re];clear re od KM;go_loopw [6,7] (fun ck i wr=>∃ j:Nat,j<=cs.length/\i=.int .i64 (j:Int)/\ck=.bool (ckM (aP (cs.take j)))/\Rw wr w.heap.size q1 q2 q3 ⟨cs.length,(j:Int)-((aP (cs.take j)).length:Nat),soM (aP (cs.take j)),false,nul,nul⟩ (leM (aP (cs.take j))) (moM (aP (cs.take j)))/\Below w.heap.size w wr) (fun _ i _=>cs.length-(intOf i).toNat)
 case atStart=>exact⟨0,by omega,rfl,rfl,CB.o,Cx.o⟩
 case round =>
  obtain⟨j,hj,rfl,rfl,hrw,ao⟩:=hrel;have HR:=ae hrw;have HB:=ae ao;have bM:=ao.size;have uY:jaH (¬ q1=w.heap.size/\¬ w.heap.size=q1/\¬ q2=w.heap.size/\¬ w.heap.size=q2/\¬ q3=w.heap.size/\¬ w.heap.size=q3/\¬ q1=q2/\¬ q2=q1/\¬ q1=q3/\¬ q3=q1/\¬ q2=q3/\¬ q3=q2):=ae (by have:=HQ.o;omega);clear hrw ao CB Cx;by_cases ar:j<cs.length
  ·have hlt':(j:Int)<(cs.length:Int):=by omega
   have HJ1:jaH (j+1<=cs.length):=ae ar
   have HWJ:jaH (Value.int .i64 (wrap64 ((j:Int)+1))=Value.int .i64 ((j+1:Nat):Int)):=ae (by
    have:=HL.o;have hw:wrap64 ((j:Int)+1)=(j:Int)+1:=by unfold wrap64;omega
    rw[hw];rfl)
   have Re:jaH (∀ k,intOf (.int .i64 (wrap64 ((j:Int)+1)))=k->cs.length-k.toNat<cs.length-(intOf (.int .i64 (j:Int))).toNat):=ae (by
    intro k hk;have:=HL.o;have hw:wrap64 ((j:Int)+1)=(j:Int)+1:=by unfold wrap64;omega
    rw[hw]at hk;simp only[intOf]at hk ⊢;omega)
   obtain⟨g,off,rfl,hg,c0,c1,c2⟩:=(HS.o.kept (HB.o.mono (YA _))).at ar;rw[fD]at c2;have HX0:=ae (Kr ar);have Qu:=ae (Ks ar)
   have XZ:jaH ((aP (cs.take j)).length<=j):=ae (by
    have:=jao (fun c:Cl=>!decide (c.1=0)) (cs.take j);rw[YH]at this;unfold aP;omega)
   have Ll:=ae (HF.o cs[j] (YF ar));generalize hns:aP (cs.take j)=ns at *;generalize hns2:aP (cs.take (j+1))=ns2 at *;have Cm:=ae hns2;clear hns hns2;generalize cs[j]=c at *;have xt:=Ceb.new wr (.int .u8 (c.1:Int)) (.int .i64 c.2.1) (.string (ai c.2.2));have ay:=aj wr (.cells #[.int .u8 (c.1:Int),.int .i64 c.2.1,.string (ai c.2.2)] 52);have jF:=ae (HR.o.kept ay);have aK:=ae (ag HB.o ay);have jI:=ae xt;clear xt ay;obtain⟨⟨d0,d1,d2⟩,_,_⟩:=jI.o.facts;obtain⟨⟨r1,r2,_⟩,⟨l0,l1,l2⟩,⟨m0,m1,m2⟩,fq0,fq1,fq2,fq3⟩:=jF.o.facts;obtain⟨n1,n2,n3,n4,n5,n6,n7,n8,n9,n10,n11,n12⟩:=uY.o;simp only at r1 r2;have h8:q3<wr.heap.size:=HR.o.2.2.2.facts.2.2;have n13:¬ wr.heap.size=q1:=by have:=HQ.o;omega
   have n14:¬ wr.heap.size=q2:=by have:=HQ.o;omega
   have n15:¬ wr.heap.size=q3:=by have:=HQ.o;omega
   have n16:¬ q1=wr.heap.size:=by have:=HQ.o;omega
   have n17:¬ q2=wr.heap.size:=by have:=HQ.o;omega
   have n18:¬ q3=wr.heap.size:=by have:=HQ.o;omega
   clear h8;generalize hW:wr.alloc (.cells #[.int .u8 (c.1:Int),.int .i64 c.2.1,.string (ai c.2.2)] 52)=W at *;by_cases rZ:c.1=0
   ·have hc0':((c.1:Int)==0)=true:=by rw[rZ];rfl
    have hx:=HX0.o rZ;clear HX0 Qu;subst hx;have UJ:wrap64 ((j:Int)-(ns2.length:Int)+1)=(j:Int)-(ns2.length:Int)+1:=by have:=HL.o;have:=XZ.o;unfold wrap64;omega
    have qh:=ae (jF.o.nulls HQ.o.1 HQ.o.2.1 HQ.o.2.2 ((j:Int)-(ns2.length:Int)+1));have bT:=ae (aK.o.setCell (p:=⟨q1,1,none⟩) (YV HQ.o.1) (.int .i64 ((j:Int)-(ns2.length:Int)+1)));clear rZ;go_wp2_with fail;go_roundw
    case rel =>
     refine⟨j+1,HJ1.o,HWJ.o,by rw[Cm.o],?_,bT.o⟩;have:=qh.o;rw[Cm.o,show ((j+1:Nat):Int)-(ns2.length:Int)=(j:Int)-(ns2.length:Int)+1 by omega];exact this
    case measure=>exact Re.o _ rfl
   ·have hc0':((c.1:Int)==0)=false:=YN.2 (by omega)
    have hx:=Qu.o rZ;clear HX0 Qu
    have co:jaH (∀(X:World) (cl:Bool) (lo hi:Cl),cl=ckM (ns++[c])->lo=leM (ns++[c])->hi=moM (ns++[c])->Rw X w.heap.size q1 q2 q3 ⟨cs.length,(j:Int)-(ns.length:Nat),true,false,nul,nul⟩ lo hi->Below w.heap.size w X ->
      ∃ j1:Nat,j1<=cs.length/\Value.int .i64 (wrap64 ((j:Int)+1))=.int .i64 (j1:Int)/\Value.bool cl=.bool (ckM (aP (cs.take j1)))/\Rw X w.heap.size q1 q2 q3 ⟨cs.length,(j1:Int)-((aP (cs.take j1)).length:Nat),soM (aP (cs.take j1)),false,nul,nul⟩ (leM (aP (cs.take j1))) (moM (aP (cs.take j1)))/\Below w.heap.size w X):=ae (by
     intro X cl lo hi e1 e2 e3 h1 h2;refine⟨j+1,HJ1.o,HWJ.o,by rw[Cm.o,e1,hx],?_,h2⟩;rw[Cm.o,hx,PS,← e2,← e3,YC,show ((j+1:Nat):Int)-((ns.length+[c].length:Nat):Int)=(j:Int)-(ns.length:Int) by simp only[YI,Zc];omega];exact h1)
    have oo:jaH (ckM (ns++[c])=(ckM ns && (!decide (c.1=3) || dT c))):=ae (PR ns c);have uT:jaH (leM (ns++[c])=if soM ns=false∨ch c (leM ns)<0 then c else leM ns):=ae (PU ns c);have Vm:jaH (moM (ns++[c])=if soM ns=false∨ch (moM ns) c<0 then c else moM ns):=ae (PW ns c);have WT:=ae (mu (ai c.2.2) (by have:=Ll.o.short;omega));have HL1:=ae (UC c (leM ns));have HL2:=ae (UC (moM ns) c);have uX:jaH (w.heap.size<=wr.heap.size):=ae bM;clear rZ hx Cm;generalize Qy:soM ns=so at *;generalize leM ns=lo at *;generalize moM ns=hi at *;generalize ckM ns=cl at *;generalize ckM (ns++[c])=cl' at *;generalize leM (ns++[c])=lo' at *;generalize moM (ns++[c])=hi' at *;clear Qy bM;generalize (j:Int)-(ns.length:Int)=mm at *;have uW:((c.1:Int)==3)=true∨((c.1:Int)==3)=false:=by cases ((c.1:Int)==3)<;>simp
    rcases uW with h3 | h3
    ·have mH:jaH (cl'=(cl && cV (lb (ai c.2.2)))):=ae (by
      have:c.1=3:=by have:=eq_of_beq h3;omega
      rw[oo.o,this];rfl)
     go_wp2_with fail;refine(WT.o _).mono ?_;rintro e w2 ⟨⟨sa,sb,rfl,_,_⟩,aO⟩;have qh:=ae (jF.o.kept aO);have bT:=ae (ag aK.o aO);have Lb:=ae (jI.o.kept aO);clear aO jF aK jI d0 d1 d2 r1 r2 l0 l1 l2 m0 m1 m2 fq0 fq1 fq2 fq3;obtain⟨⟨d0,d1,d2⟩,_,_⟩:=Lb.o.facts;obtain⟨⟨r1,r2,_⟩,⟨l0,l1,l2⟩,⟨m0,m1,m2⟩,fq0,fq1,fq2,fq3⟩:=qh.o.facts;simp only at r1 r2;generalize cV (lb (ai c.2.2))=ck at *;have sX:jaH (cl'=(if cl=true then ck else false)):=ae (by rw[mH.o];cases cl<;>rfl);clear mH;cases cl
     all_goals
      simp only[if_true,if_false,Bool.false_eq_true]at sX;cases so
      ·have Gy:jaH (lo'=c):=ae (by rw[uT.o,Yy (Or.inl rfl)])
       have vV:jaH (hi'=c):=ae (by rw[Vm.o,Yy (Or.inl rfl)]);have nw:=ae (((qh.o.lo HQ.o.1 HQ.o.2.1 HQ.o.2.2 c).hi HQ.o.1 HQ.o.2.1 HQ.o.2.2 c).some HQ.o.1 HQ.o.2.1 HQ.o.2.2);have qX:=ae ((set3 (set3 bT.o (YV (Zm HQ.o.1 HQ.o.2.1)) (.int .u8 (c.1:Int)) (.int .i64 c.2.1) (.string (ai c.2.2))) (YV (Zm (Zm HQ.o.1 HQ.o.2.1) HQ.o.2.2)) (.int .u8 (c.1:Int)) (.int .i64 c.2.1) (.string (ai c.2.2))).setCell (p:=⟨q1,2,none⟩) (YV HQ.o.1) (.bool true));clear uT Vm;go_wp2_with fail;go_roundw
       case rel=>exact co.o _ _ c c sX.o.symm Gy.o.symm vV.o.symm nw.o qX.o
       case measure=>exact Re.o _ rfl
      ·have Gy:jaH (lo'=if decide (ch c lo<0)=true then c else lo):=ae (by rw[uT.o];simp)
       have vV:jaH (hi'=if decide (ch hi c<0)=true then c else hi):=ae (by rw[Vm.o];simp);clear uT Vm;generalize decide (ch c lo<0)=b1 at *;generalize decide (ch hi c<0)=b2 at *;go_wp2_with fail;refine(HL1.o _).mono ?_;rintro e w4 ⟨rfl,bm⟩;have xA:=ae (qh.o.kept bm);have cA:=ae (ag bT.o bm);have uP:=ae (Lb.o.kept bm);clear bm qh bT Lb d0 d1 d2 r1 r2 l0 l1 l2 m0 m1 m2 fq0 fq1 fq2 fq3;obtain⟨⟨d0,d1,d2⟩,_,_⟩:=uP.o.facts;obtain⟨⟨r1,r2,_⟩,⟨l0,l1,l2⟩,⟨m0,m1,m2⟩,fq0,fq1,fq2,fq3⟩:=xA.o.facts;simp only at r1 r2;cases b1
       ·have uQ:jaH (lo'=lo):=ae Gy.o
        clear Gy;go_wp2_with fail;refine(HL2.o _).mono ?_;rintro e w5 ⟨rfl,bv⟩;have pW:=ae (xA.o.kept bv);have aJ:=ae (ag cA.o bv);have Fz:=ae (uP.o.kept bv);clear bv xA cA uP d0 d1 d2 r1 r2 l0 l1 l2 m0 m1 m2 fq0 fq1 fq2 fq3;obtain⟨⟨d0,d1,d2⟩,_,_⟩:=Fz.o.facts;obtain⟨⟨r1,r2,_⟩,⟨l0,l1,l2⟩,⟨m0,m1,m2⟩,fq0,fq1,fq2,fq3⟩:=pW.o.facts;simp only at r1 r2;cases b2
        ·have oj:jaH (hi'=hi):=ae vV.o
         have nw:=ae (pW.o.some HQ.o.1 HQ.o.2.1 HQ.o.2.2);have qX:=ae (aJ.o.setCell (p:=⟨q1,2,none⟩) (YV HQ.o.1) (.bool true));clear vV;go_wp2_with fail;go_roundw
         case rel=>exact co.o _ _ lo hi sX.o.symm uQ.o.symm oj.o.symm nw.o qX.o
         case measure=>exact Re.o _ rfl
        ·have oj:jaH (hi'=c):=ae vV.o
         have nw:=ae ((pW.o.hi HQ.o.1 HQ.o.2.1 HQ.o.2.2 c).some HQ.o.1 HQ.o.2.1 HQ.o.2.2);have qX:=ae ((set3 aJ.o (YV (Zm (Zm HQ.o.1 HQ.o.2.1) HQ.o.2.2)) (.int .u8 (c.1:Int)) (.int .i64 c.2.1) (.string (ai c.2.2))).setCell (p:=⟨q1,2,none⟩) (YV HQ.o.1) (.bool true));clear vV;go_wp2_with fail;go_roundw
         case rel=>exact co.o _ _ lo c sX.o.symm uQ.o.symm oj.o.symm nw.o qX.o
         case measure=>exact Re.o _ rfl
       ·have uQ:jaH (lo'=c):=ae Gy.o
        clear Gy;go_wp2_with fail;have HR4':=ae (xA.o.lo HQ.o.1 HQ.o.2.1 HQ.o.2.2 c);have HB4':=ae (set3 cA.o (YV (Zm HQ.o.1 HQ.o.2.1)) (.int .u8 (c.1:Int)) (.int .i64 c.2.1) (.string (ai c.2.2)));have HCN4':=ae (((uP.o.other n14 0 (.int .u8 (c.1:Int))).other n14 1 (.int .i64 c.2.1)).other n14 2 (.string (ai c.2.2)));refine(HL2.o _).mono ?_;rintro e w5 ⟨rfl,bv⟩;have pW:=ae (HR4'.o.kept bv);have aJ:=ae (ag HB4'.o bv);have Fz:=ae (HCN4'.o.kept bv);clear bv xA cA uP HR4' HB4' HCN4' d0 d1 d2 r1 r2 l0 l1 l2 m0 m1 m2 fq0 fq1 fq2 fq3;obtain⟨⟨d0,d1,d2⟩,_,_⟩:=Fz.o.facts;obtain⟨⟨r1,r2,_⟩,⟨l0,l1,l2⟩,⟨m0,m1,m2⟩,fq0,fq1,fq2,fq3⟩:=pW.o.facts;simp only at r1 r2;cases b2
        ·have oj:jaH (hi'=hi):=ae vV.o
         have nw:=ae (pW.o.some HQ.o.1 HQ.o.2.1 HQ.o.2.2);have qX:=ae (aJ.o.setCell (p:=⟨q1,2,none⟩) (YV HQ.o.1) (.bool true));clear vV;go_wp2_with fail;go_roundw
         case rel=>exact co.o _ _ c hi sX.o.symm uQ.o.symm oj.o.symm nw.o qX.o
         case measure=>exact Re.o _ rfl
        ·have oj:jaH (hi'=c):=ae vV.o
         have nw:=ae ((pW.o.hi HQ.o.1 HQ.o.2.1 HQ.o.2.2 c).some HQ.o.1 HQ.o.2.1 HQ.o.2.2);have qX:=ae ((set3 aJ.o (YV (Zm (Zm HQ.o.1 HQ.o.2.1) HQ.o.2.2)) (.int .u8 (c.1:Int)) (.int .i64 c.2.1) (.string (ai c.2.2))).setCell (p:=⟨q1,2,none⟩) (YV HQ.o.1) (.bool true));clear vV;go_wp2_with fail;go_roundw
         case rel=>exact co.o _ _ c c sX.o.symm uQ.o.symm oj.o.symm nw.o qX.o
         case measure=>exact Re.o _ rfl
    ·have sX:jaH (cl'=cl):=ae (by
      have:¬ c.1=3:=fun h=>by rw[h]at h3;simp at h3
      rw[oo.o];simp[this])
     have qh:=jF;have bT:=aK;have Lb:=jI;clear jF aK jI;cases so
     ·have Gy:jaH (lo'=c):=ae (by rw[uT.o,Yy (Or.inl rfl)])
      have vV:jaH (hi'=c):=ae (by rw[Vm.o,Yy (Or.inl rfl)]);have nw:=ae (((qh.o.lo HQ.o.1 HQ.o.2.1 HQ.o.2.2 c).hi HQ.o.1 HQ.o.2.1 HQ.o.2.2 c).some HQ.o.1 HQ.o.2.1 HQ.o.2.2);have qX:=ae ((set3 (set3 bT.o (YV (Zm HQ.o.1 HQ.o.2.1)) (.int .u8 (c.1:Int)) (.int .i64 c.2.1) (.string (ai c.2.2))) (YV (Zm (Zm HQ.o.1 HQ.o.2.1) HQ.o.2.2)) (.int .u8 (c.1:Int)) (.int .i64 c.2.1) (.string (ai c.2.2))).setCell (p:=⟨q1,2,none⟩) (YV HQ.o.1) (.bool true));clear uT Vm;go_wp2_with fail;go_roundw
      case rel=>exact co.o _ _ c c sX.o.symm Gy.o.symm vV.o.symm nw.o qX.o
      case measure=>exact Re.o _ rfl
     ·have Gy:jaH (lo'=if decide (ch c lo<0)=true then c else lo):=ae (by rw[uT.o];simp)
      have vV:jaH (hi'=if decide (ch hi c<0)=true then c else hi):=ae (by rw[Vm.o];simp);clear uT Vm;generalize decide (ch c lo<0)=b1 at *;generalize decide (ch hi c<0)=b2 at *;go_wp2_with fail;refine(HL1.o _).mono ?_;rintro e w4 ⟨rfl,bm⟩;have xA:=ae (qh.o.kept bm);have cA:=ae (ag bT.o bm);have uP:=ae (Lb.o.kept bm);clear bm qh bT Lb d0 d1 d2 r1 r2 l0 l1 l2 m0 m1 m2 fq0 fq1 fq2 fq3;obtain⟨⟨d0,d1,d2⟩,_,_⟩:=uP.o.facts;obtain⟨⟨r1,r2,_⟩,⟨l0,l1,l2⟩,⟨m0,m1,m2⟩,fq0,fq1,fq2,fq3⟩:=xA.o.facts;simp only at r1 r2;cases b1
      ·have uQ:jaH (lo'=lo):=ae Gy.o
       clear Gy;go_wp2_with fail;refine(HL2.o _).mono ?_;rintro e w5 ⟨rfl,bv⟩;have pW:=ae (xA.o.kept bv);have aJ:=ae (ag cA.o bv);have Fz:=ae (uP.o.kept bv);clear bv xA cA uP d0 d1 d2 r1 r2 l0 l1 l2 m0 m1 m2 fq0 fq1 fq2 fq3;obtain⟨⟨d0,d1,d2⟩,_,_⟩:=Fz.o.facts;obtain⟨⟨r1,r2,_⟩,⟨l0,l1,l2⟩,⟨m0,m1,m2⟩,fq0,fq1,fq2,fq3⟩:=pW.o.facts;simp only at r1 r2;cases b2
       ·have oj:jaH (hi'=hi):=ae vV.o
        have nw:=ae (pW.o.some HQ.o.1 HQ.o.2.1 HQ.o.2.2);have qX:=ae (aJ.o.setCell (p:=⟨q1,2,none⟩) (YV HQ.o.1) (.bool true));clear vV;go_wp2_with fail;go_roundw
        case rel=>exact co.o _ _ lo hi sX.o.symm uQ.o.symm oj.o.symm nw.o qX.o
        case measure=>exact Re.o _ rfl
       ·have oj:jaH (hi'=c):=ae vV.o
        have nw:=ae ((pW.o.hi HQ.o.1 HQ.o.2.1 HQ.o.2.2 c).some HQ.o.1 HQ.o.2.1 HQ.o.2.2);have qX:=ae ((set3 aJ.o (YV (Zm (Zm HQ.o.1 HQ.o.2.1) HQ.o.2.2)) (.int .u8 (c.1:Int)) (.int .i64 c.2.1) (.string (ai c.2.2))).setCell (p:=⟨q1,2,none⟩) (YV HQ.o.1) (.bool true));clear vV;go_wp2_with fail;go_roundw
        case rel=>exact co.o _ _ lo c sX.o.symm uQ.o.symm oj.o.symm nw.o qX.o
        case measure=>exact Re.o _ rfl
      ·have uQ:jaH (lo'=c):=ae Gy.o
       clear Gy;go_wp2_with fail;have HR4':=ae (xA.o.lo HQ.o.1 HQ.o.2.1 HQ.o.2.2 c);have HB4':=ae (set3 cA.o (YV (Zm HQ.o.1 HQ.o.2.1)) (.int .u8 (c.1:Int)) (.int .i64 c.2.1) (.string (ai c.2.2)));have HCN4':=ae (((uP.o.other n14 0 (.int .u8 (c.1:Int))).other n14 1 (.int .i64 c.2.1)).other n14 2 (.string (ai c.2.2)));refine(HL2.o _).mono ?_;rintro e w5 ⟨rfl,bv⟩;have pW:=ae (HR4'.o.kept bv);have aJ:=ae (ag HB4'.o bv);have Fz:=ae (HCN4'.o.kept bv);clear bv xA cA uP HR4' HB4' HCN4' d0 d1 d2 r1 r2 l0 l1 l2 m0 m1 m2 fq0 fq1 fq2 fq3;obtain⟨⟨d0,d1,d2⟩,_,_⟩:=Fz.o.facts;obtain⟨⟨r1,r2,_⟩,⟨l0,l1,l2⟩,⟨m0,m1,m2⟩,fq0,fq1,fq2,fq3⟩:=pW.o.facts;simp only at r1 r2;cases b2
       ·have oj:jaH (hi'=hi):=ae vV.o
        have nw:=ae (pW.o.some HQ.o.1 HQ.o.2.1 HQ.o.2.2);have qX:=ae (aJ.o.setCell (p:=⟨q1,2,none⟩) (YV HQ.o.1) (.bool true));clear vV;go_wp2_with fail;go_roundw
        case rel=>exact co.o _ _ c hi sX.o.symm uQ.o.symm oj.o.symm nw.o qX.o
        case measure=>exact Re.o _ rfl
       ·have oj:jaH (hi'=c):=ae vV.o
        have nw:=ae ((pW.o.hi HQ.o.1 HQ.o.2.1 HQ.o.2.2 c).some HQ.o.1 HQ.o.2.1 HQ.o.2.2);have qX:=ae ((set3 aJ.o (YV (Zm (Zm HQ.o.1 HQ.o.2.1) HQ.o.2.2)) (.int .u8 (c.1:Int)) (.int .i64 c.2.1) (.string (ai c.2.2))).setCell (p:=⟨q1,2,none⟩) (YV HQ.o.1) (.bool true));clear vV;go_wp2_with fail;go_roundw
        case rel=>exact co.o _ _ c c sX.o.symm uQ.o.symm oj.o.symm nw.o qX.o
        case measure=>exact Re.o _ rfl
  ·obtain rfl:j=cs.length:=by omega
   rw[YK]at HR ⊢;have eO:¬ ((cs.length:Nat):Int)<(cs.length:Int):=(by omega);have XZ:jaH ((aP cs).length<=cs.length):=ae (jao _ _)
   have Yv:jaH (eF cs=if soM (aP cs)=false then ⟨cs.length,(cs.length:Int)-((aP cs).length:Nat),false,false,nul,nul⟩
    else if (leM (aP cs)).1=3 then (if ckM (aP cs)=false then ⟨cs.length,(cs.length:Int)-((aP cs).length:Nat),true,false,((leM (aP cs)).1,(leM (aP cs)).2.1,[]),nul⟩
     else match di (lb (ai (moM (aP cs)).2.2)) 4 with
      | none=>⟨cs.length,(cs.length:Int)-((aP cs).length:Nat),true,false,((leM (aP cs)).1,(leM (aP cs)).2.1,nb (bC (lb (ai (leM (aP cs)).2.2)) 4)),nul⟩
      | some a=>⟨cs.length,(cs.length:Int)-((aP cs).length:Nat),true,true,((leM (aP cs)).1,(leM (aP cs)).2.1,nb (bC (lb (ai (leM (aP cs)).2.2)) 4)),((moM (aP cs)).1,(moM (aP cs)).2.1,nb a)⟩)
    else ⟨cs.length,(cs.length:Int)-((aP cs).length:Nat),true,true,leM (aP cs),moM (aP cs)⟩):=ae rfl
   have Qv:jaH (∀ c∈aP cs,aI c):=ae (fun c hc=>HF.o c (by unfold aP at hc;exact(jaz.1 hc).1))
   have uZ:jaH (aI (leM (aP cs))):=ae (by
    have:=Qv.o;cases hn:aP cs with
    | nil=>exact Or.inl rfl
    | cons x r=>rw[hn]at this;exact kE (this x (by simp)) (fun c hc=>this c (by simp[hc])))
   have km:jaH (aI (moM (aP cs))):=ae (by
    have:=Qv.o;cases hn:aP cs with
    | nil=>exact Or.inl rfl
    | cons x r=>rw[hn]at this;exact lO (this x (by simp)) (fun c hc=>this c (by simp[hc])))
   generalize ckM (aP cs)=ck at *;generalize soM (aP cs)=so at *;generalize leM (aP cs)=lo at *;generalize moM (aP cs)=hi at *;generalize (cs.length:Int)-((aP cs).length:Nat)=mm at *;obtain⟨n1,n2,n3,n4,n5,n6,n7,n8,n9,n10,n11,n12⟩:=uY.o;cases so
   ·have sU:jaH (eF cs=⟨cs.length,mm,false,false,nul,nul⟩):=ae (by rw[Yv.o,Yy rfl])
    obtain⟨_,⟨r0,r1,r2,r3⟩,⟨r4,r5,r6⟩,r7,r8,r9⟩:=HR.o.2.1.at;obtain⟨_,⟨z0,z1,z2,z3⟩,⟨z4,z5,z6⟩,z7,z8,z9⟩:=HR.o.1.at;obtain⟨_,_,_,fq0,fq1,fq2,fq3⟩:=HR.o.facts;simp only[YY]at r0 r1 r2 r3 r4 r5 r6 r7 r8 r9 z0 z1 z2 z3 z4 z5 z6 z7 z8 z9;clear Yv;go_wp2_with fail;refine bodyPost_ret (v:=.agg #[.int .i64 (cs.length:Int),.int .i64 mm,.bool false,.bool false,.int .u8 0,.int .i64 0,.string ⟨#[]⟩,.int .u8 0,.int .i64 0,.string ⟨#[]⟩]) (by simp[results,Tryz.results25,go_sem,nul,dr,z0,z1,z2,z3,z4,z5,z6,z7,z8,z9]) rfl ⟨?_,?_⟩
    ·rw[sU.o]
     rfl
    ·have:=HQ.o
     repeat refine es ?_ (by omega) _ _
     exact HB.o
   ·by_cases h3:lo.1=3
    ·have h3':((lo.1:Int)==3)=true:=by rw[h3];rfl
     have zk:=ae (ye (ai lo.2.2) 4 (by have:=uZ.o.short;omega));have UO:=ae (yo (ai hi.2.2) 4 (by have:=km.o.short;omega))
     have sU:jaH (eF cs=if ck=false then ⟨cs.length,mm,true,false,(lo.1,lo.2.1,[]),nul⟩ else match di (lb (ai hi.2.2)) 4 with
      | none=>⟨cs.length,mm,true,false,(lo.1,lo.2.1,nb (bC (lb (ai lo.2.2)) 4)),nul⟩
      | some a=>⟨cs.length,mm,true,true,(lo.1,lo.2.1,nb (bC (lb (ai lo.2.2)) 4)),(hi.1,hi.2.1,nb a)⟩):=ae (by rw[Yv.o,Yx (by simp),Yy h3])
     obtain⟨⟨r1,r2,r3⟩,⟨l0,l1,l2⟩,_,fq0,fq1,fq2,fq3⟩:=HR.o.facts;simp only at r1 r2 r3;clear h3 Yv;go_wp2_with fail;have HR':=ae (HR.o.high HQ.o.1 HQ.o.2.1 HQ.o.2.2 true);have HB':=ae (HB.o.setCell (p:=⟨q1,3,none⟩) (YV HQ.o.1) (.bool true));refine(zk.o _).mono ?_;rintro e w3 ⟨⟨t,rfl,ht⟩,aO⟩;have qh:=ae (HR'.o.kept aO);have bT:=ae (ag HB'.o aO);have xx:=ae (FZ ht);clear aO ht HR HB HR' HB' r1 r2 r3 l0 l1 l2 fq0 fq1 fq2 fq3;cases ck
     ·have Vn:jaH (eF cs=⟨cs.length,mm,true,false,(lo.1,lo.2.1,[]),nul⟩):=ae (by rw[sU.o,Yy rfl])
      clear sU;obtain⟨_,⟨r0,r1,r2,r3⟩,⟨r4,r5,r6⟩,r7,r8,r9⟩:=qh.o.2.1.at;obtain⟨_,⟨z0,z1,z2,z3⟩,⟨z4,z5,z6⟩,z7,z8,z9⟩:=qh.o.1.at;obtain⟨_,⟨l0,l1,l2⟩,⟨m0,m1,m2⟩,fq0,fq1,fq2,fq3⟩:=qh.o.facts;simp only[YY]at r0 r1 r2 r3 r4 r5 r6 r7 r8 r9 z0 z1 z2 z3 z4 z5 z6 z7 z8 z9 l0 l1 l2 m0 m1 m2;go_wp2_with fail;refine bodyPost_ret (v:=.agg #[.int .i64 (cs.length:Int),.int .i64 mm,.bool true,.bool false,.int .u8 (lo.1:Int),.int .i64 lo.2.1,.string ⟨#[]⟩,.int .u8 0,.int .i64 0,.string ⟨#[]⟩]) (by simp[results,Tryz.results25,go_sem,nul,dr,z0,z1,z2,z3,z4,z5,z6,z7,z8,z9,n1,n2,n3,n4,n5,n6,n7,n8,n9,n10,n11,n12]) rfl ⟨?_,?_⟩
      ·rw[Vn.o]
       rfl
      ·have:=HQ.o
       repeat refine es ?_ (by omega) _ _
       exact bT.o
     ·have Vn:jaH (eF cs=match di (lb (ai hi.2.2)) 4 with
       | none=>⟨cs.length,mm,true,false,(lo.1,lo.2.1,nb (bC (lb (ai lo.2.2)) 4)),nul⟩
       | some a=>⟨cs.length,mm,true,true,(lo.1,lo.2.1,nb (bC (lb (ai lo.2.2)) 4)),(hi.1,hi.2.1,nb a)⟩):=ae (by rw[sU.o,Yx (by simp)])
      clear sU;rw[xx.o];generalize nb (bC (lb (ai lo.2.2)) 4)=fl at *;obtain⟨⟨r1,r2,r3⟩,⟨l0,l1,l2⟩,⟨m0,m1,m2⟩,fq0,fq1,fq2,fq3⟩:=qh.o.facts;simp only at r1 r2 r3;clear xx;go_wp2_with fail;have HR3':=ae (qh.o.loS HQ.o.1 HQ.o.2.1 HQ.o.2.2 fl);have HB3':=ae (bT.o.setCell (p:=⟨q2,2,none⟩) (YV (Zm HQ.o.1 HQ.o.2.1)) (.string (ai fl)));refine(UO.o _).mono ?_;rintro e w4 ⟨⟨t2,o,rfl,ho,Fh⟩,bm⟩;have xA:=ae (HR3'.o.kept bm);have cA:=ae (ag HB3'.o bm);clear bm qh bT HR3' HB3' r1 r2 r3 l0 l1 l2 m0 m1 m2 fq0 fq1 fq2 fq3;cases Qj:di (lb (ai hi.2.2)) 4 with
      | none =>
       rw[Qj]at Vn ho;have ho':o=false:=ho;subst ho';have HD4:jaH (eF cs=⟨cs.length,mm,true,false,(lo.1,lo.2.1,fl),nul⟩):=ae Vn.o;clear Qj ho Fh Vn;obtain⟨_,⟨r0,r1,r2,r3⟩,⟨r4,r5,r6⟩,r7,r8,r9⟩:=xA.o.2.1.at;obtain⟨_,⟨z0,z1,z2,z3⟩,⟨z4,z5,z6⟩,z7,z8,z9⟩:=xA.o.1.at;obtain⟨_,⟨l0,l1,l2⟩,⟨m0,m1,m2⟩,fq0,fq1,fq2,fq3⟩:=xA.o.facts;simp only[YY]at r0 r1 r2 r3 r4 r5 r6 r7 r8 r9 z0 z1 z2 z3 z4 z5 z6 z7 z8 z9 l0 l1 l2 m0 m1 m2;go_wp2_with fail;refine bodyPost_ret (v:=.agg #[.int .i64 (cs.length:Int),.int .i64 mm,.bool true,.bool false,.int .u8 (lo.1:Int),.int .i64 lo.2.1,.string (ai fl),.int .u8 0,.int .i64 0,.string ⟨#[]⟩]) (by simp[results,Tryz.results25,go_sem,nul,dr,z0,z1,z2,z3,z4,z5,z6,z7,z8,z9,n1,n2,n3,n4,n5,n6,n7,n8,n9,n10,n11,n12]) rfl ⟨?_,?_⟩
       ·rw[HD4.o]
        rfl
       ·have:=HQ.o
        repeat refine es ?_ (by omega) _ _
        exact cA.o
      | some av =>
       rw[Qj]at Vn ho Fh;have ho':o=true:=ho;subst ho';have HD4:jaH (eF cs=⟨cs.length,mm,true,true,(lo.1,lo.2.1,fl),(hi.1,hi.2.1,nb av)⟩):=ae Vn.o;have xx:=ae (FZ (show lb t2=av from Fh));clear Qj ho Fh Vn;obtain⟨_,⟨r0,r1,r2,r3⟩,⟨r4,r5,r6⟩,r7,r8,r9⟩:=xA.o.2.1.at;obtain⟨_,⟨z0,z1,z2,z3⟩,⟨z4,z5,z6⟩,z7,z8,z9⟩:=xA.o.1.at;obtain⟨_,⟨l0,l1,l2⟩,⟨m0,m1,m2⟩,fq0,fq1,fq2,fq3⟩:=xA.o.facts;simp only[YY]at r0 r1 r2 r3 r4 r5 r6 r7 r8 r9 z0 z1 z2 z3 z4 z5 z6 z7 z8 z9 l0 l1 l2 m0 m1 m2;go_wp2_with fail;refine bodyPost_ret (v:=.agg #[.int .i64 (cs.length:Int),.int .i64 mm,.bool true,.bool true,.int .u8 (lo.1:Int),.int .i64 lo.2.1,.string (ai fl),.int .u8 (hi.1:Int),.int .i64 hi.2.1,.string t2]) (by simp[results,Tryz.results25,go_sem,nul,dr,z0,z1,z2,z3,z4,z5,z6,z7,z8,z9,n1,n2,n3,n4,n5,n6,n7,n8,n9,n10,n11,n12]) rfl ⟨?_,?_⟩
       ·rw[HD4.o,xx.o]
        rfl
       ·have:=HQ.o
        repeat refine es ?_ (by omega) _ _
        exact cA.o
    ·have h3':((lo.1:Int)==3)=false:=YN.2 (by omega)
     have sU:jaH (eF cs=⟨cs.length,mm,true,true,lo,hi⟩):=ae (by rw[Yv.o,Yx (by simp),Yx h3]);clear h3 Yv;obtain⟨_,⟨r0,r1,r2,r3⟩,⟨r4,r5,r6⟩,r7,r8,r9⟩:=HR.o.2.1.at;obtain⟨_,⟨z0,z1,z2,z3⟩,⟨z4,z5,z6⟩,z7,z8,z9⟩:=HR.o.1.at;obtain⟨_,⟨l0,l1,l2⟩,⟨m0,m1,m2⟩,fq0,fq1,fq2,fq3⟩:=HR.o.facts;simp only[YY]at r0 r1 r2 r3 r4 r5 r6 r7 r8 r9 z0 z1 z2 z3 z4 z5 z6 z7 z8 z9 l0 l1 l2 m0 m1 m2;go_wp2_with fail;refine bodyPost_ret (v:=.agg #[.int .i64 (cs.length:Int),.int .i64 mm,.bool true,.bool true,.int .u8 (lo.1:Int),.int .i64 lo.2.1,.string (ai lo.2.2),.int .u8 (hi.1:Int),.int .i64 hi.2.1,.string (ai hi.2.2)]) (by simp[results,Tryz.results25,go_sem,nul,dr,z0,z1,z2,z3,z4,z5,z6,z7,z8,z9,n1,n2,n3,n4,n5,n6,n7,n8,n9,n10,n11,n12]) rfl ⟨?_,?_⟩
     ·rw[sU.o]
      rfl
     ·have:=HQ.o
      repeat refine es ?_ (by omega) _ _
      exact HB.o
theorem Gp:∀(r:List Cl) (m:Cl),eX m r∈m::r
 | [],m=>by simp[eX]
 | x::r,m=>by
  unfold eX;have:=Gp r (if ch x m<0 then x else m);rcases YQ.1 this with h | h
  ·rw[h]
   split
   ·simp
   ·simp
  ·simp[h]
theorem Gq:∀(r:List Cl) (m:Cl),dF m r∈m::r
 | [],m=>by simp[dF]
 | x::r,m=>by
  unfold dF;have:=Gq r (if 0<ch x m then x else m);rcases YQ.1 this with h | h
  ·rw[h]
   split
   ·simp
   ·simp
  ·simp[h]
theorem Fa{cs:List Cl}{k:Nat}(hf:∀ c∈cs,aI c)(hk:∀ c∈cs,c.1=k∨c=nul):eF cs=bJ cs:=by
 have GA:∀ c∈aP cs,aI c/\c.1=k:=fun c hc=>by
  unfold aP at hc;obtain⟨h1,h2⟩:=jaz.1 hc;refine⟨hf c h1,?_⟩;rcases hk c h1 with h | h
  ·exact h
  ·rw[h]at h2
   simp[nul]at h2
 unfold eF bJ;cases hn:aP cs with
 | nil=>simp[soM]
 | cons x r =>
  rw[hn]at GA;have Lr:=GA _ (Gp r x);have Yw:=GA _ (Gq r x);rw[Yx (by simp[soM])];show (if (eX x r).1=3 then _ else _)=_
  rw[Lr.2];have e1:(leM (x::r))=eX x r:=rfl;have e2:(moM (x::r))=dF x r:=rfl;rw[e1,e2];show _=(⟨cs.length,(cs.length:Int)-((x::r).length:Nat),true,(fo (dF x r) ((x::r).all dT)).2,lP (eX x r) ((x::r).all dT),(fo (dF x r) ((x::r).all dT)).1⟩:Stt)
  by_cases h3:k=3
  ·rw[Yy h3]
   have ek:ckM (x::r)=(x::r).all dT:=by
    unfold ckM;rw[jaj,List.all_eq_true,List.all_eq_true];constructor
    ·intro h c hc
     have:=h c hc;have h4:=(GA c hc).2;rw[h4,h3]at this;simpa using this
    ·intro h c hc
     rw[h c hc];simp
   rw[ek];subst h3
   have hmz:(eX x r).2.1=0/\(dF x r).2.1=0:=by
    constructor
    ·rcases Lr.1 with h | ⟨n,h,_⟩ | ⟨n,h,_⟩ | ⟨s,h,_⟩
     ·rw[h];rfl
     ·have:=Lr.2;rw[h]at this;simp at this
     ·have:=Lr.2;rw[h]at this;simp at this
     ·rw[h]
    ·rcases Yw.1 with h | ⟨n,h,_⟩ | ⟨n,h,_⟩ | ⟨s,h,_⟩
     ·rw[h];rfl
     ·have:=Yw.2;rw[h]at this;simp at this
     ·have:=Yw.2;rw[h]at this;simp at this
     ·rw[h]
   have el:∀ cl,lP (eX x r) cl=if cl=false then (3,0,[]) else (3,0,nb (bC (lb (ai (eX x r).2.2)) 4)):=fun cl=>by
    unfold lP;rw[Lr.2,hmz.1];cases cl
    ·rw[Yy ⟨rfl,rfl⟩,Yy rfl]
    ·rw[Yx (by simp),Yx (by simp)]
   have eh:∀ cl,fo (dF x r) cl=match fG (lb (ai (dF x r).2.2)) 4 with
    | none=>(nul,false)
    | some a=>if cl=true then ((3,0,nb a),true) else (nul,false):=fun cl=>by
    unfold fo;rw[Yy Yw.2];cases fG (lb (ai (dF x r).2.2)) 4<;>rfl
   rw[el,eh,Lr.2,Yw.2,hmz.1,hmz.2,← ud];cases hc:(x::r).all dT
   ·rw[Yy rfl,Yy rfl]
    cases fG (lb (ai (dF x r).2.2)) 4<;>rfl
   ·rw[Yx (by simp),Yx (by simp)]
    cases fG (lb (ai (dF x r).2.2)) 4<;>rfl
  ·rw[Yx h3]
   have ht:(eX x r).2.2=[]:=by
    rcases Lr.1 with h | ⟨n,h,_⟩ | ⟨n,h,_⟩ | ⟨s,h,_⟩
    ·rw[h];rfl
    ·rw[h]
    ·rw[h]
    ·have:=Lr.2;rw[h]at this;exact absurd this.symm h3
   have el:∀ cl,lP (eX x r) cl=eX x r:=fun cl=>by
    unfold lP;rw[Yx (fun h=>h3 (Lr.2.symm.trans h.1)),ht];have h0:lb (ai ([]:List Nat))=[]:=rfl;rw[h0];have h1:nb (bC [] 4)=[]:=by simp[bC,nb]
    rw[h1,← ht]
   have eh:∀ cl,fo (dF x r) cl=(dF x r,true):=fun cl=>by
    unfold fo;rw[Yx (fun h=>h3 (Yw.2.symm.trans h))]
   rw[el,eh]
theorem Kt{fs:List Fd}{p:List Row}{k:Nat}(h:Col (lA fs k) (bq p k)):∀ c∈bq p k,c.1=lA fs k∨c=nul:=fun c hc=>by
 rcases h.2.2 c hc with e | ⟨hk,n,e,_⟩ | ⟨hk,n,e,_⟩ | ⟨hk,n,e,_⟩
 ·exact .inr e
 ·rw[e,hk];exact .inl rfl
 ·rw[e,hk];exact .inl rfl
 ·rw[e,hk];exact .inl rfl
theorem vN{w:World}(ty:TypeId)(base:Nat)(v vx:Value)(l0 l:List Cl)(aw:OwnV w base v l0)(et:Sv w vx (aC l))(hbytes:l0.length+l.length<=1000000)(aD:base<=w.heap.size) :
  ∃ v' w',(Builtin.append_ #[79,79] ty #[v,vx]).run Tryz.prog w=.ok v' w'/\OwnV w' base v' (l0++l)/\Below base w w':=by
 obtain⟨i0,hi,bN,hz1',bh⟩:=YW qi;unfold OwnV at *;obtain⟨ad,cap,rfl,h1,h2,h3,h4⟩:=et;rw[ax]at *;cases ad with
 | none =>
  have hc:=h3 rfl;subst hc;have hl:l=[]:=YU (by omega);subst hl;have hr:=jae (P:=Tryz.prog) (w:=w) base 79 ty 78 i0 1 Tryz.underlying79 hi v l0.length (aC l0) aw;refine⟨v,w,hr,by rw[YZ];exact aw,Yz _ _⟩
 | some ad =>
  obtain⟨v',w',hr,o1,g1,_,e1⟩:=run_append_own_at (P:=Tryz.prog) w base 79 ty 78 i0 .nilIface 1 16 Tryz.underlying79 hi bN hz1' bh rfl (by decide) v l0.length (aC l0) aw ad l.length cap (aC l) (by rw[ax];omega)
   (fun j u hu=>by
    have hj:j<l.length:=by
     have:=(List.getElem?_eq_some_iff.1 hu).1;rwa[ax]at this
    obtain⟨b,off,h5,_,h6⟩:=h4 (by omega);cases h5
    rw[kq];exact h6 j u hu) (mW l) (by unfold maxLen;omega) (by omega) aD
  refine⟨v',w',hr,?_,(Yz base w).grown g1 aD (fun k hk=>(aw.lt k hk).1)⟩;rw[iI,YC];exact o1
theorem qW{w:World}{ops:Array Oper}{rest:List Oper}{o:Oper}{a:Act}{Q:Exit->Act->World->Prop}(dO:o.guard=none)(s x:Operand)
  (ho:o.op=.call { callee:=.builtin .append,args:=#[s,x],argTypes:=#[79,79] })
  (base:Nat) (v vx:Value) (l0 l:List Cl) (hs:a.eval s=v) (aw:OwnV w base v l0) (hx:a.eval x=vx) (et:Sv w vx (aC l)) (hbytes:l0.length+l.length<=1000000) (aD:base<=w.heap.size)
  (h:∀ v' w',OwnV w' base v' (l0++l)->Below base w w'->wpList Tryz.prog ops Q rest (a.put o.dst v') w') :
  wpList Tryz.prog ops Q (o::rest) a w :=
 wpList_plain dO fun K hK=>by
  obtain⟨v',w',hr,h2,h3⟩:=vN o.type base v vx l0 l aw et hbytes aD;unfold Oper.wp execOp;simp only[ho,resolve,invoke,builtin,Sem.run_bind,Sem.run_pure,Result.andThen_ok,ZP,Zh,Zs,hs,hx,hr];exact hK _ _ (h v' w' h2 h3)
theorem Gro.rv{W:World}{B:Nat}{a b:Value}{rows:List Row}{sts:List Stt}(h:Gro W B (.agg #[a,b]) rows sts)(hl:rows.length<=1000):Rv W a rows:=by
 obtain⟨R,rfl,_,hR,_,h4⟩:=h.rows;refine⟨some ⟨R,0,none⟩,rows.length,rfl,YA _,by unfold maxLen;omega,?_,?_⟩
 ·intro h
  cases h
 ·intro _
  refine⟨R,0,rfl,hR,fun j hj=>?_⟩;obtain⟨rv,e1,e2⟩:=h4 j hj;exact⟨rv,by rw[YY];exact e1,e2.sv⟩
theorem BT(a b:List Row)(k:Nat):bq (a++b) k=bq a k++bq b k:=YX
theorem Fb{rs:List Row}{k:Nat}(hk:∀ r∈rs,k<r.length)(hf:∀ r∈rs,∀ c∈r,aI c):∀ c∈bq rs k,aI c:=by
 intro c hc;obtain⟨r,hr,rfl⟩:=YS.1 hc;have h:=hk r hr;rw[List.getD_eq_getElem?_getD,List.getElem?_eq_getElem h];exact hf r hr _ (YF h)
theorem Fc{w:World}{B fp id:Nat}{fv:Value}{gs:List Gr}{fs:List Fd}(h:Fil w B fp id fv gs)(hf:Sf w fv fs)(i:Int)(hi:i<0∨(fs.length:Int)<=i) :
  Calls Tryz.prog 24 #[.pointer (some ⟨fp,0,none⟩),.int .i64 i] w fun e w'=>e=.returned (.tuple #[kU stZ,.bool false])/\Below w.heap.size w w':=by
 obtain⟨gv,xs,h1,h2,h3,h4⟩:=h;obtain⟨fa,fc,rfl,_,_⟩:=hf.form;have KY:fp<w.heap.size:=(Array.getElem?_eq_some_iff.1 h1).1;have c1:w.cell? ⟨fp,1,none⟩=some (.slice fa fs.length fc):=by rw[an h1];rfl
 have cO:=aj w (.cells #[.int .i64 0,.int .i64 0,.bool false,.bool false,.int .u8 0,.int .i64 0,.string ⟨#[]⟩,.int .u8 0,.int .i64 0,.string ⟨#[]⟩] 54);have bN:Stb (w.alloc (.cells #[.int .i64 0,.int .i64 0,.bool false,.bool false,.int .u8 0,.int .i64 0,.string ⟨#[]⟩,.int .u8 0,.int .i64 0,.string ⟨#[]⟩] 54)) w.heap.size stZ:=Stb.new w stZ;have d1:=(cO.cell (p:=⟨fp,1,none⟩) KY).trans c1;have co:=ae (Ay cO (YA _) (.int .i64 0) (.int .i64 0) (.bool false) (.bool false) (.int .u8 0) (.int .i64 0) (.string ⟨#[]⟩) (.int .u8 0) (.int .i64 0) (.string ⟨#[]⟩));have fz:=bN.frozen;obtain⟨_,⟨r0,r1,r2,r3⟩,⟨r4,r5,r6⟩,r7,r8,r9⟩:=bN.at;simp only[YY]at r0 r1 r2 r3 r4 r5 r6 r7 r8 r9;clear h1 h2 h3 h4 hf cO bN c1;generalize hA:w.alloc (.cells #[.int .i64 0,.int .i64 0,.bool false,.bool false,.int .u8 0,.int .i64 0,.string ⟨#[]⟩,.int .u8 0,.int .i64 0,.string ⟨#[]⟩] 54)=A at *;by_cases hneg:i<0
 ·go_enter Tryz.func24,Tryz.ntmps24
  go_wp2_with fail;try rw[hA]
  refine bodyPost_ret (v:=.tuple #[kU stZ,.bool false]) (by simp[results,Tryz.results24,go_sem,kU,stZ,nul,ai,r0,r1,r2,r3,r4,r5,r6,r7,r8,r9]) rfl ⟨rfl,?_⟩;exact co.o
 ·have eO:(fs.length:Int)<=i:=by omega
  go_enter Tryz.func24,Tryz.ntmps24
  go_wp2_with fail;try rw[hA]
  refine bodyPost_ret (v:=.tuple #[kU stZ,.bool false]) (by simp[results,Tryz.results24,go_sem,kU,stZ,nul,ai,r0,r1,r2,r3,r4,r5,r6,r7,r8,r9]) rfl ⟨rfl,?_⟩;exact co.o
theorem Fe{w:World}{B fp id:Nat}{fv:Value}{gs:List Gr}{fs:List Fd}(h:Fil w B fp id fv gs)(hf:Sf w fv fs)(c:Nat)(hc:c<fs.length)(bg:∀ r∈aZ gs,c<r.length)(QT:∀ r∈aZ gs,∀ x∈r,aI x)(sW:(aZ gs).length<=1000) :
  Calls Tryz.prog 24 #[.pointer (some ⟨fp,0,none⟩),.int .i64 (c:Int)] w fun e w'=>e=.returned (.tuple #[kU (bJ (bq (aZ gs) c)),.bool true])/\Below w.heap.size w w':=by
 obtain⟨gv,xs,h1,h2,h3,h4⟩:=h;obtain⟨fa,fc,rfl,_,_⟩:=hf.form;obtain⟨ga,gc,rfl,hgc,hgm⟩:=bf h3;have KY:fp<w.heap.size:=(Array.getElem?_eq_some_iff.1 h1).1;have c1:w.cell? ⟨fp,1,none⟩=some (.slice fa fs.length fc):=by rw[an h1];rfl
 have c2:w.cell? ⟨fp,2,none⟩=some (.slice ga gs.length gc):=by rw[an h1];rfl
 have HG:jaH (∀ k (hk:k<gs.length),∃ G R va vn vc,ga=some ⟨G,0,none⟩/\gs[k].1.length<=1000/\∀ W,Below w.heap.size w W->W.cell? ⟨G,k*2,none⟩=some (.slice (some ⟨R,0,none⟩) gs[k].1.length gs[k].1.length)/\W.cell? ⟨G,k*2+1,none⟩=some (.slice va vn vc)/\Rv W (.slice (some ⟨R,0,none⟩) gs[k].1.length gs[k].1.length) gs[k].1):=ae (fun k hk=>by
  obtain⟨a,b,e1,e2,e3⟩:=h4 k hk;have hr:=gR hk;have vO:=cT gs (k+1);rw[hr,YC]at vO;have oh:=e3.rv (by omega);obtain⟨R,rfl,g1,g2,⟨va,vn,vc,rfl⟩,g4⟩:=e3.rows;obtain⟨G,rfl,_,hG,jy⟩:=eN h3 e1;obtain⟨_,e,_,_,jH⟩:=eN h3 e2;cases e
  exact⟨G,R,va,vn,vc,rfl,by omega,fun W hb=>⟨(hb.cell (p:=⟨G,k*2,none⟩) hG).trans (by rw[Zi];exact jy),(hb.cell (p:=⟨G,k*2+1,none⟩) hG).trans (by rw[Zi k];exact jH),oh.kept hb⟩⟩)
 have HT:=ae (fun j=>cT gs j);have sj:jaH (∀ j (h:j<gs.length),bq (aZ (gs.take (j+1))) c=bq (aZ (gs.take j)) c++bq gs[j].1 c):=ae (fun j h=>by rw[gR h,BT]);have HTA:jaH (aZ (gs.take gs.length)=aZ gs):=ae (by rw[YK]);have HT0:jaH (bq (aZ (gs.take 0)) c=[]):=ae rfl;have HGL:jaH (∀ k (hk:k<gs.length),∀ r∈gs[k].1,c<r.length):=ae (fun k hk r hr=>bg r (uE hk hr));have zk:=ae (Fb bg QT);have zg:=ae sW;have cO:=aj w (.cells #[.int .i64 0,.int .i64 0,.bool false,.bool false,.int .u8 0,.int .i64 0,.string ⟨#[]⟩,.int .u8 0,.int .i64 0,.string ⟨#[]⟩] 54);have bN:Stb (w.alloc (.cells #[.int .i64 0,.int .i64 0,.bool false,.bool false,.int .u8 0,.int .i64 0,.string ⟨#[]⟩,.int .u8 0,.int .i64 0,.string ⟨#[]⟩] 54)) w.heap.size stZ:=Stb.new w stZ;have d1:=(cO.cell (p:=⟨fp,1,none⟩) KY).trans c1;have d2:=(cO.cell (p:=⟨fp,2,none⟩) KY).trans c2;have Rx:=ae bN;have bV:=ae cO;have hsA:(w.alloc (.cells #[.int .i64 0,.int .i64 0,.bool false,.bool false,.int .u8 0,.int .i64 0,.string ⟨#[]⟩,.int .u8 0,.int .i64 0,.string ⟨#[]⟩] 54)).heap.size=w.heap.size+1:=YB _ _;have kj:=ae hsA;have mP:¬ (c:Int)<0:=by omega
 have Qp:¬ (fs.length:Int)<=(c:Int):=by omega
 clear h1 h2 h3 h4 hf cO bN c1 c2 bg sW QT hsA;generalize hA:w.alloc (.cells #[.int .i64 0,.int .i64 0,.bool false,.bool false,.int .u8 0,.int .i64 0,.string ⟨#[]⟩,.int .u8 0,.int .i64 0,.string ⟨#[]⟩] 54)=A at *;go_enter Tryz.func24,Tryz.ntmps24
 go_wp2_with fail;try rw[hA]
 clear hA d1 d2;go_loopw [6,27] (fun a i wr=>∃(k:Nat) (l:List Cl),i=.int .i64 (k:Int)/\k<=gs.length/\OwnV wr A.heap.size a l/\l=bq (aZ (gs.take k)) c/\Below A.heap.size A wr) (fun _ i _=>gs.length-(intOf i).toNat)
 case atStart=>exact⟨0,[],rfl,by omega,OwnV.nil _ _,HT0.o.symm,Yz _ _⟩
 case round =>
  obtain⟨k,l,rfl,hk,how,hl,ao⟩:=hrel;have HB:=ae ao;have HO:=ae how;have HL:=ae hl;obtain⟨la,lc,rfl,Qn,yV⟩:=bf how;have bM:=ao.size;clear ao how hl;by_cases ar:k<gs.length
  ·obtain⟨G,R,va,vn,vc,rfl,Ve,hcells⟩:=HG.o k ar
   obtain⟨ca,cb,oh⟩:=hcells wr (ag bV.o HB.o);have hlt':(k:Int)<(gs.length:Int):=(by omega);have hBW:Below A.heap.size A (wr.alloc (.cells #[.slice (some ⟨R,0,none⟩) gs[k].1.length gs[k].1.length,.slice va vn vc] 109)):=HB.o.alloc HB.o.size _;have jb:=ae hBW;obtain⟨cg,_⟩:=aR wr (.slice (some ⟨R,0,none⟩) gs[k].1.length gs[k].1.length) (.slice va vn vc) 109;have hOW:=(HO.o.kept (aj wr (.cells #[.slice (some ⟨R,0,none⟩) gs[k].1.length gs[k].1.length,.slice va vn vc] 109)));have vU:=ae hOW;have QR:=ae (sj.o k ar);have HKL:jaH ((bq (aZ (gs.take k)) c++bq gs[k].1 c).length<=1000):=ae (by rw[← sj.o k ar,bR];have:=HT.o (k+1);have:=zg.o;omega);have Rf:=ae (pD (oh.kept (aj wr (.cells #[.slice (some ⟨R,0,none⟩) gs[k].1.length gs[k].1.length,.slice va vn vc] 109))) Ve (HGL.o k ar));generalize gs[k].1=rows at *;clear hcells hBW hOW oh;go_wp2_with fail;generalize wr.alloc (.cells #[.slice (some ⟨R,0,none⟩) rows.length rows.length,.slice va vn vc] 109)=WA at *;refine Rf.o.mono ?_;rintro e w3 ⟨⟨v3,rfl,eR⟩,aO⟩;have WQ:=ae eR;have dx:=ae (vU.o.kept aO);have bT:=ae (ag jb.o aO);have jE:=bT.o.size;clear aO eR Rf HO ca cb cg;go_wp2_with (first | (at_builtin;refine qW rfl _ _ rfl A.heap.size _ _ l (bq rows c) rfl dx.o rfl WQ.o.sv ?c2 jE ?_))
   case c2 =>
    have h1:=HKL.o;rw[← HL.o,YC]at h1;omega
   intro v' w5 o5 b5;have cQ:=ae o5;have aJ:=ae (bT.o.trans b5);clear o5 b5;go_wp2_with fail;go_roundw
   case rel=>exact⟨k+1,_,by go_num,by omega,cQ.o,by rw[QR.o,HL.o],aJ.o⟩
   case measure=>simp[intOf];omega
  ·obtain rfl:k=gs.length:=by omega
   have eO:¬ ((gs.length:Nat):Int)<(gs.length:Int):=(by omega);have Fq:jaH (l=bq (aZ gs) c):=ae (by rw[HL.o,HTA.o]);have uZ:jaH (∀ x∈l,aI x):=ae (by rw[Fq.o];exact zk.o);have Xx:jaH (l.length<=1000):=ae (by rw[Fq.o,bR];exact zg.o);have Cc:=ae (qF HO.o.sv uZ.o Xx.o);obtain⟨st,iq⟩:∃ st,st=bJ l:=⟨_,rfl⟩;rw[← iq]at Cc;have HSE:jaH (bJ (bq (aZ gs) c)=st):=ae (by rw[← Fq.o];exact iq.symm);clear iq;obtain⟨sr,sn,ss,sh,slo,shi⟩:=st;have fV:=Cc.o;simp only[kU]at fV;have HSV2:=ae fV;clear fV;go_wp2_with fail;refine HSV2.o.mono ?_;rintro e w6 ⟨rfl,dP⟩;have jA:=ae (ag HB.o dP);have Fi:=Rx.o.kept jA.o;have fz:=Fi.frozen;obtain⟨_,⟨r0,r1,r2,r3⟩,⟨r4,r5,r6⟩,r7,r8,r9⟩:=Fi.at;simp only[YY]at r0 r1 r2 r3 r4 r5 r6 r7 r8 r9;have Uq:=ae (ag bV.o jA.o);clear Fi dP;go_wp2_with fail;refine bodyPost_ret (v:=.tuple #[.agg #[.int .i64 sr,.int .i64 sn,.bool ss,.bool sh,.int .u8 (slo.1:Int),.int .i64 slo.2.1,.string (ai slo.2.2),.int .u8 (shi.1:Int),.int .i64 shi.2.1,.string (ai shi.2.2)],.bool true]) (by simp[results,Tryz.results24,go_sem,r0,r1,r2,r3,r4,r5,r6,r7,r8,r9]) rfl ⟨by rw[HSE.o];rfl,?_⟩;exact Ay Uq.o (YA _) _ _ _ _ _ _ _ _ _ _
end Go.Proofs.YtpljdjmpamjkhaaGreatDoor
