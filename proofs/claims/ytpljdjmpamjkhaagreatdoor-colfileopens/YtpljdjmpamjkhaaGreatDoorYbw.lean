import Derived.Test.YtpljdjmpamjkhaaGreatDoorYan
import Derived.Test.YtpljdjmpamjkhaaGreatDoorYav
set_option linter.unusedVariables false
set_option linter.unusedSimpArgs false
set_option maxRecDepth 100000
set_option maxHeartbeats 8000000
namespace Go.Proofs.YtpljdjmpamjkhaaGreatDoor
open Go.RowKit Go.Lib
theorem Ef{w:World}{v:Value}{l:List Int}(hs:Sv w v (aJ l))(hl:l.length<=256)(hi:Is l) :
  Calls Tryz.prog 135 #[.int .i64 3,v] w (mt (py l) w):=by
 have HI:Hid (Is (cE l)):=lE hi;have HS:=ae hs;have Mx:=ae (vV hs hl);have HF:Hid (py l=uv (cE l).length++(gZ (cE l)++be (l.map (pl (cE l))) (wd (l.map (pl (cE l))):Int))):=rfl;have HUR:=ae (gN l);have Hk:Hid (∀ x∈l,x∈cE l):=fun x hx=>gg.2 hx
 have Rn:Hid (∀ x∈l.map (pl (cE l)),x<18446744073709551616):=vQ hl;have uj:=fD l;have XK:=kO (p:=l.map (pl (cE l))) (x:=(wd (l.map (pl (cE l))):Int)) (by rw[ZU];omega);have HSU:=ae (lI (lE hi)).1;obtain⟨a,cap,rfl,aX,bw⟩:=hs.form;have uF:¬ (l.length:Int) > 256:=by omega
 clear hs hi aX bw;generalize cE l=u at *;have HP:=ae XK;clear XK;go_enter Tryz.func135,Tryz.ntmps135
 go_wp2_with fail;refine Mx.out.mono ?_;rintro e w1 ⟨⟨vu,rfl,ou⟩,aG⟩;have HU1:=ae ou;have aQ:=ae aG;have cW:=aG.size;obtain⟨au,cu,rfl⟩:=ou.len;clear ou aG;have Rr:u.length<=256:=by omega
 go_wp2_with fail;refine(bC u.length (by omega) _).mono ?_;rintro e w2 ⟨⟨v2,rfl,o2⟩,aD⟩;have dr:=ae o2;have aN:=ae aD;clear o2 aD;have mY:=bI (n:=u.length) (by omega);generalize uv u.length=un at *;go_wp2_with fail;go_loopw [6,13] (fun b i wr=>∃ k:Nat,k<=u.length/\i=.int .i64 (k:Int)/\aC wr w1.heap.size b (un++gZ (u.take k))/\Below w1.heap.size w1 wr) (fun _ i _=>u.length-(intOf i).toNat)
 case atStart=>exact⟨0,by omega,rfl,by rw[ja7,gZ,Z7];exact dr.out,aN.out⟩
 case round =>
  obtain⟨k,hk,rfl,az,ay⟩:=hrel;have HO:=ae az;have HB:=ae ay;have bO:=ay.size;clear az ay;by_cases aB:k<u.length
  ·have mF:(k:Int)<(u.length:Int):=by omega
   obtain⟨b,off,zI,hb,Bt⟩:=HU1.out.sv.at aB;cases zI
   have dP:=(HB.out.cell (p:=⟨b,off+k,none⟩) hb).trans Bt;clear Bt;have HX:=ae (HI.out.get aB);have jq:=(lI (HI.out.take k)).1;rw[ZX]at jq;have Ep:=fd (HI.out.get aB);cases k with
   | zero =>
    have HT:=ae (CR aB);rw[jaC]at dP;generalize gZ (u.take 0)=acc at *;generalize u[0]=x at *;go_wp2_with fail;refine(di HX.out _).mono ?_;rintro e w3 ⟨⟨v3,rfl,Wm⟩,aP⟩;have cX:=ae Wm;have HOk:=ae (HO.out.kept aP);have bM:=ae (HB.out.trans (aP.mono bO));have iB:=bM.out.size;clear Wm aP;go_wp2_with (first | (at_builtin;refine ar rfl _ _ rfl w1.heap.size _ _ (un++acc) (wv x) rfl HOk.out rfl cX.out.sv ?c1 ?c2 ?_))
    case c1=>simp;omega
    case c2=>omega
    intro v4 w4 o4 b4;have o4':aC w4 w1.heap.size v4 (un++gZ (u.take 1)):=by rw[HT.out,← Z4];simpa using o4
    have eP:=ae o4';have b9:=ae (bM.out.trans b4);clear o4 o4' b4;go_wp2_with fail;go_roundw
    case rel=>exact⟨1,by omega,by go_num,eP.out,b9.out⟩
    case measure=>simp[intOf];omega
   | succ k =>
    obtain⟨b',off',zI,_,Wn⟩:=HU1.out.sv.at (show k<u.length by omega);cases zI
    have UE:=(HB.out.cell (p:=⟨b,off+k,none⟩) hb).trans Wn;clear Wn;have yd:=ae (HI.out.get (show k<u.length by omega));have jC:u[k]<u[k+1]:=jbh.1 HUR.out k (k+1) (by omega) aB (by omega);have HT:=ae (yV aB);have h1:=HX.out;have h2:=yd.out;unfold I64 at h1 h2;have hd:(u[k+1]-u[k]).toNat<18446744073709551616:=by omega
    have Rm:=bI hd;have sT:=mg (u[k+1]-u[k]).toNat;have pY:(((k+1:Nat):Int)==0)=false:=Z1.2 (by omega);have hj1:(0:Int)<=(k:Int)+1:=by omega
    have MS:(k:Int)+1<(u.length:Int):=by omega
    have hj3:((k:Int)+1).toNat=k+1:=by omega
    have hj4:(0:Int)<=(k:Int):=by omega
    have hj5:(k:Int)<(u.length:Int):=by omega
    have hj6:IntKind.i64.wrap ((k:Int)+1-1)=(k:Int):=by rw[jam];omega
    have hj7:(k:Int)+1-1=(k:Int):=by omega
    have MT:IntKind.i64.wrap (k:Int)=(k:Int):=by rw[jam];omega
    obtain⟨X,hX⟩:∃ X,IntKind.u64.wrap u[k+1]=X:=⟨_,rfl⟩;obtain⟨Y,hY⟩:∃ Y,IntKind.u64.wrap u[k]=Y:=⟨_,rfl⟩
    have hD:IntKind.u64.wrap (X-Y)=(((u[k+1]-u[k]).toNat:Nat):Int):=by
     rw[← hX,← hY,jag,jag,jag];omega
    have kF:=ae hd;clear h1 h2 hd jC;generalize u[k+1]=x at *;generalize u[k]=y at *;generalize gZ (u.take (k+1))=acc at *;generalize (x-y).toNat=d at *
    have ei:Hid (∀ n W',Below wr.heap.size (wr.drewN n) W'->W'.cell? ⟨b,off+(k+1),none⟩=some (.int .i64 x)/\W'.cell? ⟨b,off+k,none⟩=some (.int .i64 y)/\aC W' w1.heap.size u6 (un++acc)/\Below w1.heap.size w1 W'/\w1.heap.size<=W'.heap.size):=ae (fun n W' h=>by
     have hb':Below wr.heap.size wr W':=(below_drewN (ZQ _ _) n).trans h;have kY:=HB.out.trans (hb'.mono bO);exact⟨(hb'.cell (p:=⟨b,off+(k+1),none⟩) (Z9 hb bO)).trans dP,(hb'.cell (p:=⟨b,off+k,none⟩) (Z9 hb bO)).trans UE,HO.out.kept hb',kY,kY.size⟩)
    have bQ:(un++acc).length+(uv d).length<=100000:=by simp;omega
    go_wp2_with fail
    go_region_held3 (fun w'=>w'.cell? ⟨b,off+(k+1),none⟩=some (.int .i64 x)/\w'.cell? ⟨b,off+k,none⟩=some (.int .i64 y)) (go_keep) (first
     | (go_at_call 45;refine(bC d kF.out _).mono ?_;rintro e w2 ⟨⟨v2,rfl,cx⟩,aD⟩;obtain⟨Hv,oI,X1,X2,hm5⟩:=ei.out _ _ aD;have Rt:=ae X1;have Mr:=ae X2;have dr:=ae cx;clear aD X1 X2 cx)
     | (refine oT (by rfl) _ _ (by rfl) w1.heap.size _ _ _ (un++acc) (uv d) (by rfl) Rt.out (by rfl) dr.out sT bQ hm5 ?_;intro v3 w3 o3 b3;have rK:=(b3.cell (p:=⟨b,off+(k+1),none⟩) hb).trans Hv;have mS:=(b3.cell (p:=⟨b,off+k,none⟩) hb).trans oI;have cX:=ae o3;have bM:=ae (Mr.out.trans b3);clear o3 b3))
    all_goals go_wp2_with fail
    all_goals go_roundw
    case rel=>exact⟨k+1+1,by omega,by go_num,by rw[HT.out,← Z4];simpa using cX.out,bM.out⟩
    case measure=>simp[intOf];omega
  ·obtain rfl:k=u.length:=by omega
   have mF:¬ (u.length:Int)<(u.length:Int):=by omega
   rw[ZY]at HO;have HUZ:=ae (HU1.out.kept HB.out);have rz:=ae (HS.out.kept (aQ.out.trans (HB.out.mono cW)));generalize wr=W5 at *;go_wp2_with fail;go_loopw [12,14] (fun vp i wr=>∃ k:Nat,k<=l.length/\i=.int .i64 (k:Int)/\dB wr W5.heap.size vp ((l.take k).map (pl u))/\Below W5.heap.size W5 wr) (fun _ i _=>l.length-(intOf i).toNat)
   case atStart=>exact⟨0,by omega,rfl,dB.nil _ _,ZQ _ _⟩
   case round =>
    obtain⟨k,hk,rfl,hoP,hbP⟩:=hrel;have iE:=ae hoP;have Vc:=ae hbP;have hzP:=hbP.size;clear hoP hbP;by_cases uq:k<l.length
    ·have Hr:(k:Int)<(l.length:Int):=by omega
     obtain⟨bl,offl,rfl,fM,eO⟩:=(rz.out.kept Vc.out).at uq;have HPLC:=ae (FE (HUZ.out.kept Vc.out).sv Rr l[k] (Hk.out _ (ZV uq)));have ru:=ae (Z5 uq);obtain⟨ys,ye⟩:∃ ys,(l.take k).map (pl u)=ys:=⟨_,rfl⟩;have ya:ys.length<=256:=by rw[← ye,ZU,ZX];omega
     rw[ye]at iE;have Hm:=ae ye;clear ye;obtain⟨q,hq⟩:∃ q,pl u l[k]=q:=⟨_,rfl⟩;rw[hq]at HPLC;have HQ:=ae hq;clear hq;generalize l[k]=x at *;have m6:=ae (iE.out.kept (da wr (.cells #[.int .u64 (q:Int)] 92)));have eW:=ae (Vc.out.alloc hzP (.cells #[.int .u64 (q:Int)] 92));go_wp2_with fail;refine HPLC.out.mono ?_;rintro e w8 ⟨rfl,rfl⟩;go_wp2_with (first | (at_builtin;refine jx rfl _ _ rfl W5.heap.size _ _ q ys rfl m6.out rfl (aK _ _ _) ?c2 ?c3 ?_))
     case c2=>omega
     case c3=>first | omega | (rw[ZS];omega)
     intro v7 w7 o7 b7;have iw:=ae o7;have ia:=ae (eW.out.trans b7);clear o7 b7;go_wp2_with fail;go_roundw
     case rel =>
      refine⟨k+1,by omega,by go_num,?_,ia.out⟩;rw[ru.out,Z8,Hm.out,List.map_singleton,HQ.out];exact iw.out
     case measure=>simp[intOf];omega
    ·obtain rfl:k=l.length:=by omega
     have Hr:¬ (l.length:Int)<(l.length:Int):=by omega
     rw[ZY]at iE;obtain⟨P,hP⟩:∃ P,l.map (pl u)=P:=⟨_,rfl⟩;rw[hP]at iE Rn HF HP;have yi:=ae (HO.out.kept Vc.out);have Vd:=ae (jI iE.out.sv.sx Rn.out);have XK:=HP.out;have hsu:=HSU.out;clear hP;go_wp2_with fail;refine Vd.out.mono ?_;rintro e w8 ⟨rfl,rfl⟩;go_wp2_with fail;refine(mr iE.out.sv.sx Rn.out _).mono ?_;rintro e w9 ⟨v9,rfl,o9,pg⟩;have Ro:Hid (aC w9 w8.heap.size v9 (be P (wd P:Int))):=o9;have HO19:=ae (yi.out.kept pg);have pi:=ae (HB.out.trans ((Vc.out.trans (pg.mono hzP)).mono bO));have UH:=pi.out.size;clear o9 pg;generalize be P (wd P:Int)=PK at *;go_wp2_with (first | (at_builtin;refine ar rfl _ _ rfl w1.heap.size _ _ (un++gZ u) PK rfl HO19.out rfl Ro.out.sv ?d1 ?d2 ?_))
     case d1=>simp;omega
     case d2=>omega
     intro vA wA oA bA
     have m6:Hid (aC wA w.heap.size vA (py l)):=ae (by
      rw[HF.out];have:=oA.low cW;simpa using this)
     have eW:=ae (aQ.out.trans ((pi.out.trans bA).mono cW));clear oA bA;go_wp2_with fail;go_ret2
     exact⟨⟨_,rfl,m6.out⟩,eW.out⟩
theorem Bi{w:World}{v:Value}(hs:Sv w v (aJ [])):Calls Tryz.prog 135 #[.int .i64 4,v] w (mt (lG []) w):=by
 obtain⟨a,cap,rfl,aX,bw⟩:=hs.form;clear hs aX bw;go_enter Tryz.func135,Tryz.ntmps135
 go_wp2_with fail;go_ret2
 exact⟨⟨_,rfl,aC.nil _ _⟩,ZQ _ _⟩
theorem Eg{l:List Int}(h:0<(cE l).length):(cE l)[0]=gO l:=by
 unfold gO;revert h
 generalize cE l=u;intro h;cases u with
 | nil=>simp at h
 | cons y t=>rfl
theorem Bj{w:World}{v:Value}{l:List Int}(hs:Sv w v (aJ l))(hl:l.length<=256)(hi:Is l)(hp:0<l.length) :
  Calls Tryz.prog 135 #[.int .i64 4,v] w (mt (lG l) w):=by
 have HI:=ae hi;have HS:=ae hs;have Mx:=ae (vV hs hl);have Ze:=ng hp;have Yz:=ae (Eg Ze);have HE:=ae (tm hp);have ry:=ae (hi _ (gP hp));have ui:=ae (nh (l:=l));have Bp:=ae (lF hi);have mY:=fd (hi _ (gP hp));have JY:=Fa (lF hi);have XK:=kO (p:=df l) (x:=(wd (df l):Int)) (by rw[fR];omega);have kF:=ae (fR l);have HG:Hid (∀ k (h:k<l.length) (h2:k<(df l).length),(df l)[k]=(l[k]-gO l).toNat):=ae (fun k h h2=>by simp[df]);have HUW:Hid (uv (wd (df l))=[wd (df l)]):=uV (by omega);obtain⟨a,cap,rfl,aX,bw⟩:=hs.form;have uF:¬ (l.length:Int) > 256:=by omega
 have hlen0:((l.length:Int)==0)=false:=Z1.2 (by omega);clear hs hi aX bw;obtain⟨D,hD⟩:∃ D,df l=D:=⟨_,rfl⟩;rw[hD]at HE Bp JY XK kF HG HUW;obtain⟨lo,hlo⟩:∃ lo,gO l=lo:=⟨_,rfl⟩;rw[hlo]at HE ry ui Yz HG mY;clear hD hlo;go_enter Tryz.func135,Tryz.ntmps135
 go_wp2_with fail;refine Mx.out.mono ?_;rintro e w1 ⟨⟨vu,rfl,ou⟩,aG⟩;have aQ:=ae aG;have cW:=aG.size;obtain⟨gu,cu,rfl,_,_⟩:=n0 ou Ze;obtain⟨b',off',zI,_,UQ⟩:=ou.sv.at Ze;cases zI
 rw[Yz.out,jaC]at UQ;clear ou aG;have hup3:(0:Int)<((cE l).length:Int):=by omega
 go_wp2_with fail;go_loopw [18,19] (fun vm i wr=>∃ k:Nat,k<=l.length/\i=.int .i64 (k:Int)/\dB wr w1.heap.size vm (D.take k)/\Below w1.heap.size w1 wr) (fun _ i _=>l.length-(intOf i).toNat)
 case atStart=>exact⟨0,by omega,rfl,dB.nil _ _,ZQ _ _⟩
 case round =>
  obtain⟨k,hk,rfl,hoP,hbP⟩:=hrel;have iE:=ae hoP;have Vc:=ae hbP;have hzP:=hbP.size;clear hoP hbP UQ;by_cases uq:k<l.length
  ·have Hr:(k:Int)<(l.length:Int):=by omega
   have hkD:k<D.length:=by rw[kF.out];exact uq
   obtain⟨bl,offl,rfl,fM,eO⟩:=(HS.out.kept (aQ.out.trans (Vc.out.mono cW))).at uq;have ru:=ae (Z5 hkD);have hval:=HG.out k uq hkD;have h1:=HI.out.get uq;have h2:=ry.out;have h3:=ui.out _ (ZV uq);unfold I64 at h1 h2;obtain⟨X,hX⟩:∃ X,IntKind.u64.wrap l[k]=X:=⟨_,rfl⟩;obtain⟨Y,hY⟩:∃ Y,IntKind.u64.wrap lo=Y:=⟨_,rfl⟩
   have hXY:IntKind.u64.wrap (X-Y)=((D[k]:Nat):Int):=by
    rw[← hX,← hY,hval,jag,jag,jag];omega
   have ya:(D.take k).length<=256:=by rw[ZX];omega
   clear hval h1 h2 h3;generalize l[k]=x at *;generalize D[k]=q at *;generalize D.take k=ys at *;have m6:=ae (iE.out.kept (da wr (.cells #[.int .u64 (q:Int)] 92)));have eW:=ae (Vc.out.alloc hzP (.cells #[.int .u64 (q:Int)] 92));go_wp2_with (first | (at_builtin;refine jx rfl _ _ rfl w1.heap.size _ _ q ys rfl m6.out rfl (aK _ _ _) ?c2 ?c3 ?_))
   case c2=>omega
   case c3=>first | omega | (rw[ZS];omega)
   intro v7 w7 o7 b7;have iw:=ae o7;have ia:=ae (eW.out.trans b7);clear o7 b7;go_wp2_with fail;go_roundw
   case rel=>exact⟨k+1,by omega,by go_num,by rw[ru.out];exact iw.out,ia.out⟩
   case measure=>simp[intOf];omega
  ·obtain rfl:k=l.length:=by omega
   have Hr:¬ (l.length:Int)<(l.length:Int):=by omega
   rw[← kF.out,ZY]at iE;have Vd:=ae (jI iE.out.sv.sx Bp.out);have Ml:=ae (fun x=>mr iE.out.sv.sx Bp.out x);generalize wd D=W at *;go_wp2_with fail;refine Vd.out.mono ?_;rintro e w8 ⟨rfl,rfl⟩;go_wp2_with fail;refine(Ml.out _).mono ?_;rintro e w9 ⟨v9,rfl,o9,pg⟩;have Ro:Hid (aC w9 w8.heap.size v9 (be D (W:Int))):=o9;have pi:=ae (aQ.out.trans ((Vc.out.trans (pg.mono hzP)).mono cW));have UH:=pi.out.size;clear o9 pg;generalize be D (W:Int)=PK at *;go_wp2_with fail;refine(di ry.out _).mono ?_;rintro e w10 ⟨⟨v10,rfl,o10⟩,BG⟩;have MI:=ae o10;have HB910:=ae BG;have ux:=ae (pi.out.trans (BG.mono UH));have hz10:=BG.size;clear o10 BG;have EQ:=ae (cD w10 W);have Mm:=ae (da w10 (.cells #[.int .u8 (W:Int)] 5));have Ve:=ae (MI.out.kept Mm.out);go_wp2_with (first | (at_builtin;refine ar rfl _ _ rfl w9.heap.size _ _ (wv lo) [W] rfl Ve.out rfl EQ.out.sv ?d1 ?d2 ?_))
   case d1=>simp;omega
   case d2=>first | omega | (rw[ZS];omega)
   intro vA wA oA bA;have m6:=ae oA;have HB10A:=ae ((Mm.out.mono hz10).trans bA);have YK:=ae (HB910.out.trans HB10A.out);have HPA:=ae (Ro.out.kept YK.out);have eW:=ae (pi.out.trans (YK.out.mono UH));have hzA:=YK.out.size;clear oA bA;go_wp2_with (first | (at_builtin;refine ar rfl _ _ rfl w9.heap.size _ _ (wv lo++[W]) PK rfl m6.out rfl HPA.out.sv ?e1 ?e2 ?_))
   case e1=>simp;omega
   case e2=>omega
   intro vB wB oB bB
   have zM:Hid (aC wB w.heap.size vB (lG l)):=ae (by
    rw[HE.out,HUW.out];have:=oB.low UH;simpa using this)
   have fZ:=ae (eW.out.trans (bB.mono UH));clear oB bB;go_wp2_with fail;go_ret2
   exact⟨⟨_,rfl,zM.out⟩,fZ.out⟩
theorem Eh{w:World}{v:Value}{l:List Int}(hs:Sv w v (aJ l))(hl:l.length<=256)(hi:Is l):Calls Tryz.prog 135 #[.int .i64 4,v] w (mt (lG l) w):=by
 rcases jax l.length with h0 | h0
 ·obtain rfl:l=[]:=jab h0
  exact Bi hs
 ·exact Bj hs hl hi h0
theorem rq{w:World}{v:Value}{l:List Int}(hs:Sv w v (aJ l))(c:Nat)(XI:¬ (c<=4/\l.length<=256)) :
  Calls Tryz.prog 135 #[.int .i64 (c:Int),v] w fun e w'=>(∃ v',e=.returned (.tuple #[v',.bool false])/\aC w' w.heap.size v' [])/\Below w.heap.size w w':=by
 obtain⟨a,cap,rfl,aX,bw⟩:=hs.form;have hm:l.length<=9223372036854775807:=by unfold maxLen at bw;omega
 clear hs aX bw;by_cases h5:(c:Int) > 4
 ·go_enter Tryz.func135,Tryz.ntmps135
  go_wp2_with fail;go_ret2
  exact⟨⟨_,rfl,aC.nil _ _⟩,ZQ _ _⟩
 ·have uF:(l.length:Int) > 256:=by omega
  go_enter Tryz.func135,Tryz.ntmps135
  go_wp2_with fail;go_ret2
  exact⟨⟨_,rfl,aC.nil _ _⟩,ZQ _ _⟩
theorem xY{w:World}{v:Value}{l:List Int}(hs:Sv w v (aJ l))(hi:Is l)(c:Nat) :
  Calls Tryz.prog 135 #[.int .i64 (c:Int),v] w fun e w'=>(∃ v',e=.returned (.tuple #[v',.bool (decide (c<=4/\l.length<=256))])/\aC w' w.heap.size v' (CT c l))/\Below w.heap.size w w':=by
 by_cases h:c<=4/\l.length<=256
 ·rw[decide_eq_true h]
  unfold CT;rw[if_pos h];obtain⟨h4,hl⟩:=h;obtain rfl | rfl | rfl | rfl | rfl:c=0∨c=1∨c=2∨c=3∨c=4:=by omega
  ·exact CZ hs hl hi
  ·exact C0 hs hl hi
  ·exact C4 hs hl hi
  ·exact Ef hs hl hi
  ·exact Eh hs hl hi
 ·rw[decide_eq_false h]
  unfold CT;rw[if_neg h];exact rq hs c h
theorem Q2(l:List Int)(k:Nat):bst l (k+1)=if k=0 then [k]++hO k l else if (hO k l).length+1<(bst l k).length then [k]++hO k l else bst l k:=by
 cases k with
 | zero=>rfl
 | succ k=>rw[if_neg (by omega)];rfl
theorem Ei{w:World}{v:Value}{l:List Int}(hs:Sv w v (aJ l))(hl:l.length<=256)(hi:Is l) :
  Calls Tryz.prog 88 #[v] w fun e w'=>(∃ v',e=.returned (.tuple #[v',.bool true])/\aC w' w.heap.size v' (ju l 4))/\Below w.heap.size w w':=by
 have HS:=ae hs;obtain⟨a,cap,rfl,aX,bw⟩:=hs.form
 have rz:Hid (∀ k,(bst l k).length<=5131):=by
  intro k;cases k with
  | zero=>simp[bst]
  | succ k =>
   obtain⟨c,_,e⟩:=jh l k;rw[bst,e];have:=(eA c hi hl).1;simp
   omega
 have HESZ:Hid (∀ k,(hO k l).length<=5130):=fun k=>(eA k hi hl).1
 have HEN:Hid (∀ W (k:Nat),k<=4->Sv W (.slice a l.length cap) (aJ l)->Calls Tryz.prog 135 #[.int .i64 (k:Int),.slice a l.length cap] W fun e w'=>(∃ v',e=.returned (.tuple #[v',.bool true])/\aC w' W.heap.size v' (hO k l))/\Below W.heap.size W w'):=ae (fun W k hk h=>by
  have:=xY h hi k;rwa[decide_eq_true (⟨hk,hl⟩:k<=4/\l.length<=256),show CT k l=hO k l from if_pos ⟨hk,hl⟩]at this)
 clear hs aX bw hi;go_enter Tryz.func88,Tryz.ntmps88
 go_wp2_with fail;go_loopw [4,5] (fun b i wr=>∃ k:Nat,k<=5/\i=.int .i64 (k:Int)/\aC wr w.heap.size b (bst l k)/\Below w.heap.size w wr) (fun _ i _=>5-(intOf i).toNat)
 case atStart=>exact⟨0,by omega,rfl,aC.nil _ _,ZQ _ _⟩
 case round =>
  obtain⟨k,hk,rfl,az,ay⟩:=hrel;have HO:=ae az;have HB:=ae ay;have bO:=ay.size;obtain⟨ab,cb,rfl⟩:=az.len;have fM:=rz.out k;have hel:=HESZ.out k;have HT:=ae (Q2 l k);clear az ay;by_cases hk5:(k:Int)<5
  ·have HENk:=ae (HEN.out wr k (by omega) (HS.out.kept HB.out))
   generalize bst l k=B0 at *;generalize hO k l=EC at *;go_wp2_with fail;refine HENk.out.mono ?_;rintro e w3 ⟨⟨v3,rfl,fN⟩,aP⟩;have cX:=ae fN;have bM:=ae (HB.out.trans (aP.mono bO));have zM:=ae (HO.out.kept aP);have iB:=bM.out.size;obtain⟨a3,c3,rfl⟩:=fN.len;clear fN aP;have mW:=ae (cD w3 k);have eW:=ae (da w3 (.cells #[.int .u8 (k:Int)] 5));have Nb:=ae (cX.out.kept eW.out);by_cases pY:((k:Int)==0)=true
   ·have hk0':k=0:=by simpa using pY
    have zS:Hid (bst l (k+1)=[k]++EC):=ae (by rw[HT.out,if_pos hk0']);clear hk0';go_wp2_with (first | (at_builtin;refine ar rfl _ _ rfl w3.heap.size _ _ [k] EC rfl mW.out rfl Nb.out.sv ?c1 ?c2 ?_))
    case c1=>simp;omega
    case c2=>first | omega | (rw[ZS];omega)
    intro v4 w4 o4 b4;have eP:=ae (o4.low iB);have b9:=ae (bM.out.trans ((eW.out.trans b4).mono iB));clear o4 b4;go_wp2_with fail;go_roundw
    case rel=>exact⟨k+1,by omega,by go_num,by rw[zS.out];exact eP.out,b9.out⟩
    case measure=>simp[intOf];omega
   ·have hk0f:((k:Int)==0)=false:=by simpa using pY
    have hk0':¬ k=0:=by simpa using pY
    by_cases aB:EC.length+1<B0.length
    ·have zS:Hid (bst l (k+1)=[k]++EC):=ae (by rw[HT.out,if_neg hk0',if_pos aB])
     have BA:(EC.length:Int)+1<(B0.length:Int):=by omega
     clear hk0' pY aB;go_wp2_with (first | (at_builtin;refine ar rfl _ _ rfl w3.heap.size _ _ [k] EC rfl mW.out rfl Nb.out.sv ?c1 ?c2 ?_))
     case c1=>simp;omega
     case c2=>first | omega | (rw[ZS];omega)
     intro v4 w4 o4 b4;have eP:=ae (o4.low iB);have b9:=ae (bM.out.trans ((eW.out.trans b4).mono iB));clear o4 b4;go_wp2_with fail;go_roundw
     case rel=>exact⟨k+1,by omega,by go_num,by rw[zS.out];exact eP.out,b9.out⟩
     case measure=>simp[intOf];omega
    ·have zS:Hid (bst l (k+1)=B0):=ae (by rw[HT.out,if_neg hk0',if_neg aB])
     have BA:¬ (EC.length:Int)+1<(B0.length:Int):=by omega
     clear hk0' pY aB;go_wp2_with fail;go_roundw
     case rel=>exact⟨k+1,by omega,by go_num,by rw[zS.out];exact zM.out,bM.out⟩
     case measure=>simp[intOf];omega
  ·obtain rfl:k=5:=by omega
   go_wp2_with fail;go_ret2
   exact⟨⟨_,rfl,HO.out⟩,HB.out⟩
theorem G4{w:World}{v:Value}{l:List Int}(hs:Sv w v (aJ l))(hi:Is l)(hl:¬ l.length<=256) :
  Calls Tryz.prog 88 #[v] w fun e w'=>(∃ v',e=.returned (.tuple #[v',.bool false])/\aC w' w.heap.size v' [])/\Below w.heap.size w w':=by
 have HEN:=ae (rq hs 0 (fun h=>hl h.2));clear hs hi hl;go_enter Tryz.func88,Tryz.ntmps88
 go_wp2_with fail;refine wp_loop_rounds 1 ?_;rw[rounds_succ];go_wp2_with fail;refine HEN.out.mono ?_;rintro e w3 ⟨⟨v3,rfl,fN⟩,aP⟩;go_wp2_with fail;go_ret2
 exact⟨⟨_,rfl,aC.nil _ _⟩,aP⟩
theorem jp{w:World}{v:Value}{l:List Int}(hs:Sv w v (aJ l))(hi:Is l) :
  Calls Tryz.prog 88 #[v] w fun e w'=>(∃ v',e=.returned (.tuple #[v',.bool (decide (l.length<=256))])/\aC w' w.heap.size v' (De l))/\Below w.heap.size w w':=by
 unfold De;by_cases h:l.length<=256
 ·rw[decide_eq_true h,if_pos h]
  exact Ei hs h hi
 ·rw[decide_eq_false h,if_neg h]
  exact G4 hs hi h
end Go.Proofs.YtpljdjmpamjkhaaGreatDoor
