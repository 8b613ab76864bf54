import Derived.Test.YtpljdjmpamjkhaaGreatDoorYap
import Derived.Lib.AppendStr
import Derived.Test.YtpljdjmpamjkhaaGreatDoorYan
import Derived.Maps.OwnIn
set_option linter.unusedVariables false
set_option linter.unusedSimpArgs false
set_option maxRecDepth 100000
set_option maxHeartbeats 4000000
namespace Go.Proofs.YtpljdjmpamjkhaaGreatDoor
open Go.RowKit Go.Lib
theorem qH{w:World}{ops:Array Oper}{rest:List Oper}{o:Oper}{a:Act}{Q:Exit->Act->World->Prop}(ee:o.guard=none)(s x:Operand)
  (ho:o.op=.call { callee:=.builtin .append,args:=#[s,x],argTypes:=#[30,9] })
  (base:Nat) (v:Value) (l0:List Nat) (z:ByteArray) (hs:a.eval s=v) (az:aC w base v l0) (hx:a.eval x=.string z)
  (hbytes:l0.length+z.size<=140737488355328) (aH:base<=w.heap.size)
  (h:∀ v' w',aC w' base v' (l0++dd z)->Below base w w'->wpList Tryz.prog ops Q rest (a.put o.dst v') w') :
  wpList Tryz.prog ops Q (o::rest) a w:=by
 obtain⟨i0,hi,ce,hz1',bm⟩:=info_parts jf;unfold aC at *;refine wpList_append_own_string (w:=w) ee s x 30 9 ho base 5 i0 Tryz.underlying30 Tryz.underlying9 hi ce hz1' bm v l0.length (aE .u8 l0) hs az z hx (by unfold maxLen;omega) (by exact hbytes) aH ?_;intro v' w' o1 g1 _;refine h v' w' ?_ ((ZQ base w).grown g1 aH (fun k hk=>(az.lt k hk).1))
 have e:strCells z=aE .u8 (dd z):=by
  unfold strCells aE dd;rw[ByteArray.toList_eq];simp[jao,Function.comp_def]
 rw[e]at o1;rw[bZ,ZT,iP];exact o1
theorem PD(b:Bool)(w:World):Calls Tryz.prog 166 #[.bool b] w fun e w'=>e=.returned (.int .u64 ((eS b:Nat):Int))/\w'=w:=by
 cases b
 all_goals
  go_enter Tryz.func166,Tryz.ntmps166
  go_wp2;go_ret
  exact⟨rfl,rfl⟩
theorem gm(n:Nat)(h:n<18446744073709551616):(uv n).length<=10:=bI h
theorem xM(f:Fd)(hf:Okf f)(hs:f.2.1.size<5000)(w:World):Calls Tryz.prog 120 #[pI f] w (du w (ie f)):=by
 unfold pI;obtain⟨i,n,k,nd⟩:=f;have h1:i<4294967296:=hf.1;have h2:k<256:=hf.2;simp only at *;have HP:Hid (ie (i,n,k,nd)=uv i++uv n.size++dd n++uv k++uv (eS nd)):=ae rfl;have jM:eS nd<2:=by unfold eS;split<;>omega
 have Mt:=ae (dG i (by omega));have UP:=ae (dG n.size (by omega));have HV3:=ae (dG k (by omega));have HV4:=ae (dG (eS nd) (by omega));have J2:=ae (PD nd);have u1:=gm i (by omega);have u2:=gm n.size (by omega);have u3:=gm k (by omega);have u4:=gm (eS nd) (by omega);have hnl:=iP n;have cC:=ae (ak w (.cells #[.int .u32 (i:Int),.string n,.int .u8 (k:Int),.bool nd] 81));have hz:w.heap.size<(w.alloc (.cells #[.int .u32 (i:Int),.string n,.int .u8 (k:Int),.bool nd] 81)).heap.size:=by rw[ZS];omega
 have HT:Hid (∀ U,Below (w.alloc (.cells #[.int .u32 (i:Int),.string n,.int .u8 (k:Int),.bool nd] 81)).heap.size (w.alloc (.cells #[.int .u32 (i:Int),.string n,.int .u8 (k:Int),.bool nd] 81)) U->U.cell? ⟨w.heap.size,0,none⟩=some (.int .u32 (i:Int))/\U.cell? ⟨w.heap.size,1,none⟩=some (.string n)/\U.cell? ⟨w.heap.size,2,none⟩=some (.int .u8 (k:Int))/\U.cell? ⟨w.heap.size,3,none⟩=some (.bool nd)):=ae (fun U h=>by
  obtain⟨c0,c1,c2,c3⟩:=iU w (.int .u32 (i:Int)) (.string n) (.int .u8 (k:Int)) (.bool nd) 81;exact⟨(h.cell (p:=⟨w.heap.size,0,none⟩) hz).trans c0,(h.cell (p:=⟨w.heap.size,1,none⟩) hz).trans c1,(h.cell (p:=⟨w.heap.size,2,none⟩) hz).trans c2,(h.cell (p:=⟨w.heap.size,3,none⟩) hz).trans c3⟩)
 generalize hW:w.alloc (.cells #[.int .u32 (i:Int),.string n,.int .u8 (k:Int),.bool nd] 81)=W at *;obtain⟨c0,c1,c2,c3⟩:=HT.out W (ZQ _ _);clear hf;generalize uv i=p1 at *;generalize uv n.size=p2 at *;generalize uv k=p3 at *;generalize uv (eS nd)=p4 at *;generalize eS nd=fl at *;go_enter Tryz.func120,Tryz.ntmps120
 go_wp2_with fail;try rw[hW]
 clear hW;refine(Mt.out _).mono ?_;rintro e w1 ⟨⟨v1,rfl,o1⟩,aG⟩;have fA:=ae o1;have J3:=ae aG;clear o1 aG c0 c1 c2 c3;obtain⟨c0,c1,c2,c3⟩:=HT.out _ J3.out;go_wp2_with fail;refine(UP.out _).mono ?_;rintro e w2 ⟨⟨v2,rfl,o2⟩,aD⟩;have HO1k:=ae (fA.out.kept aD);have dr:=ae o2.sv;have yd:=ae (ai J3.out aD);clear o2 aD c0 c1 c2 c3;obtain⟨c0,c1,c2,c3⟩:=HT.out _ yd.out;go_wp2_with (first | (at_builtin;refine ar rfl _ _ rfl W.heap.size _ _ p1 p2 rfl HO1k.out rfl dr.out ?d1 ?d2 ?_))
 case d1=>omega
 case d2=>exact yd.out.size
 intro v3 w3 o3 aP;have cX:Hid (aC w3 W.heap.size v3 (p1++p2)):=ae (by simpa using o3);have RA:=ae (yd.out.trans aP);clear o3 aP c0 c1 c2 c3;obtain⟨c0,c1,c2,c3⟩:=HT.out _ RA.out;go_wp2_with (first | (at_builtin;refine qH rfl _ _ rfl W.heap.size _ (p1++p2) n rfl cX.out rfl ?d3 ?d4 ?_))
 case d3=>first | (simp only[ZT];omega) | (simp;omega) | omega
 case d4=>exact RA.out.size
 intro v4 w4 o4 bv;have eP:Hid (aC w4 W.heap.size v4 (p1++p2++dd n)):=ae (by simpa using o4);have HX4:=ae (RA.out.trans bv);clear o4 bv c0 c1 c2 c3;obtain⟨c0,c1,c2,c3⟩:=HT.out _ HX4.out;go_wp2_with fail;refine(HV3.out _).mono ?_;rintro e w5 ⟨⟨v5,rfl,o5⟩,bq⟩;have HO4k:=ae (eP.out.kept bq);have dH:=ae o5.sv;have MZ:=ae (ai HX4.out bq);clear o5 bq c0 c1 c2 c3;obtain⟨c0,c1,c2,c3⟩:=HT.out _ MZ.out;go_wp2_with (first | (at_builtin;refine ar rfl _ _ rfl W.heap.size _ _ (p1++p2++dd n) p3 rfl HO4k.out rfl dH.out ?d5 ?d6 ?_))
 case d5=>first | (simp only[ZT];omega) | (simp;omega) | omega
 case d6=>exact MZ.out.size
 intro v6 w6 o6 dN;have mU:Hid (aC w6 W.heap.size v6 (p1++p2++dd n++p3)):=ae (by simpa using o6);have uI:=ae (MZ.out.trans dN);clear o6 dN c0 c1 c2 c3;obtain⟨c0,c1,c2,c3⟩:=HT.out _ uI.out;go_wp2_with fail;refine(J2.out _).mono ?_;rintro e w7 ⟨rfl,rfl⟩;go_wp2_with fail;refine(HV4.out _).mono ?_;rintro e w8 ⟨⟨v8,rfl,o8⟩,kA⟩;have HO6k:=ae (mU.out.kept kA);have XM:=ae o8.sv;have X5:=ae (ai uI.out kA);clear o8 kA c0 c1 c2 c3;go_wp2_with (first | (at_builtin;refine ar rfl _ _ rfl W.heap.size _ _ (p1++p2++dd n++p3) p4 rfl HO6k.out rfl XM.out ?d7 ?d8 ?_))
 case d7=>first | (simp only[ZT];omega) | (simp;omega) | omega
 case d8=>exact X5.out.size
 intro v9 w9 o9 pg;have Ro:Hid (aC w9 W.heap.size v9 (p1++p2++dd n++p3++p4)):=ae (by simpa using o9);have HX9:=ae (X5.out.trans pg);clear o9 pg;go_wp2_with fail;go_ret
 rw[HP.out];exact⟨⟨_,rfl,aZ Ro.out cC.out.size⟩,ai cC.out HX9.out⟩
theorem oV{l:List Fd}(hz:szs l<5000){k:Nat}(hk:k<l.length):l[k].2.1.size<5000:=by
 have:=Jm (ZV hk);omega
theorem fG{l:List Fd}(ho:∀ f∈l,Okf f)(hl:l.length<=100)(hz:szs l<5000)(k:Nat):(gM (l.take k)).length<=10000:=by
 have h1:=Kp (l:=l.take k) (fun f hf=>ho f (jaw hf)) (jbo (s5 l k) hz);have h2:=s5 l k;have h3:(l.take k).length<=100:=by rw[ZX];omega
 omega
theorem PE{w:World}{v:Value}{l:List Fd}(hs:Sf w v l)(ho:∀ f∈l,Okf f)(hl:l.length<=100)(hz:szs l<5000)(id:Nat)(mR:id<4294967296) :
  Calls Tryz.prog 80 #[.agg #[.int .u32 (id:Int),v]] w (du w (dz id l)):=by
 obtain⟨a,cap,rfl,aX,bw⟩:=hs.form;have J4:=ae ho;have HP:Hid (dz id l=uv id++uv l.length++gM l):=ae rfl;have rH:=ae (fG ho hl hz);have rz:=ae (fun k=>oV (k:=k) hz);have Mt:=ae (dG id (by omega));have UP:=ae (dG l.length (by omega));have u1:=gm id (by omega);have u2:=gm l.length (by omega);have dW:=ak w (.cells #[.int .u32 (id:Int),.slice a l.length cap] 25);have Ez:w.heap.size<(w.alloc (.cells #[.int .u32 (id:Int),.slice a l.length cap] 25)).heap.size:=by rw[ZS];omega
 have HT:Hid (∀ U,Below (w.alloc (.cells #[.int .u32 (id:Int),.slice a l.length cap] 25)).heap.size (w.alloc (.cells #[.int .u32 (id:Int),.slice a l.length cap] 25)) U->Sf U (.slice a l.length cap) l/\U.cell? ⟨w.heap.size,0,none⟩=some (.int .u32 (id:Int))/\U.cell? ⟨w.heap.size,1,none⟩=some (.slice a l.length cap)):=ae (fun U h=>by
  obtain⟨c0,c1⟩:=bE w (.int .u32 (id:Int)) (.slice a l.length cap) 25;exact⟨(hs.kept dW).kept h,(h.cell (p:=⟨w.heap.size,0,none⟩) Ez).trans c0,(h.cell (p:=⟨w.heap.size,1,none⟩) Ez).trans c1⟩)
 have cC:=ae dW;clear hs dW ho;generalize hW:w.alloc (.cells #[.int .u32 (id:Int),.slice a l.length cap] 25)=W at *;obtain⟨_,c0,c1⟩:=HT.out W (ZQ _ _);generalize uv id=p1 at *;generalize uv l.length=p2 at *;go_enter Tryz.func80,Tryz.ntmps80
 go_wp2_with fail;try rw[hW]
 clear hW;refine(Mt.out _).mono ?_;rintro e w1 ⟨⟨v1,rfl,o1⟩,aG⟩;have fA:=ae o1;have J3:=ae aG;clear o1 aG c0 c1;obtain⟨_,c0,c1⟩:=HT.out _ J3.out;go_wp2_with fail;refine(UP.out _).mono ?_;rintro e w2 ⟨⟨v2,rfl,o2⟩,aD⟩;have HO1k:=ae (fA.out.kept aD);have dr:=ae o2.sv;have yd:=ae (ai J3.out aD);clear o2 aD c0 c1;go_wp2_with (first | (at_builtin;refine ar rfl _ _ rfl W.heap.size _ _ p1 p2 rfl HO1k.out rfl dr.out ?d1 ?d2 ?_))
 case d1=>omega
 case d2=>exact yd.out.size
 intro v3 w3 o3 aP;have cX:=ae o3;have RA:=ae (yd.out.trans aP);clear o3 aP;obtain⟨_,c0,c1⟩:=HT.out _ RA.out;go_wp2_with fail;clear c0 c1;go_loopw [3,20] (fun b i wr=>∃ k:Nat,k<=l.length/\i=.int .i64 (k:Int)/\aC wr W.heap.size b (p1++p2++gM (l.take k))/\Below W.heap.size W wr) (fun _ i _=>l.length-(intOf i).toNat)
 case atStart=>exact⟨0,by omega,rfl,by simpa [gM]using cX.out,RA.out⟩
 case round =>
  obtain⟨k,hk,rfl,az,ay⟩:=hrel;have HO:=ae az;have HB:=ae ay;have bO:=ay.size;clear az ay;by_cases aB:k<l.length
  ·obtain⟨b,off,rfl,hb,x0,x1,x2,x3⟩:=(HT.out _ HB.out).1.at aB
   have hlt':(k:Int)<(l.length:Int):=by omega
   have cP:=ae (mj aB);have Zp:=ae (xM l[k] (J4.out _ (ZV aB)) (rz.out k aB));have hplen:=rH.out k
   have hpf:(ie l[k]).length<=5100:=by
    have h1:=yz (J4.out _ (ZV aB)) (by have:=rz.out k aB;omega);have h2:=rz.out k aB;omega
   generalize ie l[k]=PF at *;generalize gM (l.take k)=PL at *;generalize l[k]=f at *;obtain⟨f0,f1,f2,f3⟩:=f;unfold pI at Zp;simp only at *;have BQ:=ae (ak wr (.cells #[.int .u32 (f0:Int),.string f1,.int .u8 (f2:Int),.bool f3] 81));go_wp2_with fail;refine(Zp.out _).mono ?_;rintro e w5 ⟨⟨v5,rfl,o5⟩,bq⟩;have hbT:=ai BQ.out bq;have dH:=ae (HO.out.kept hbT);have mU:=ae o5.sv;have MZ:=ae (ai HB.out hbT);clear o5 bq hbT x0 x1 x2 x3;go_wp2_with (first | (at_builtin;refine ar rfl _ _ rfl W.heap.size _ _ (p1++p2++PL) PF rfl dH.out rfl mU.out ?d3 ?d4 ?_))
   case d3=>first | (simp only[ZT];omega) | (simp;omega) | omega
   case d4=>exact MZ.out.size
   intro v7 w7 o7 jd;have iw:Hid (aC w7 W.heap.size v7 (p1++p2++PL++PF)):=ae (by simpa using o7);have HX7:=ae (MZ.out.trans jd);clear o7 jd;go_wp2_with fail;go_roundw
   case rel=>exact⟨k+1,by omega,by go_num,by rw[cP.out,← Z4];exact iw.out,HX7.out⟩
   case measure=>simp[intOf];omega
  ·obtain rfl:k=l.length:=by omega
   have gJ:¬ ((l.length:Nat):Int)<(l.length:Int):=by omega
   rw[ZY]at HO;go_wp2_with fail;go_ret
   rw[HP.out];exact⟨⟨_,rfl,aZ HO.out cC.out.size⟩,ai cC.out HB.out⟩
theorem oW{w:World}(ty:TypeId)(base:Nat)(v vx:Value)(l0 l:List Nat)(az:aC w base v l0)(fo:Sv w vx (aE .u8 l))(hbytes:l0.length+l.length<=140737488355328)(aH:base<=w.heap.size) :
  ∃ v' w',(Builtin.append_ #[30,30] ty #[v,vx]).run Tryz.prog w=.ok v' w'/\aC w' base v' (l0++l)/\w.grownBy w' v.ownBlock/\(v'.ownBlock=v.ownBlock∨v'.ownBlock=some w.heap.size):=by
 obtain⟨i0,hi,ce,hz1',bm⟩:=info_parts jf;unfold aC at *;obtain⟨ad,cap,rfl,h1,h2,h3,h4⟩:=fo;rw[ap]at *;cases ad with
 | none =>
  have hc:=h3 rfl;subst hc;have hl:l=[]:=jab (by omega);subst hl;have hr:=run_append_owned_none (P:=Tryz.prog) (w:=w) base 30 ty 5 i0 1 Tryz.underlying30 hi v l0.length (aE .u8 l0) az;refine⟨v,w,hr,by rw[Z7];exact az,⟨rfl,rfl,rfl,ZR _,fun _ _ _=>rfl⟩,Or.inl rfl⟩
 | some ad =>
  obtain⟨v',w',hr,o1,g1,_,e1⟩:=run_append_own_at (P:=Tryz.prog) w base 30 ty 5 i0 (.int .u8 0) 1 1 Tryz.underlying30 hi ce hz1' bm rfl (by decide) v l0.length (aE .u8 l0) az ad l.length cap (aE .u8 l) (by rw[ap];omega)
   (fun j u hu=>by
    have hj:j<l.length:=by
     have:=(List.getElem?_eq_some_iff.1 hu).1;rwa[ap]at this
    obtain⟨b,off,h5,_,h6⟩:=h4 (by omega);cases h5
    rw[pp];exact h6 j u hu) (fP _ _) (by unfold maxLen;omega) (by omega) aH
  refine⟨v',w',hr,?_,g1,e1⟩;rw[bZ,ZT];exact o1
theorem ts{w w':World}{base:Nat}{v:Value}{l:List Nat}(az:aC w base v l)(hg:w.grownBy w' v.ownBlock)(aH:base<=w.heap.size):Below base w w' :=
 (ZQ base w).grown hg aH (fun k hk=>(az.lt k hk).1)
theorem qI{w:World}{o:Oper}{a:Act}{K:Act->World->Prop}{Q:Exit->Act->World->Prop}(s x:Operand)
  (ho:o.op=.call { callee:=.builtin .append,args:=#[s,x],argTypes:=#[30,30] })
  (base:Nat) (v vx:Value) (l0 l:List Nat) (hs:a.eval s=v) (az:aC w base v l0) (hx:a.eval x=vx) (fo:Sv w vx (aE .u8 l)) (hbytes:l0.length+l.length<=140737488355328) (aH:base<=w.heap.size)
  (h:∀ v' w',aC w' base v' (l0++l)->Below base w w'->w.grownBy w' v.ownBlock->(v'.ownBlock=v.ownBlock∨v'.ownBlock=some w.heap.size)->K (a.put o.dst v') w'):Oper.wp Tryz.prog o a w K Q:=by
 obtain⟨v',w',hr,h2,h3,h4⟩:=oW o.type base v vx l0 l az fo hbytes aH;unfold Oper.wp execOp;simp only[ho,resolve,invoke,builtin,Sem.run_bind,Sem.run_pure,Result.andThen_ok,jaU,jal,jaG,hs,hx,hr];exact h v' w' h2 (ts az h3 aH) h3 h4
theorem vZ{w:World}{ops:Array Oper}{o:Oper}{a:Act}{K:Act->World->Prop}{Q:Exit->Act->World->Prop}{E:Prop}(ee:o.guard=none)(s x:Operand)
  (ho:o.op=.call { callee:=.builtin .append,args:=#[s,x],argTypes:=#[30,30] })
  (base:Nat) (v vx:Value) (l0 l:List Nat) (hs:a.eval s=v) (az:aC w base v l0) (hx:a.eval x=vx) (fo:Sv w vx (aE .u8 l)) (hbytes:l0.length+l.length<=140737488355328) (aH:base<=w.heap.size)
  (h:∀ v' w',aC w' base v' (l0++l)->Below base w w'->w.grownBy w' v.ownBlock->(v'.ownBlock=v.ownBlock∨v'.ownBlock=some w.heap.size)->K (a.put o.dst v') w') :
  if Region.wanted o (yielded ops a.tmps)=true then Oper.wp Tryz.prog o a w K Q else E:=by
 have hw:Region.wanted o (yielded ops a.tmps)=true:=by simp[Region.wanted,ee]
 rw[if_pos hw];exact qI s x ho base v vx l0 l hs az hx fo hbytes aH h
theorem aT{w:World}{ops:Array Oper}{rest:List Oper}{o:Oper}{a:Act}{Q:Exit->Act->World->Prop}(ee:o.guard=none)(s x:Operand)
  (ho:o.op=.call { callee:=.builtin .append,args:=#[s,x],argTypes:=#[30,30] })
  (base:Nat) (v vx:Value) (l0 l:List Nat) (hs:a.eval s=v) (az:aC w base v l0) (hx:a.eval x=vx) (fo:Sv w vx (aE .u8 l)) (hbytes:l0.length+l.length<=140737488355328) (aH:base<=w.heap.size)
  (h:∀ v' w',aC w' base v' (l0++l)->Below base w w'->w.grownBy w' v.ownBlock->(v'.ownBlock=v.ownBlock∨v'.ownBlock=some w.heap.size)->wpList Tryz.prog ops Q rest (a.put o.dst v') w') :
  wpList Tryz.prog ops Q (o::rest) a w :=
 wpList_plain ee fun K hK=>qI s x ho base v vx l0 l hs az hx fo hbytes aH fun v' w' h1 h2 h3 h4=>hK _ _ (h v' w' h1 h2 h3 h4)
theorem mL{w:World}{ops:Array Oper}{o:Oper}{a:Act}{K:Act->World->Prop}{Q:Exit->Act->World->Prop}{E:Prop}(ee:o.guard=none)(s x:Operand)
  (ho:o.op=.call { callee:=.builtin .append,args:=#[s,x],argTypes:=#[30,9] })
  (base:Nat) (v:Value) (l0:List Nat) (z:ByteArray) (hs:a.eval s=v) (az:aC w base v l0) (hx:a.eval x=.string z) (hbytes:l0.length+z.size<=140737488355328) (aH:base<=w.heap.size)
  (h:∀ v' w',aC w' base v' (l0++dd z)->Below base w w'->K (a.put o.dst v') w') :
  if Region.wanted o (yielded ops a.tmps)=true then Oper.wp Tryz.prog o a w K Q else E:=by
 have hw:Region.wanted o (yielded ops a.tmps)=true:=by simp[Region.wanted,ee]
 rw[if_pos hw];obtain⟨i0,hi,ce,hz1',bm⟩:=info_parts jf;have hb:=az;unfold aC at az;obtain⟨v',w',hr,o1,g1,_⟩:=run_append_own_string (P:=Tryz.prog) (w:=w) base 30 9 o.type 5 i0 Tryz.underlying30 Tryz.underlying9 hi ce hz1' bm v l0.length (aE .u8 l0) az z (by unfold maxLen;omega) hbytes aH;unfold Oper.wp execOp;simp only[ho,resolve,invoke,builtin,Sem.run_bind,Sem.run_pure,Result.andThen_ok,jaU,jal,jaG,hs,hx,hr];refine h v' w' ?_ (ts hb g1 aH)
 have e:strCells z=aE .u8 (dd z):=by
  unfold strCells aE dd;rw[ByteArray.toList_eq];simp[jao,Function.comp_def]
 unfold aC;rw[e]at o1;rw[bZ,ZT,iP];exact o1
end Go.Proofs.YtpljdjmpamjkhaaGreatDoor
