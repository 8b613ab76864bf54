import Derived.Test.YtpljdjmpamjkhaaGreatDoorWaj
import Derived.Test.YtpljdjmpamjkhaaGreatDoorWai
import Derived.Maps.OwnIn
import Derived.Deep.AppendLies
set_option linter.unusedVariables false
set_option linter.unusedSimpArgs false
set_option maxRecDepth 100000
set_option maxHeartbeats 4000000
namespace Go.Proofs.YtpljdjmpamjkhaaGreatDoor
open Go.RowKit Go.Lib
theorem pa{w:World}{ops:Array Oper}{rest:List Oper}{o:Oper}{a:Act}{Q:Exit->Act->World->Prop}(dO:o.guard=none)(s x:Operand)
  (ho:o.op=.call { callee:=.builtin .append,args:=#[s,x],argTypes:=#[30,9] })
  (base:Nat) (v:Value) (l0:List Nat) (z:ByteArray) (hs:a.eval s=v) (aw:aG w base v l0) (hx:a.eval x=.string z)
  (hbytes:l0.length+z.size<=140737488355328) (aD:base<=w.heap.size)
  (h:∀ v' w',aG w' base v' (l0++dX z)->Below base w w'->wpList Tryz.prog ops Q rest (a.put o.dst v') w') :
  wpList Tryz.prog ops Q (o::rest) a w:=by
 obtain⟨i0,hi,bN,hz1',bh⟩:=YW lF;unfold aG at *;refine wpList_append_own_string (w:=w) dO s x 30 9 ho base 5 i0 Tryz.underlying30 Tryz.underlying9 hi bN hz1' bh v l0.length (az .u8 l0) hs aw z hx (by unfold maxLen;omega) (by exact hbytes) aD ?_;intro v' w' o1 g1 _;refine h v' w' ?_ ((Yz base w).grown g1 aD (fun k hk=>(aw.lt k hk).1))
 have e:strCells z=az .u8 (dX z):=by
  unfold strCells az dX;rw[ByteArray.toList_eq];simp[Zk,Function.comp_def]
 rw[e]at o1;rw[dL,YC,ko];exact o1
theorem Nc(b:Bool)(w:World):Calls Tryz.prog 166 #[.bool b] w fun e w'=>e=.returned (.int .u64 ((gX b:Nat):Int))/\w'=w:=by
 cases b
 all_goals
  go_enter Tryz.func166,Tryz.ntmps166
  go_wp2;go_ret
  exact⟨rfl,rfl⟩
theorem iF(n:Nat)(h:n<18446744073709551616):(uv n).length<=10:=cC h
theorem vo(f:Fd)(hf:Okf f)(hs:f.2.1.size<5000)(w:World):Calls Tryz.prog 120 #[nM f] w (dJ w (gZ f)):=by
 unfold nM;obtain⟨i,n,k,nd⟩:=f;have h1:i<4294967296:=hf.1;have h2:k<256:=hf.2;simp only at *;have HP:jaH (gZ (i,n,k,nd)=uv i++uv n.size++dX n++uv k++uv (gX nd)):=ae rfl;have ja:gX nd<2:=by unfold gX;split<;>omega
 have Qt:=ae (cU i (by omega));have WP:=ae (cU n.size (by omega));have WQ:=ae (cU k (by omega));have HV4:=ae (cU (gX nd) (by omega));have uZ:=ae (Nc nd);have u1:=iF i (by omega);have u2:=iF n.size (by omega);have u3:=iF k (by omega);have u4:=iF (gX nd) (by omega);have hnl:=ko n;have bV:=ae (aj w (.cells #[.int .u32 (i:Int),.string n,.int .u8 (k:Int),.bool nd] 81));have hz:w.heap.size<(w.alloc (.cells #[.int .u32 (i:Int),.string n,.int .u8 (k:Int),.bool nd] 81)).heap.size:=by rw[YB];omega
 have HT:jaH (∀ U,Below (w.alloc (.cells #[.int .u32 (i:Int),.string n,.int .u8 (k:Int),.bool nd] 81)).heap.size (w.alloc (.cells #[.int .u32 (i:Int),.string n,.int .u8 (k:Int),.bool nd] 81)) U->U.cell? ⟨w.heap.size,0,none⟩=some (.int .u32 (i:Int))/\U.cell? ⟨w.heap.size,1,none⟩=some (.string n)/\U.cell? ⟨w.heap.size,2,none⟩=some (.int .u8 (k:Int))/\U.cell? ⟨w.heap.size,3,none⟩=some (.bool nd)):=ae (fun U h=>by
  obtain⟨c0,c1,c2,c3⟩:=gN w (.int .u32 (i:Int)) (.string n) (.int .u8 (k:Int)) (.bool nd) 81;exact⟨(h.cell (p:=⟨w.heap.size,0,none⟩) hz).trans c0,(h.cell (p:=⟨w.heap.size,1,none⟩) hz).trans c1,(h.cell (p:=⟨w.heap.size,2,none⟩) hz).trans c2,(h.cell (p:=⟨w.heap.size,3,none⟩) hz).trans c3⟩)
 generalize hW:w.alloc (.cells #[.int .u32 (i:Int),.string n,.int .u8 (k:Int),.bool nd] 81)=W at *;obtain⟨c0,c1,c2,c3⟩:=HT.o W (Yz _ _);clear hf;generalize uv i=p1 at *;generalize uv n.size=p2 at *;generalize uv k=p3 at *;generalize uv (gX nd)=p4 at *;generalize gX nd=fl at *;go_enter Tryz.func120,Tryz.ntmps120
 go_wp2_with fail;try rw[hW]
 clear hW;refine(Qt.o _).mono ?_;rintro e w1 ⟨⟨v1,rfl,o1⟩,aA⟩;have fK:=ae o1;have Qu:=ae aA;clear o1 aA c0 c1 c2 c3;obtain⟨c0,c1,c2,c3⟩:=HT.o _ Qu.o;go_wp2_with fail;refine(WP.o _).mono ?_;rintro e w2 ⟨⟨v2,rfl,o2⟩,ay⟩;have HO1k:=ae (fK.o.kept ay);have ec:=ae o2.sv;have Cu:=ae (ag Qu.o ay);clear o2 ay c0 c1 c2 c3;obtain⟨c0,c1,c2,c3⟩:=HT.o _ Cu.o;go_wp2_with (first | (at_builtin;refine aB rfl _ _ rfl W.heap.size _ _ p1 p2 rfl HO1k.o rfl ec.o ?d1 ?d2 ?_))
 case d1=>omega
 case d2=>exact Cu.o.size
 intro v3 w3 o3 aO;have dx:jaH (aG w3 W.heap.size v3 (p1++p2)):=ae (by simpa using o3);have UN:=ae (Cu.o.trans aO);clear o3 aO c0 c1 c2 c3;obtain⟨c0,c1,c2,c3⟩:=HT.o _ UN.o;go_wp2_with (first | (at_builtin;refine pa rfl _ _ rfl W.heap.size _ (p1++p2) n rfl dx.o rfl ?d3 ?d4 ?_))
 case d3=>first | (simp only[YC];omega) | (simp;omega) | omega
 case d4=>exact UN.o.size
 intro v4 w4 o4 bm;have fU:jaH (aG w4 W.heap.size v4 (p1++p2++dX n)):=ae (by simpa using o4);have HX4:=ae (UN.o.trans bm);clear o4 bm c0 c1 c2 c3;obtain⟨c0,c1,c2,c3⟩:=HT.o _ HX4.o;go_wp2_with fail;refine(WQ.o _).mono ?_;rintro e w5 ⟨⟨v5,rfl,o5⟩,bv⟩;have HO4k:=ae (fU.o.kept bv);have cQ:=ae o5.sv;have TV:=ae (ag HX4.o bv);clear o5 bv c0 c1 c2 c3;obtain⟨c0,c1,c2,c3⟩:=HT.o _ TV.o;go_wp2_with (first | (at_builtin;refine aB rfl _ _ rfl W.heap.size _ _ (p1++p2++dX n) p3 rfl HO4k.o rfl cQ.o ?d5 ?d6 ?_))
 case d5=>first | (simp only[YC];omega) | (simp;omega) | omega
 case d6=>exact TV.o.size
 intro v6 w6 o6 dP;have oe:jaH (aG w6 W.heap.size v6 (p1++p2++dX n++p3)):=ae (by simpa using o6);have vd:=ae (TV.o.trans dP);clear o6 dP c0 c1 c2 c3;obtain⟨c0,c1,c2,c3⟩:=HT.o _ vd.o;go_wp2_with fail;refine(uZ.o _).mono ?_;rintro e w7 ⟨rfl,rfl⟩;go_wp2_with fail;refine(HV4.o _).mono ?_;rintro e w8 ⟨⟨v8,rfl,o8⟩,lm⟩;have HO6k:=ae (oe.o.kept lm);have HO8:=ae o8.sv;have HX8:=ae (ag vd.o lm);clear o8 lm c0 c1 c2 c3;go_wp2_with (first | (at_builtin;refine aB rfl _ _ rfl W.heap.size _ _ (p1++p2++dX n++p3) p4 rfl HO6k.o rfl HO8.o ?d7 ?d8 ?_))
 case d7=>first | (simp only[YC];omega) | (simp;omega) | omega
 case d8=>exact HX8.o.size
 intro v9 w9 o9 sR;have HO9:jaH (aG w9 W.heap.size v9 (p1++p2++dX n++p3++p4)):=ae (by simpa using o9);have HX9:=ae (HX8.o.trans sR);clear o9 sR;go_wp2_with fail;go_ret
 rw[HP.o];exact⟨⟨_,rfl,bE HO9.o bV.o.size⟩,ag bV.o HX9.o⟩
theorem vy{l:List Fd}(hz:szs l<5000){k:Nat}(hk:k<l.length):l[k].2.1.size<5000:=by
 have:=FD (YF hk);omega
theorem gj{l:List Fd}(ho:∀ f∈l,Okf f)(hl:l.length<=100)(hz:szs l<5000)(k:Nat):(iB (l.take k)).length<=10000:=by
 have h1:=GP (l:=l.take k) (fun f hf=>ho f (ZA hf)) (jaE (rp l k) hz);have h2:=rp l k;have h3:(l.take k).length<=100:=by rw[YH];omega
 omega
theorem Nd{w:World}{v:Value}{l:List Fd}(hs:Sf w v l)(ho:∀ f∈l,Okf f)(hl:l.length<=100)(hz:szs l<5000)(id:Nat)(nl:id<4294967296) :
  Calls Tryz.prog 80 #[.agg #[.int .u32 (id:Int),v]] w (dJ w (ep id l)):=by
 obtain⟨a,cap,rfl,aV,bw⟩:=hs.form;have Lj:=ae ho;have HP:jaH (ep id l=uv id++uv l.length++iB l):=ae rfl;have zh:=ae (gj ho hl hz);have uX:=ae (fun k=>vy (k:=k) hz);have Qt:=ae (cU id (by omega));have WP:=ae (cU l.length (by omega));have u1:=iF id (by omega);have u2:=iF l.length (by omega);have cO:=aj w (.cells #[.int .u32 (id:Int),.slice a l.length cap] 25);have Cf:w.heap.size<(w.alloc (.cells #[.int .u32 (id:Int),.slice a l.length cap] 25)).heap.size:=by rw[YB];omega
 have HT:jaH (∀ U,Below (w.alloc (.cells #[.int .u32 (id:Int),.slice a l.length cap] 25)).heap.size (w.alloc (.cells #[.int .u32 (id:Int),.slice a l.length cap] 25)) U->Sf U (.slice a l.length cap) l/\U.cell? ⟨w.heap.size,0,none⟩=some (.int .u32 (id:Int))/\U.cell? ⟨w.heap.size,1,none⟩=some (.slice a l.length cap)):=ae (fun U h=>by
  obtain⟨c0,c1⟩:=aR w (.int .u32 (id:Int)) (.slice a l.length cap) 25;exact⟨(hs.kept cO).kept h,(h.cell (p:=⟨w.heap.size,0,none⟩) Cf).trans c0,(h.cell (p:=⟨w.heap.size,1,none⟩) Cf).trans c1⟩)
 have bV:=ae cO;clear hs cO ho;generalize hW:w.alloc (.cells #[.int .u32 (id:Int),.slice a l.length cap] 25)=W at *;obtain⟨_,c0,c1⟩:=HT.o W (Yz _ _);generalize uv id=p1 at *;generalize uv l.length=p2 at *;go_enter Tryz.func80,Tryz.ntmps80
 go_wp2_with fail;try rw[hW]
 clear hW;refine(Qt.o _).mono ?_;rintro e w1 ⟨⟨v1,rfl,o1⟩,aA⟩;have fK:=ae o1;have Qu:=ae aA;clear o1 aA c0 c1;obtain⟨_,c0,c1⟩:=HT.o _ Qu.o;go_wp2_with fail;refine(WP.o _).mono ?_;rintro e w2 ⟨⟨v2,rfl,o2⟩,ay⟩;have HO1k:=ae (fK.o.kept ay);have ec:=ae o2.sv;have Cu:=ae (ag Qu.o ay);clear o2 ay c0 c1;go_wp2_with (first | (at_builtin;refine aB rfl _ _ rfl W.heap.size _ _ p1 p2 rfl HO1k.o rfl ec.o ?d1 ?d2 ?_))
 case d1=>omega
 case d2=>exact Cu.o.size
 intro v3 w3 o3 aO;have dx:=ae o3;have UN:=ae (Cu.o.trans aO);clear o3 aO;obtain⟨_,c0,c1⟩:=HT.o _ UN.o;go_wp2_with fail;clear c0 c1;go_loopw [3,20] (fun b i wr=>∃ k:Nat,k<=l.length/\i=.int .i64 (k:Int)/\aG wr W.heap.size b (p1++p2++iB (l.take k))/\Below W.heap.size W wr) (fun _ i _=>l.length-(intOf i).toNat)
 case atStart=>exact⟨0,by omega,rfl,by simpa [iB]using dx.o,UN.o⟩
 case round =>
  obtain⟨k,hk,rfl,aw,ao⟩:=hrel;have HO:=ae aw;have HB:=ae ao;have bM:=ao.size;clear aw ao;by_cases ar:k<l.length
  ·obtain⟨b,off,rfl,hb,x0,x1,x2,x3⟩:=(HT.o _ HB.o).1.at ar
   have hlt':(k:Int)<(l.length:Int):=(by omega);have co:=ae (nC ar);have HPF:=ae (vo l[k] (Lj.o _ (YF ar)) (uX.o k ar));have hplen:=zh.o k
   have hpf:(gZ l[k]).length<=5100:=by
    have h1:=wt (Lj.o _ (YF ar)) (by have:=uX.o k ar;omega);have h2:=uX.o k ar;omega
   generalize gZ l[k]=PF at *;generalize iB (l.take k)=PL at *;generalize l[k]=f at *;obtain⟨f0,f1,f2,f3⟩:=f;unfold nM at HPF;simp only at *;have Rq:=ae (aj wr (.cells #[.int .u32 (f0:Int),.string f1,.int .u8 (f2:Int),.bool f3] 81));go_wp2_with fail;refine(HPF.o _).mono ?_;rintro e w5 ⟨⟨v5,rfl,o5⟩,bv⟩;have hbT:=ag Rq.o bv;have cQ:=ae (HO.o.kept hbT);have oe:=ae o5.sv;have TV:=ae (ag HB.o hbT);clear o5 bv hbT x0 x1 x2 x3;go_wp2_with (first | (at_builtin;refine aB rfl _ _ rfl W.heap.size _ _ (p1++p2++PL) PF rfl cQ.o rfl oe.o ?d3 ?d4 ?_))
   case d3=>first | (simp only[YC];omega) | (simp;omega) | omega
   case d4=>exact TV.o.size
   intro v7 w7 o7 jK;have qY:jaH (aG w7 W.heap.size v7 (p1++p2++PL++PF)):=ae (by simpa using o7);have HX7:=ae (TV.o.trans jK);clear o7 jK;go_wp2_with fail;go_roundw
   case rel=>exact⟨k+1,by omega,by go_num,by rw[co.o,← YR];exact qY.o,HX7.o⟩
   case measure=>simp[intOf];omega
  ·obtain rfl:k=l.length:=by omega
   have eO:¬ ((l.length:Nat):Int)<(l.length:Int):=(by omega);rw[YK]at HO;go_wp2_with fail;go_ret
   rw[HP.o];exact⟨⟨_,rfl,bE HO.o bV.o.size⟩,ag bV.o HB.o⟩
theorem nh{w:World}(ty:TypeId)(base:Nat)(v vx:Value)(l0 l:List Nat)(aw:aG w base v l0)(et:Sv w vx (az .u8 l))(hbytes:l0.length+l.length<=140737488355328)(aD:base<=w.heap.size) :
  ∃ v' w',(Builtin.append_ #[30,30] ty #[v,vx]).run Tryz.prog w=.ok v' w'/\aG w' base v' (l0++l)/\w.grownBy w' v.ownBlock/\(v'.ownBlock=v.ownBlock∨v'.ownBlock=some w.heap.size):=by
 obtain⟨i0,hi,bN,hz1',bh⟩:=YW lF;unfold aG at *;obtain⟨ad,cap,rfl,h1,h2,h3,h4⟩:=et;rw[am]at *;cases ad with
 | none =>
  have hc:=h3 rfl;subst hc;have hl:l=[]:=YU (by omega);subst hl;have hr:=jae (P:=Tryz.prog) (w:=w) base 30 ty 5 i0 1 Tryz.underlying30 hi v l0.length (az .u8 l0) aw;refine⟨v,w,hr,by rw[YZ];exact aw,⟨rfl,rfl,rfl,YA _,fun _ _ _=>rfl⟩,Or.inl rfl⟩
 | some ad =>
  obtain⟨v',w',hr,o1,g1,_,e1⟩:=run_append_own_at (P:=Tryz.prog) w base 30 ty 5 i0 (.int .u8 0) 1 1 Tryz.underlying30 hi bN hz1' bh rfl (by decide) v l0.length (az .u8 l0) aw ad l.length cap (az .u8 l) (by rw[am];omega)
   (fun j u hu=>by
    have hj:j<l.length:=by
     have:=(List.getElem?_eq_some_iff.1 hu).1;rwa[am]at this
    obtain⟨b,off,h5,_,h6⟩:=h4 (by omega);cases h5
    rw[kq];exact h6 j u hu) (iH _ _) (by unfold maxLen;omega) (by omega) aD
  refine⟨v',w',hr,?_,g1,e1⟩;rw[dL,YC];exact o1
theorem rL{w w':World}{base:Nat}{v:Value}{l:List Nat}(aw:aG w base v l)(hg:w.grownBy w' v.ownBlock)(aD:base<=w.heap.size):Below base w w' :=
 (Yz base w).grown hg aD (fun k hk=>(aw.lt k hk).1)
theorem pb{w:World}{o:Oper}{a:Act}{K:Act->World->Prop}{Q:Exit->Act->World->Prop}(s x:Operand)
  (ho:o.op=.call { callee:=.builtin .append,args:=#[s,x],argTypes:=#[30,30] })
  (base:Nat) (v vx:Value) (l0 l:List Nat) (hs:a.eval s=v) (aw:aG w base v l0) (hx:a.eval x=vx) (et:Sv w vx (az .u8 l)) (hbytes:l0.length+l.length<=140737488355328) (aD:base<=w.heap.size)
  (h:∀ v' w',aG w' base v' (l0++l)->Below base w w'->w.grownBy w' v.ownBlock->(v'.ownBlock=v.ownBlock∨v'.ownBlock=some w.heap.size)->K (a.put o.dst v') w'):Oper.wp Tryz.prog o a w K Q:=by
 obtain⟨v',w',hr,h2,h3,h4⟩:=nh o.type base v vx l0 l aw et hbytes aD;unfold Oper.wp execOp;simp only[ho,resolve,invoke,builtin,Sem.run_bind,Sem.run_pure,Result.andThen_ok,ZP,Zh,Zs,hs,hx,hr];exact h v' w' h2 (rL aw h3 aD) h3 h4
theorem tZ{w:World}{ops:Array Oper}{o:Oper}{a:Act}{K:Act->World->Prop}{Q:Exit->Act->World->Prop}{E:Prop}(dO:o.guard=none)(s x:Operand)
  (ho:o.op=.call { callee:=.builtin .append,args:=#[s,x],argTypes:=#[30,30] })
  (base:Nat) (v vx:Value) (l0 l:List Nat) (hs:a.eval s=v) (aw:aG w base v l0) (hx:a.eval x=vx) (et:Sv w vx (az .u8 l)) (hbytes:l0.length+l.length<=140737488355328) (aD:base<=w.heap.size)
  (h:∀ v' w',aG w' base v' (l0++l)->Below base w w'->w.grownBy w' v.ownBlock->(v'.ownBlock=v.ownBlock∨v'.ownBlock=some w.heap.size)->K (a.put o.dst v') w') :
  if Region.wanted o (yielded ops a.tmps)=true then Oper.wp Tryz.prog o a w K Q else E:=by
 have hw:Region.wanted o (yielded ops a.tmps)=true:=by simp[Region.wanted,dO]
 rw[Yy hw];exact pb s x ho base v vx l0 l hs aw hx et hbytes aD h
theorem ea{w:World}{ops:Array Oper}{rest:List Oper}{o:Oper}{a:Act}{Q:Exit->Act->World->Prop}(dO:o.guard=none)(s x:Operand)
  (ho:o.op=.call { callee:=.builtin .append,args:=#[s,x],argTypes:=#[30,30] })
  (base:Nat) (v vx:Value) (l0 l:List Nat) (hs:a.eval s=v) (aw:aG w base v l0) (hx:a.eval x=vx) (et:Sv w vx (az .u8 l)) (hbytes:l0.length+l.length<=140737488355328) (aD:base<=w.heap.size)
  (h:∀ v' w',aG w' base v' (l0++l)->Below base w w'->w.grownBy w' v.ownBlock->(v'.ownBlock=v.ownBlock∨v'.ownBlock=some w.heap.size)->wpList Tryz.prog ops Q rest (a.put o.dst v') w') :
  wpList Tryz.prog ops Q (o::rest) a w :=
 wpList_plain dO fun K hK=>pb s x ho base v vx l0 l hs aw hx et hbytes aD fun v' w' h1 h2 h3 h4=>hK _ _ (h v' w' h1 h2 h3 h4)
theorem sH{w:World}{ops:Array Oper}{o:Oper}{a:Act}{K:Act->World->Prop}{Q:Exit->Act->World->Prop}{E:Prop}(dO:o.guard=none)(s x:Operand)
  (ho:o.op=.call { callee:=.builtin .append,args:=#[s,x],argTypes:=#[30,9] })
  (base:Nat) (v:Value) (l0:List Nat) (z:ByteArray) (hs:a.eval s=v) (aw:aG w base v l0) (hx:a.eval x=.string z) (hbytes:l0.length+z.size<=140737488355328) (aD:base<=w.heap.size)
  (h:∀ v' w',aG w' base v' (l0++dX z)->Below base w w'->K (a.put o.dst v') w') :
  if Region.wanted o (yielded ops a.tmps)=true then Oper.wp Tryz.prog o a w K Q else E:=by
 have hw:Region.wanted o (yielded ops a.tmps)=true:=by simp[Region.wanted,dO]
 rw[Yy hw];obtain⟨i0,hi,bN,hz1',bh⟩:=YW lF;have hb:=aw;unfold aG at aw;obtain⟨v',w',hr,o1,g1,_⟩:=run_append_own_string (P:=Tryz.prog) (w:=w) base 30 9 o.type 5 i0 Tryz.underlying30 Tryz.underlying9 hi bN hz1' bh v l0.length (az .u8 l0) aw z (by unfold maxLen;omega) hbytes aD;unfold Oper.wp execOp;simp only[ho,resolve,invoke,builtin,Sem.run_bind,Sem.run_pure,Result.andThen_ok,ZP,Zh,Zs,hs,hx,hr];refine h v' w' ?_ (rL hb g1 aD)
 have e:strCells z=az .u8 (dX z):=by
  unfold strCells az dX;rw[ByteArray.toList_eq];simp[Zk,Function.comp_def]
 unfold aG;rw[e]at o1;rw[dL,YC,ko];exact o1
theorem cmpK(a b:Int)(w:World):Calls Tryz.prog 150 #[.int .u8 a,.int .u8 b] w fun e w'=>e=.returned (.int .i64 (if a<b then -1 else if b<a then 1 else 0))/\w'=w:=by
 by_cases h1:a<b
 ·go_enter Tryz.func150,Tryz.ntmps150
  go_wp2;go_ret
  exact⟨rfl,rfl⟩
 ·by_cases h2:b<a
  ·go_enter Tryz.func150,Tryz.ntmps150
   go_wp2;go_ret
   exact⟨rfl,rfl⟩
  ·go_enter Tryz.func150,Tryz.ntmps150
   go_wp2;go_ret
   exact⟨rfl,rfl⟩
theorem cmpI(a b:Int)(w:World):Calls Tryz.prog 151 #[.int .i64 a,.int .i64 b] w fun e w'=>e=.returned (.int .i64 (if a<b then -1 else if b<a then 1 else 0))/\w'=w:=by
 by_cases h1:a<b
 ·go_enter Tryz.func151,Tryz.ntmps151
  go_wp2;go_ret
  exact⟨rfl,rfl⟩
 ·by_cases h2:b<a
  ·go_enter Tryz.func151,Tryz.ntmps151
   go_wp2;go_ret
   exact⟨rfl,rfl⟩
  ·go_enter Tryz.func151,Tryz.ntmps151
   go_wp2;go_ret
   exact⟨rfl,rfl⟩
theorem SC(a b:ByteArray)(w:World)(h:Op.bytesLess a.toList b.toList=true):Calls Tryz.prog 152 #[.string a,.string b] w fun e w'=>e=.returned (.int .i64 (-1))/\w'=w:=by
 go_enter Tryz.func152,Tryz.ntmps152
 go_wp2;go_ret
 exact⟨rfl,rfl⟩
theorem SD(a b:ByteArray)(w:World)(h:Op.bytesLess a.toList b.toList=false)(h2:(a.toList==b.toList)=true):Calls Tryz.prog 152 #[.string a,.string b] w fun e w'=>e=.returned (.int .i64 0)/\w'=w:=by
 go_enter Tryz.func152,Tryz.ntmps152
 go_wp2;go_ret
 exact⟨rfl,rfl⟩
theorem SE(a b:ByteArray)(w:World)(h:Op.bytesLess a.toList b.toList=false)(h2:(a.toList==b.toList)=false):Calls Tryz.prog 152 #[.string a,.string b] w fun e w'=>e=.returned (.int .i64 1)/\w'=w:=by
 go_enter Tryz.func152,Tryz.ntmps152
 go_wp2;go_ret
 exact⟨rfl,rfl⟩
def c3(a b:Int):Int:=if a<b then -1 else if b<a then 1 else 0
def cS(a b:ByteArray):Int:=if Op.bytesLess a.toList b.toList=true then -1 else if (a.toList==b.toList)=true then 0 else 1
def or3(x y z:Int):Int:=if x≠0 then x else if y≠0 then y else z
theorem Nf(a b:Int)(w:World):Calls Tryz.prog 150 #[.int .u8 a,.int .u8 b] w fun e w'=>e=.returned (.int .i64 (c3 a b))/\w'=w:=by
 unfold c3;exact cmpK a b w
theorem Ng(a b:Int)(w:World):Calls Tryz.prog 151 #[.int .i64 a,.int .i64 b] w fun e w'=>e=.returned (.int .i64 (c3 a b))/\w'=w:=by
 unfold c3;exact cmpI a b w
theorem Nh(a b:ByteArray)(w:World):Calls Tryz.prog 152 #[.string a,.string b] w fun e w'=>e=.returned (.int .i64 (cS a b))/\w'=w:=by
 unfold cS;by_cases h:Op.bytesLess a.toList b.toList=true
 ·rw[Yy h];exact SC a b w h
 ·rw[Yx h]
  by_cases h2:(a.toList==b.toList)=true
  ·rw[Yy h2];exact SD a b w (by simpa using h) h2
  ·rw[Yx h2];exact SE a b w (by simpa using h) (by simpa using h2)
theorem or_x(g:Nat)(x:Int)(w:World)(h0:w.cell? ⟨g,0,none⟩=some (.int .i64 x))(hx:(x != 0)=true):Calls Tryz.prog 149 #[.slice (some ⟨g,0,none⟩) 3 3] w fun e w'=>e=.returned (.int .i64 x)/\w'=w:=by
 go_enter Tryz.func149,Tryz.ntmps149
 go_wp2;refine wp_loop_rounds 1 ?_;rw[rounds_succ];go_wp2;go_ret
 exact⟨rfl,rfl⟩
theorem or_y(g:Nat)(y:Int)(w:World)(h0:w.cell? ⟨g,0,none⟩=some (.int .i64 0))(h1:w.cell? ⟨g,1,none⟩=some (.int .i64 y))(hy:(y != 0)=true):Calls Tryz.prog 149 #[.slice (some ⟨g,0,none⟩) 3 3] w fun e w'=>e=.returned (.int .i64 y)/\w'=w:=by
 go_enter Tryz.func149,Tryz.ntmps149
 go_wp2;refine wp_loop_rounds 2 ?_;rw[rounds_succ];go_wp2;rw[rounds_succ];go_wp2;go_ret
 exact⟨rfl,rfl⟩
theorem or_z(g:Nat)(z:Int)(w:World)(h0:w.cell? ⟨g,0,none⟩=some (.int .i64 0))(h1:w.cell? ⟨g,1,none⟩=some (.int .i64 0))(h2:w.cell? ⟨g,2,none⟩=some (.int .i64 z))(hz:(z != 0)=true):Calls Tryz.prog 149 #[.slice (some ⟨g,0,none⟩) 3 3] w fun e w'=>e=.returned (.int .i64 z)/\w'=w:=by
 go_enter Tryz.func149,Tryz.ntmps149
 go_wp2;refine wp_loop_rounds 3 ?_;rw[rounds_succ];go_wp2;rw[rounds_succ];go_wp2;rw[rounds_succ];go_wp2;go_ret
 exact⟨rfl,rfl⟩
theorem SF(g:Nat)(w:World)(h0:w.cell? ⟨g,0,none⟩=some (.int .i64 0))(h1:w.cell? ⟨g,1,none⟩=some (.int .i64 0))(h2:w.cell? ⟨g,2,none⟩=some (.int .i64 0)):Calls Tryz.prog 149 #[.slice (some ⟨g,0,none⟩) 3 3] w fun e w'=>e=.returned (.int .i64 0)/\w'=w:=by
 go_enter Tryz.func149,Tryz.ntmps149
 go_wp2;refine wp_loop_rounds 4 ?_;rw[rounds_succ];go_wp2;rw[rounds_succ];go_wp2;rw[rounds_succ];go_wp2;rw[rounds_succ];go_wp2;go_ret
 exact⟨rfl,rfl⟩
theorem VO(g:Nat)(x y z:Int)(w:World)(h0:w.cell? ⟨g,0,none⟩=some (.int .i64 x))(h1:w.cell? ⟨g,1,none⟩=some (.int .i64 y))(h2:w.cell? ⟨g,2,none⟩=some (.int .i64 z)):Calls Tryz.prog 149 #[.slice (some ⟨g,0,none⟩) 3 3] w fun e w'=>e=.returned (.int .i64 (or3 x y z))/\w'=w:=by
 unfold or3;by_cases hx:x≠0
 ·rw[Yy hx];exact or_x g x w h0 (by simpa using hx)
 ·rw[Yx hx]
  obtain rfl:x=0:=by omega
  by_cases hy:y≠0
  ·rw[Yy hy];exact or_y g y w h0 h1 (by simpa using hy)
  ·rw[Yx hy]
   obtain rfl:y=0:=by omega
   by_cases hz:z=0
   ·subst hz;exact SF g w h0 h1 h2
   ·exact or_z g z w h0 h1 h2 (by simpa using hz)
theorem As{x y:Value}{k n k' n':Int}{s s':ByteArray}(hx:Val x k n s)(hy:Val y k' n' s')(w:World):Calls Tryz.prog 105 #[x,y] w fun e w'=>e=.returned (.int .i64 (or3 (c3 k k') (c3 n n') (cS s s')))/\Below w.heap.size w w':=by
 go_enter Tryz.func105,Tryz.ntmps105
 go_wp2_with fail;refine(nz hx _).mono ?_;rintro e w1 ⟨rfl,aA⟩;go_wp2_with fail;refine(nz hy _).mono ?_;rintro e w2 ⟨rfl,ay⟩;have cG:=aA.size;have bh:w1.heap.size<w2.heap.size:=by have:=ay.size;simp at this;omega
 obtain⟨jH,cK⟩:=fd ay;have p0:=jH w1.heap.size 0 (by simp);have p1:=jH w1.heap.size 1 (by simp);have p2:=jH w1.heap.size 2 (by simp);clear jH cK;simp at p0 p1 p2
 go_wp2_with fail;obtain⟨W,hW⟩:∃ W:World,W=w2.alloc (Obj.cells #[Value.int IntKind.u8 k',Value.int IntKind.i64 n',Value.string s'] 52):=⟨_,rfl⟩;have hbW:Below w2.heap.size w2 W:=by rw[hW];exact(Yz _ _).alloc (YA _) _
 have a0:W.cell? ⟨w1.heap.size,0,none⟩=some (.int .u8 k):=(hbW.cell (p:=⟨w1.heap.size,0,none⟩) bh).trans p0;have a1:W.cell? ⟨w1.heap.size,1,none⟩=some (.int .i64 n):=(hbW.cell (p:=⟨w1.heap.size,1,none⟩) bh).trans p1;have a2:W.cell? ⟨w1.heap.size,2,none⟩=some (.string s):=(hbW.cell (p:=⟨w1.heap.size,2,none⟩) bh).trans p2;have b0:W.cell? ⟨w2.heap.size,0,none⟩=some (.int .u8 k'):=by rw[hW];simp
 have b1:W.cell? ⟨w2.heap.size,1,none⟩=some (.int .i64 n'):=by rw[hW];simp
 have b2:W.cell? ⟨w2.heap.size,2,none⟩=some (.string s'):=by rw[hW];simp
 have hzW:w2.heap.size<W.heap.size:=by rw[hW];simp
 have hzV:w1.heap.size<W.heap.size:=by omega
 have HB:Below w.heap.size w W:=by rw[hW];exact(((aA.alloc (by omega) _).trans (ay.mono (by simp;omega))).alloc (by omega) _)
 have HH:jaH (Below w.heap.size w W):=HB;clear HB;rw[← hW];clear hW hbW p0 p1 p2 aA ay hx hy;go_region_held3 (fun w'=>w'.cell? ⟨w1.heap.size,0,none⟩=some (.int .u8 k)/\w'.cell? ⟨w1.heap.size,1,none⟩=some (.int .i64 n)/\w'.cell? ⟨w1.heap.size,2,none⟩=some (.string s)/\w'.cell? ⟨w2.heap.size,0,none⟩=some (.int .u8 k')/\w'.cell? ⟨w2.heap.size,1,none⟩=some (.int .i64 n')/\w'.cell? ⟨w2.heap.size,2,none⟩=some (.string s')) (go_keep) (first | (go_at_call 150;refine(Nf _ _ _).mono ?_;rintro e w' ⟨rfl,rfl⟩) | (go_at_call 151;refine(Ng _ _ _).mono ?_;rintro e w' ⟨rfl,rfl⟩) | (go_at_call 152;refine(Nh _ _ _).mono ?_;rintro e w' ⟨rfl,rfl⟩) | (go_at_call 149;refine(VO _ (c3 k k') (c3 n n') (cS s s') _ ?_ ?_ ?_).mono ?_;(simp);(simp);(simp);rintro e w' ⟨rfl,rfl⟩))
 all_goals go_wp2
 all_goals go_ret
 all_goals refine⟨rfl,?_⟩
 all_goals exact(HH.o.alloc (by have:=HH.o.size;omega) _).drew
theorem jq(k n:Int)(s:ByteArray)(w:World):Calls Tryz.prog 266 #[.agg #[.int .u8 k,.int .i64 n,.string s]] w fun e w'=>e=.returned (.bool (iu k n))/\Below w.heap.size w w':=by
 unfold iu;by_cases h1:(k==1)=true
 ·go_enter Tryz.func266,Tryz.ntmps266
  go_wp2;go_ret
  exact⟨rfl,(Yz _ _).alloc (YA _) _⟩
 ·by_cases h2:(k==2)=true
  ·by_cases h3:(n==0)=true
   ·go_enter Tryz.func266,Tryz.ntmps266
    go_wp2;go_ret
    exact⟨rfl,(Yz _ _).alloc (YA _) _⟩
   ·go_enter Tryz.func266,Tryz.ntmps266
    go_wp2;go_ret
    exact⟨rfl,(Yz _ _).alloc (YA _) _⟩
  ·go_enter Tryz.func266,Tryz.ntmps266
   go_wp2;go_ret
   exact⟨rfl,(Yz _ _).alloc (YA _) _⟩
theorem DE{v:Value}{k n:Int}{s:ByteArray}(h:Val v k n s)(w:World):Calls Tryz.prog 144 #[v] w fun e w'=>e=.returned (.int .u8 k)/\w'=w:=by
 have t1:=xI;have t2:=CF;have t3:=xJ;have t4:=CG;have t5:=CI;have t6:=xK;have t7:=CJ;have t8:=CK;have t9:=CL;rcases h with ⟨rfl,rfl,rfl,rfl⟩ | ⟨rfl,rfl,rfl⟩ | ⟨b,rfl,rfl,rfl,rfl⟩ | ⟨rfl,rfl,rfl⟩
 all_goals
  go_enter Tryz.func144,Tryz.ntmps144
  go_wp2;go_ret
  exact⟨rfl,rfl⟩
theorem DF{v:Value}{k n:Int}{s:ByteArray}(h:Val v k n s)(w:World):Calls Tryz.prog 100 #[v] w fun e w'=>e=.returned (.int .u8 k)/\w'=w:=by
 go_enter Tryz.func100,Tryz.ntmps100
 go_wp2_with fail;refine(DE h _).mono ?_;rintro e w1 ⟨rfl,rfl⟩;go_wp2;go_ret
 exact⟨rfl,rfl⟩
theorem DG(k n:Int)(s:ByteArray)(w:World)(h1:3<k):Calls Tryz.prog 238 #[.agg #[.int .u8 k,.int .i64 n,.string s]] w fun e w'=>e=.returned (.int .i64 10)/\Below w.heap.size w w':=by
 go_enter Tryz.func238,Tryz.ntmps238
 go_wp2;go_ret
 exact⟨rfl,(Yz _ _).alloc (YA _) _⟩
theorem DH(k n:Int)(s:ByteArray)(w:World)(h1:k<=3)(h2:(k != 3)=true)(h3:s.toList.isEmpty=false):Calls Tryz.prog 238 #[.agg #[.int .u8 k,.int .i64 n,.string s]] w fun e w'=>e=.returned (.int .i64 1)/\Below w.heap.size w w':=by
 go_enter Tryz.func238,Tryz.ntmps238
 go_wp2;go_ret
 exact⟨rfl,(Yz _ _).alloc (YA _) _⟩
theorem Jj(k n:Int)(s:ByteArray)(w:World)(h1:k<=3)(h2:(k != 3)=false∨(k != 3)=true/\s.toList.isEmpty=true)(h3:iu k n=false):Calls Tryz.prog 238 #[.agg #[.int .u8 k,.int .i64 n,.string s]] w fun e w'=>e=.returned (.int .i64 1)/\Below w.heap.size w w':=by
 rcases h2 with h2 | ⟨h2,h4⟩
 all_goals
  go_enter Tryz.func238,Tryz.ntmps238
  go_wp2_with fail;refine(jq _ _ _ _).mono ?_;rw[h3];rintro e w1 ⟨rfl,hb⟩;obtain⟨hc,hf⟩:=fd hb;go_wp2;go_ret
  exact⟨rfl,((Yz _ _).alloc (YA _) _).trans (hb.mono (by simp))⟩
theorem DI(k n:Int)(s:ByteArray)(w:World)(h1:k<=3)(h2:(k != 3)=false∨(k != 3)=true/\s.toList.isEmpty=true)(h3:iu k n=true)(h5:64<(s.size:Int)):Calls Tryz.prog 238 #[.agg #[.int .u8 k,.int .i64 n,.string s]] w fun e w'=>e=.returned (.int .i64 5)/\Below w.heap.size w w':=by
 rcases h2 with h2 | ⟨h2,h4⟩
 all_goals
  go_enter Tryz.func238,Tryz.ntmps238
  go_wp2_with fail;refine(jq _ _ _ _).mono ?_;rw[h3];rintro e w1 ⟨rfl,hb⟩;obtain⟨hc,hf⟩:=fd hb;go_wp2;go_ret
  exact⟨rfl,((Yz _ _).alloc (YA _) _).trans (hb.mono (by simp))⟩
theorem Nj(k n:Int)(s:ByteArray)(w:World)(h1:k<=3)(h2:(k != 3)=false∨(k != 3)=true/\s.toList.isEmpty=true)(h3:iu k n=true)(h5:(s.size:Int)<=64):Calls Tryz.prog 238 #[.agg #[.int .u8 k,.int .i64 n,.string s]] w fun e w'=>e=.returned (.int .i64 0)/\Below w.heap.size w w':=by
 rcases h2 with h2 | ⟨h2,h4⟩
 all_goals
  go_enter Tryz.func238,Tryz.ntmps238
  go_wp2_with fail;refine(jq _ _ _ _).mono ?_;rw[h3];rintro e w1 ⟨rfl,hb⟩;obtain⟨hc,hf⟩:=fd hb;go_wp2;go_ret
  exact⟨rfl,((Yz _ _).alloc (YA _) _).trans (hb.mono (by simp))⟩
theorem wV(k n:Int)(s:ByteArray)(w:World):Calls Tryz.prog 238 #[.agg #[.int .u8 k,.int .i64 n,.string s]] w fun e w'=>e=.returned (.int .i64 (flt k n s))/\Below w.heap.size w w':=by
 unfold flt;by_cases h1:3<k
 ·rw[Yy h1];exact DG k n s w h1
 ·rw[Yx h1]
  by_cases h2:tx k s=true
  ·rw[Yy h2];exact DH k n s w (by omega) (xL h2).1 (xL h2).2
  ·rw[Yx h2]
   have h2':=tp (by simpa using h2);by_cases h3:iu k n=false
   ·rw[Yy h3];exact Jj k n s w (by omega) h2' h3
   ·rw[Yx h3]
    by_cases h4:64<(s.size:Int)
    ·rw[Yy h4];exact DI k n s w (by omega) h2' (by simpa using h3) h4
    ·rw[Yx h4];exact Nj k n s w (by omega) h2' (by simpa using h3) (by omega)
theorem VP(k n:Int)(s:ByteArray)(h:(flt k n s != 0)=true)(w:World):Calls Tryz.prog 217 #[.agg #[.int .u8 k,.int .i64 n,.string s]] w fun e w'=>e=.returned (.tuple #[.nilIface,.int .i64 (flt k n s)])/\Below w.heap.size w w':=by
 go_enter Tryz.func217,Tryz.ntmps217
 go_wp2_with fail;refine(wV _ _ _ _).mono ?_;rintro e w1 ⟨rfl,hb⟩;go_wp2_with fail;go_ret2
 exact⟨rfl,((Yz _ _).alloc (YA _) _).trans (hb.mono (by simp))⟩
theorem SG(k n:Int)(s:ByteArray)(h0:0<=k)(h:flt k n s=0)(w:World):Calls Tryz.prog 217 #[.agg #[.int .u8 k,.int .i64 n,.string s]] w fun e w'=>(∃ v,e=.returned (.tuple #[v,.int .i64 0])/\Val v k n s)/\Below w.heap.size w w':=by
 have hf:=wV k n s;rw[h]at hf;have HF:jaH (∀ w:World,Calls Tryz.prog 238 #[.agg #[.int .u8 k,.int .i64 n,.string s]] w fun e w'=>e=.returned (.int .i64 0)/\Below w.heap.size w w'):=hf;clear hf;obtain⟨rfl,rfl,rfl⟩ | ⟨rfl,rfl⟩ | ⟨rfl,rfl,rfl⟩ | ⟨rfl,rfl,rfl⟩ | ⟨rfl,rfl,hs⟩:=tq h0 h
 all_goals clear h h0
 ·go_enter Tryz.func217,Tryz.ntmps217
  go_wp2_with fail;refine(HF.o _).mono ?_;rintro e w1 ⟨rfl,hb⟩;obtain⟨hc,hf⟩:=fd hb;go_wp2_with fail;go_ret2
  exact⟨⟨_,rfl,Or.inl ⟨rfl,rfl,rfl,rfl⟩⟩,((Yz _ _).alloc (YA _) _).trans (hb.mono (by simp))⟩
 ·go_enter Tryz.func217,Tryz.ntmps217
  go_wp2_with fail;refine(HF.o _).mono ?_;rintro e w1 ⟨rfl,hb⟩;obtain⟨hc,hf⟩:=fd hb;go_wp2_with fail;go_ret2
  exact⟨⟨_,rfl,Or.inr (Or.inl ⟨rfl,rfl,rfl⟩)⟩,((Yz _ _).alloc (YA _) _).trans (hb.mono (by simp))⟩
 ·go_enter Tryz.func217,Tryz.ntmps217
  go_wp2_with fail;refine(HF.o _).mono ?_;rintro e w1 ⟨rfl,hb⟩;obtain⟨hc,hf⟩:=fd hb;go_wp2_with fail;go_ret2
  exact⟨⟨_,rfl,Or.inr (Or.inr (Or.inl ⟨false,rfl,rfl,rfl,rfl⟩))⟩,((Yz _ _).alloc (YA _) _).trans (hb.mono (by simp))⟩
 ·go_enter Tryz.func217,Tryz.ntmps217
  go_wp2_with fail;refine(HF.o _).mono ?_;rintro e w1 ⟨rfl,hb⟩;obtain⟨hc,hf⟩:=fd hb;go_wp2_with fail;go_ret2
  exact⟨⟨_,rfl,Or.inr (Or.inr (Or.inl ⟨true,rfl,rfl,rfl,rfl⟩))⟩,((Yz _ _).alloc (YA _) _).trans (hb.mono (by simp))⟩
 ·go_enter Tryz.func217,Tryz.ntmps217
  go_wp2_with fail;refine(HF.o _).mono ?_;rintro e w1 ⟨rfl,hb⟩;obtain⟨hc,hf⟩:=fd hb;go_wp2_with fail;go_ret2
  exact⟨⟨_,rfl,Or.inr (Or.inr (Or.inr ⟨rfl,rfl,rfl⟩))⟩,((Yz _ _).alloc (YA _) _).trans (hb.mono (by simp))⟩
theorem VQ(b:Bool)(w:World):Calls Tryz.prog 221 #[.bool b] w fun e w'=>e=.returned (.int .u8 (if b then 2 else 0))/\w'=w:=by
 cases b
 all_goals
  go_enter Tryz.func221,Tryz.ntmps221
  go_wp2;go_ret
  exact⟨rfl,rfl⟩
theorem rM(l:List UInt8):Op.bytesLess l l=false:=by
 induction l with
 | nil=>rfl
 | cons a l ih=>simp[Op.bytesLess,ih,UInt8.lt_irrefl]
theorem ua:(l m:List UInt8)->Op.bytesLess l m=true->Op.bytesLess m l=false
 | [],[],h=>by simp[Op.bytesLess]at h
 | [],_::_,_=>by simp[Op.bytesLess]
 | _::_,[],h=>by simp[Op.bytesLess]at h
 | a::l,b::m,h=>by
  have ih:=ua l m;simp only[Op.bytesLess,Bool.or_eq_true,Zu,Bool.and_eq_true,beq_iff_eq]at h;simp only[Op.bytesLess,Bool.or_eq_false_iff,jat,Bool.and_eq_false_iff,YN];rcases h with h | ⟨rfl,h⟩
  ·refine⟨fun h2=>UInt8.lt_irrefl _ (UInt8.lt_trans h h2),Or.inl ?_⟩
   rintro rfl;exact UInt8.lt_irrefl _ h
  ·exact⟨UInt8.lt_irrefl _,Or.inr (ih h)⟩
theorem ub:(l m:List UInt8)->Op.bytesLess l m=false->Op.bytesLess m l=false->l=m
 | [],[],_,_=>rfl
 | [],_::_,h,_=>by simp[Op.bytesLess]at h
 | _::_,[],_,h=>by simp[Op.bytesLess]at h
 | a::l,b::m,h,h2=>by
  have ih:=ub l m;simp only[Op.bytesLess,Bool.or_eq_false_iff,jat,Bool.and_eq_false_iff,YN]at h h2;have e:a=b:=UInt8.le_antisymm (UInt8.not_lt.mp h2.1) (UInt8.not_lt.mp h.1);subst e;rw[ih (by rcases h.2 with h | h;exact absurd rfl h;exact h) (by rcases h2.2 with h | h;exact absurd rfl h;exact h)]
theorem wW{a b:ByteArray}(h:a.toList=b.toList):a=b:=by
 rw[ByteArray.toList_eq,ByteArray.toList_eq]at h;cases a with
 | mk x=>cases b with
  | mk y=>congr;exact Array.toList_inj.mp h
theorem pc(a b:ByteArray):(cS a b=-1/\Op.bytesLess a.toList b.toList=true/\Op.bytesLess b.toList a.toList=false/\a≠b)∨(cS a b=0/\a=b)∨(cS a b=1/\Op.bytesLess a.toList b.toList=false/\Op.bytesLess b.toList a.toList=true/\a≠b):=by
 unfold cS;cases h1:Op.bytesLess a.toList b.toList
 ·by_cases h2:a=b
  ·subst h2;exact Or.inr (Or.inl (by simp))
  ·have h3:(a.toList==b.toList)=false:=by
    rw[YN];exact fun h=>h2 (wW h)
   refine Or.inr (Or.inr ⟨by simp[h3],rfl,?_,h2⟩);cases h4:Op.bytesLess b.toList a.toList
   ·exact absurd (wW (ub _ _ h1 h4)) h2
   ·rfl
 ·refine Or.inl ⟨by simp,rfl,ua _ _ h1,?_⟩
  rintro rfl;rw[rM]at h1;cases h1
theorem SH(a b:ByteArray):cS b a=- cS a b:=by
 rcases pc a b with ⟨h1,h2,h3,h4⟩ | ⟨h1,rfl⟩ | ⟨h1,h2,h3,h4⟩
 ·rcases pc b a with ⟨g1,g2,_⟩ | ⟨g1,rfl⟩ | ⟨g1,_⟩
  ·rw[h3]at g2;cases g2
  ·exact absurd rfl h4
  ·omega
 ·omega
 ·rcases pc b a with ⟨g1,_⟩ | ⟨g1,rfl⟩ | ⟨g1,_,g2,_⟩
  ·omega
  ·exact absurd rfl h4
  ·rw[h2]at g2;cases g2
def cv(k n:Int)(s:ByteArray)(k' n':Int)(s':ByteArray):Int:=or3 (c3 k k') (c3 n n') (cS s s')
theorem jV(a b:Int):(c3 a b=-1/\a<b)∨(c3 a b=0/\a=b)∨(c3 a b=1/\b<a):=by
 unfold c3;by_cases h:a<b
 ·rw[Yy h];omega
 ·rw[Yx h]
  by_cases h2:b<a
  ·rw[Yy h2];omega
  ·rw[Yx h2];omega
theorem pd(x y z:Int):(x≠0/\or3 x y z=x)∨(x=0/\y≠0/\or3 x y z=y)∨(x=0/\y=0/\or3 x y z=z):=by
 unfold or3;by_cases h:x≠0
 ·rw[Yy h];exact Or.inl ⟨h,rfl⟩
 ·rw[Yx h]
  by_cases h2:y≠0
  ·rw[Yy h2];exact Or.inr (Or.inl ⟨by omega,h2,rfl⟩)
  ·rw[Yx h2];exact Or.inr (Or.inr ⟨by omega,by omega,rfl⟩)
theorem Nk(a b:ByteArray):cS a b=-1∨cS a b=0∨cS a b=1:=by
 rcases pc a b with h | h | h
 ·exact Or.inl h.1
 ·exact Or.inr (Or.inl h.1)
 ·exact Or.inr (Or.inr h.1)
theorem Nl(k n:Int)(s:ByteArray)(k' n':Int)(s':ByteArray):cv k n s k' n' s'=-1∨cv k n s k' n' s'=0∨cv k n s k' n' s'=1:=by
 unfold cv;have h1:=pd (c3 k k') (c3 n n') (cS s s');have h2:=jV k k';have h3:=jV n n';have h4:=Nk s s';omega
theorem SI(k n:Int)(s:ByteArray)(k' n':Int)(s':ByteArray):cv k' n' s' k n s=- cv k n s k' n' s':=by
 unfold cv;have h1:=pd (c3 k k') (c3 n n') (cS s s');have h2:=jV k k';have h3:=jV n n';have h4:=SH s s';have g1:=pd (c3 k' k) (c3 n' n) (cS s' s);have g2:=jV k' k;have g3:=jV n' n;omega
def ls(k n:Int)(s:ByteArray)(k' n':Int)(s':ByteArray):Bool:=if (k != k')=true then decide (k<k') else if n<n' then true else if (n==n')=true then Op.bytesLess s.toList s'.toList else false
theorem ls_cv(k n:Int)(s:ByteArray)(k' n':Int)(s':ByteArray):ls k n s k' n' s'=decide (cv k n s k' n' s'=-1):=by
 unfold ls cv;have h1:=pd (c3 k k') (c3 n n') (cS s s');have h2:=jV k k';have h3:=jV n n';by_cases e:k=k'
 ·rw[Yx (by simpa using e)]
  by_cases f:n<n'
  ·rw[Yy f];symm;rw[Zu];omega
  ·rw[Yx f]
   by_cases g:n=n'
   ·rw[Yy (by simpa using g)]
    have h4:or3 (c3 k k') (c3 n n') (cS s s')=cS s s':=(by omega);rw[h4];rcases pc s s' with ⟨q1,q2,_⟩ | ⟨q1,rfl⟩ | ⟨q1,q2,_⟩
    ·rw[q1,q2];rfl
    ·rw[q1,rM];rfl
    ·rw[q1,q2];rfl
   ·rw[Yx (by simpa using g)];symm;rw[jat];omega
 ·rw[Yy (by simpa using e)]
  rw[decide_eq_decide];omega
theorem Nm(k n:Int)(s:ByteArray)(k' n':Int)(s':ByteArray)(w:World):Calls Tryz.prog 61 #[.agg #[.int .u8 k,.int .i64 n,.string s],.agg #[.int .u8 k',.int .i64 n',.string s']] w fun e w'=>e=.returned (.bool (ls k n s k' n' s'))/\Below w.heap.size w w':=by
 unfold ls;by_cases h1:(k != k')=true
 ·rw[Yy h1]
  go_enter Tryz.func61,Tryz.ntmps61
  go_wp2;go_ret
  exact⟨rfl,((Yz _ _).alloc (YA _) _).alloc (by simp) _⟩
 ·rw[Yx h1]
  have h1':(k != k')=false:=by simpa using h1
  clear h1;by_cases h2:n<n'
  ·rw[Yy h2]
   go_enter Tryz.func61,Tryz.ntmps61
   go_wp2;go_ret
   exact⟨rfl,((Yz _ _).alloc (YA _) _).alloc (by simp) _⟩
  ·rw[Yx h2]
   by_cases h3:(n==n')=true
   ·rw[Yy h3]
    go_enter Tryz.func61,Tryz.ntmps61
    go_wp2;go_ret
    exact⟨rfl,((Yz _ _).alloc (YA _) _).alloc (by simp) _⟩
   ·rw[Yx h3]
    have h3':(n==n')=false:=by simpa using h3
    clear h3;go_enter Tryz.func61,Tryz.ntmps61
    go_wp2;go_ret
    exact⟨rfl,((Yz _ _).alloc (YA _) _).alloc (by simp) _⟩
theorem SJ(k n:Int)(s:ByteArray)(k' n':Int)(s':ByteArray)(b:Bool)(hb:ls k n s k' n' s'=b)(w:World):Calls Tryz.prog 61 #[.agg #[.int .u8 k,.int .i64 n,.string s],.agg #[.int .u8 k',.int .i64 n',.string s']] w fun e w'=>e=.returned (.bool b)/\Below w.heap.size w w':=by
 subst hb;exact Nm k n s k' n' s' w
theorem jr{x y:Value}{k n k' n':Int}{s s':ByteArray}(hx:Val x k n s)(hy:Val y k' n' s')(w:World):Calls Tryz.prog 105 #[x,y] w fun e w'=>e=.returned (.int .i64 (cv k n s k' n' s'))/\Below w.heap.size w w':=As hx hy w
open Go.Op (bytesLess)
theorem pe{w:World}{B:Nat}{cs:Array Value}{l:List UInt8}(hB:B<=w.heap.size)(hl:l.length<=4)(h:cs.toList=aU l) :
  (w.alloc (.cells cs 5)).ownsRow B 5 1 (.slice (some ⟨w.heap.size,0,none⟩) l.length l.length) l.length (aU l):=by
 rw[← h];have hs:cs.size=l.length*1:=by rw[← Array.length_toList,h];simp[aU]
 exact jaf w cs l.length hB (by unfold maxLen;omega) hs
theorem Jk(c:Nat)(h:c<=1114111)(w:World) :
  Calls Tryz.prog 109 #[.int .i64 (c:Int)] w fun e w'=>(∃ v,e=.returned v/\w'.ownsRow w.heap.size 5 1 v (dd c).length (aU (dd c)))/\Below w.heap.size w w':=by
 by_cases h1:(c:Int)<128
 ·have he:dd c=[bt c]:=by unfold dd;rw[Yy (by omega)]
  rw[he];have e0:=bO (n:=c) (by omega);have HE:=ae e0;clear he e0;go_enter Tryz.func109,Tryz.ntmps109
  go_wp2_with fail;go_ret
  refine⟨⟨_,rfl,?_⟩,(Yz _ _).alloc (YA _) _⟩;exact pe (l:=[bt c]) (YA _) (by simp) (by simp[aU,HE.o])
 ·by_cases h2:(c:Int)<2048
  ·have he:dd c=[bt (192+c / 64),bt (128+c % 64)]:=by unfold dd;rw[Yx (by omega),Yy (by omega)]
   rw[he];have HE:=ae (And.intro (bO (n:=192+c / 64) (by omega)) (bO (n:=128+c % 64) (by omega)));clear he;go_enter Tryz.func109,Tryz.ntmps109
   go_wp2_with fail;go_ret
   refine⟨⟨_,rfl,?_⟩,(Yz _ _).alloc (YA _) _⟩;refine pe (l:=[bt (192+c / 64),bt (128+c % 64)]) (YA _) (by simp) ?_;simp[aU,HE.o.1,HE.o.2]
  ·by_cases h3:(c:Int)<65536
   ·have he:dd c=[bt (224+c / 4096),bt (128+c / 64 % 64),bt (128+c % 64)]:=by unfold dd;rw[Yx (by omega),Yx (by omega),Yy (by omega)]
    rw[he];have HE:=ae (And.intro (bO (n:=224+c / 4096) (by omega)) (And.intro (bO (n:=128+c / 64 % 64) (by omega)) (bO (n:=128+c % 64) (by omega))));clear he;go_enter Tryz.func109,Tryz.ntmps109
    go_wp2_with fail;go_ret
    refine⟨⟨_,rfl,?_⟩,(Yz _ _).alloc (YA _) _⟩;refine pe (l:=[bt (224+c / 4096),bt (128+c / 64 % 64),bt (128+c % 64)]) (YA _) (by simp) ?_;simp[aU,HE.o.1,HE.o.2.1,HE.o.2.2]
   ·have he:dd c=[bt (240+c / 262144),bt (128+c / 4096 % 64),bt (128+c / 64 % 64),bt (128+c % 64)]:=by unfold dd;rw[Yx (by omega),Yx (by omega),Yx (by omega)]
    rw[he];have HE:=ae (And.intro (bO (n:=240+c / 262144) (by omega)) (And.intro (bO (n:=128+c / 4096 % 64) (by omega)) (And.intro (bO (n:=128+c / 64 % 64) (by omega)) (bO (n:=128+c % 64) (by omega)))));clear he;go_enter Tryz.func109,Tryz.ntmps109
    go_wp2_with fail;go_ret
    refine⟨⟨_,rfl,?_⟩,(Yz _ _).alloc (YA _) _⟩;refine pe (l:=[bt (240+c / 262144),bt (128+c / 4096 % 64),bt (128+c / 64 % 64),bt (128+c % 64)]) (YA _) (by simp) ?_;simp[aU,HE.o.1,HE.o.2.1,HE.o.2.2.1,HE.o.2.2.2]
theorem Nn{w:World}{B n:Nat}{v:Value}{l:List UInt8}(h:w.ownsRow B 5 1 v n (aU l))(hn:0<l.length):(convert 30 9 v).run Tryz.prog w=.ok (.string ⟨l.toArray⟩) w:=by
 have hl:l.length=n:=by have:=h.1;simpa [aU]using this
 obtain⟨g,cap,rfl,_,_,hc⟩:=(oP h).2 (by omega);rw[← hl];refine run_convert_bytes_back w 30 9 5 ⟨g,0,none⟩ cap l Tryz.underlying30 Tryz.underlying5 Tryz.underlying9 fun j hj=>?_
 have Ff:(⟨g,0,none⟩:Addr).add j=⟨g,j,none⟩:=by unfold Addr.add;split<;>simp_all
 rw[Ff];exact hc j _ (by simp[aU,hj])
def di(l:List UInt8)(n:Int):Option (List UInt8) :=
 if cV l=true then (if ((V l).length:Int)<=n then some l else if n<1 then none else upL l n.toNat) else none
theorem SK(r:Nat):(r+1=55296->nx r=57344)/\(r+1≠55296->nx r=r+1):=by
 unfold nx;constructor
 ·intro h;rw[Yy (by omega)]
 ·intro h;rw[Yx (by omega)]
theorem yo(s:ByteArray)(n:Int)(hs:s.size<=100000)(w:World) :
  Calls Tryz.prog 63 #[.string s,.int .i64 n] w fun e w'=>FR e (di (lb s) n)/\Below w.heap.size w w':=by
 have hL:=bX s;have hV:=zq (lb s);have HX:jaH (di (lb s) n=if cV (lb s)=true then (if ((V (lb s)).length:Int)<=n then some (lb s) else if n<1 then none else upL (lb s) n.toNat) else none):=rfl;have HEx:=ae (fF s);have HAp:=ae wI;go_enter Tryz.func63,Tryz.ntmps63
 go_wp2_with fail;refine(mu s hs _).mono ?_;rintro e w1 ⟨⟨a,b,rfl,ha,hb⟩,ao⟩;have HB:=ae ao;have hz:=ao.size;clear ao;obtain⟨⟨ad,cap,rfl,_⟩,TU⟩:=oP ha;obtain⟨⟨ad2,cap2,rfl,_⟩,Ri⟩:=oP hb;clear ha hb;have Cy:=ae TU;have TW:=ae Ri;clear TU Ri;generalize fT:cV (lb s)=cl at *;cases cl with
 | false =>
  go_wp2_with fail;go_ret2
  rw[HX.o];exact⟨⟨_,_,rfl,rfl,rfl⟩,HB.o⟩
 | true =>
  by_cases h1:((V (lb s)).length:Int)<=n
  ·rw[Yy h1]at HX
   go_wp2_with fail;go_ret2
   rw[HX.o];exact⟨⟨_,_,rfl,rfl,rfl⟩,HB.o⟩
  ·rw[Yx h1]at HX
   by_cases h2:n<1
   ·rw[Yy h2]at HX
    go_wp2_with fail;go_ret2
    rw[HX.o];exact⟨⟨_,_,rfl,rfl,rfl⟩,HB.o⟩
   ·rw[Yx h2]at HX
    simp only[if_true]at HX;clear fT;obtain⟨m,rfl⟩:∃ m:Nat,n=(m:Int):=⟨n.toNat,by omega⟩;rw[Ze]at HX;obtain⟨ga,ca,hsa,hga,_,TU⟩:=Cy.o (by omega);obtain⟨gb,cb,hsb,Lk,_,Ri⟩:=TW.o (by omega);simp only[Value.slice.injEq]at hsa hsb;obtain⟨rfl,_,rfl⟩:=hsa;obtain⟨rfl,_,rfl⟩:=hsb;clear Cy TW;have Cy:=ae TU;have TW:=ae Ri;clear TU Ri;go_wp2_with fail;go_loopw [9] (fun i w'=>w'=w1/\∃ k:Nat,k<=m/\i=.int .i64 ((k:Int)-1)/\fP (V (lb s)) k=fP (V (lb s)) m) (fun i _=>(intOf i+1).toNat)
    case atStart=>exact⟨rfl,m,YA _,rfl,rfl⟩
    case round =>
     obtain⟨rfl,k,hk,rfl,Ql⟩:=hrel;have HL:=ae Ql;clear Ql;cases k with
     | zero =>
      go_wp2_with fail;go_ret2
      rw[HX.o,upL,← HL.o];exact⟨⟨_,_,rfl,rfl,rfl⟩,HB.o⟩
     | succ i =>
      have te:i<(V (lb s)).length:=(by omega);have e1:(((i+1:Nat):Int)-1)=(i:Int):=(by omega);rw[e1];have jy:=Cy.o i _ (FP te);have jH:=TW.o i _ (FO te);have TI:=(RH _ (lb s) (YA _) _ (YF te)).1;have dO:(V (lb s)).getD i (0,0)=(V (lb s))[i]:=by rw[List.getD_eq_getElem?_getD,List.getElem?_eq_getElem te];rfl
      have hol:=(sZ (l:=lb s) i (by omega)).1;have HGD:=ae dO;clear dO e1;generalize hr:(V (lb s))[i]=u at *;obtain⟨r,wd⟩:=u;clear hr;simp only at *;have hr:r<=1114111:=by unfold vr at TI;omega
      have HVR:=ae TI;clear TI;by_cases ar:(r:Int)<1114111
      ·have HR:jaH (fP (V (lb s)) m=some i):=by
        show fP (V (lb s)) m=some i
        rw[← HL.o,fP,HGD.o,Yx (by simp only;omega)]
       have hnv:=Uv HVR.o (by omega);have hnle:nx r<=1114111:=by unfold vr at hnv;omega
       have HBY:=ae (Jk (nx r) hnle);obtain⟨n1,n2⟩:=SK r;generalize ho:dQ (V (lb s)) i=o at *;have HO:jaH (dQ (V (lb s)) i=o):=ho;clear ho;generalize uU:nx r=c at *;have jz:jaH (nx r=c):=uU;clear uU;obtain⟨E,hE⟩:∃ E:ByteArray,E=⟨(dd c).toArray⟩:=⟨_,rfl⟩;have hEl:lb E=dd c:=by rw[hE];simp[lb]
       have hEs:E.size<=4:=by rw[← bX,hEl];exact(fX c).2
       have hXs:(s.extract 0 o).size<=100000:=by rw[← bX,HEx.o];simp;omega
       have Ff:∀ w,(Op.stringOp .add (s.extract 0 o) E).run Tryz.prog w=.ok (.string (s.extract 0 o++E)) w:=fun w=>run_string_add_sum w _ _ (by omega)
       have Gy:=ae hEl;have Ce:=ae hE
       have HCV:jaH (∀(w2:World) (B:Nat) (v:Value),w2.ownsRow B 5 1 v (dd c).length (aU (dd c))->(convert 30 9 v).run Tryz.prog w2=.ok (.string E) w2):=fun w2 B v h=>by
        rw[hE];exact Nn h (fX c).1
       have yZ:jaH (FR (.returned (.tuple #[.string (s.extract 0 o++E),.bool true])) (di (lb s) (m:Int))):=by
        refine⟨_,_,rfl,?_,?_⟩
        ·rw[HX.o,upL,HR.o];rfl
        ·rw[HX.o,upL,HR.o,HAp.o,HEx.o,hEl,ZU,HO.o,HGD.o,jz.o]
         simp
       clear hE hEl;have hI1:(0:Int)<=(o:Int):=(by omega);have hI2:(o:Int)<=(s.size:Int):=(by omega);by_cases h55:r+1=55296
       ·obtain rfl:=n1 h55
        obtain rfl:r=55295:=by omega
        clear n1 n2;go_wp2_with fail;go_region_with (first | (go_at_call 109;refine(HBY.o _).mono ?_;rintro e w2 ⟨⟨v,rfl,aw⟩,ay⟩;have Le:=HCV.o _ _ _ aw;have jJ:=(ay.cell (p:=⟨gb,i,none⟩) Lk).trans jH;clear aw))
        all_goals
         go_wp2_with fail;go_ret2
         refine⟨yZ.o,?_⟩;exact HB.o.drew.trans (ay.mono hz)
       ·obtain rfl:=n2 h55
        have h55b:((r:Int)+1==55296)=false:=by simp;omega
        have xv:((r+1:Nat):Int)=(r:Int)+1:=(by omega);rw[xv]at HBY;clear xv;clear n1 n2;go_wp2_with fail;go_region_with (first | (go_at_call 109;refine(HBY.o _).mono ?_;rintro e w2 ⟨⟨v,rfl,aw⟩,ay⟩;have Le:=HCV.o _ _ _ aw;have jJ:=(ay.cell (p:=⟨gb,i,none⟩) Lk).trans jH;clear aw))
        all_goals
         go_wp2_with fail;go_ret2
         refine⟨yZ.o,?_⟩;exact HB.o.drew.trans (ay.mono hz)
      ·go_wp2_with fail
       go_roundw
       case rel =>
        refine⟨trivial,i,by omega,by go_num,?_⟩;rw[← HL.o,fP,HGD.o,Yy (by simp only;omega)]
       case measure=>simp[intOf]
theorem qz(rs:List Nat):∀ k,(kn rs).take (dQ (rs.map eu) k)=kn (rs.take k):=by
 induction rs with
 | nil=>intro k;simp
 | cons c rs ih =>
  intro k;cases k with
  | zero=>simp
  | succ k =>
   have:dQ ((c::rs).map eu) (k+1)=(dd c).length+dQ (rs.map eu) k:=by
    simp[dQ,eu]
   rw[this,flat_cons,jax,flat_cons,← ih k,List.take_length_add_append]
theorem wX{u:List (Nat×Nat)}{j k:Nat}(h:j<k):(u.take k).getD j (0,0)=u.getD j (0,0):=by
 simp[List.getD_eq_getElem?_getD,List.getElem?_take,h]
theorem DJ(u:List (Nat×Nat))(k:Nat):∀ j,j<=k->fP (u.take k) j=fP u j:=by
 intro j;induction j with
 | zero=>intro _;rfl
 | succ j ih =>
  intro h;simp only[fP];rw[wX (by omega),ih (by omega)]
theorem wY{u:List (Nat×Nat)}{i k:Nat}(h:i<=k):dQ (u.take k) i=dQ u i:=by
 unfold dQ;rw[List.take_take,ZG h]
theorem Np{rs:List Nat}(hv:∀ r∈rs,vr r){k:Nat}(hk:k<=rs.length):iN (kn (rs.take k))=upL (kn rs) k:=by
 have WR:∀ r∈rs.take k,vr r:=fun r hr=>hv r (ZA hr)
 have e1:=xD rs hv;have e2:=xD (rs.take k) WR;have hl:((rs.take k).map eu).length=k:=by simp;omega
 unfold iN upL;rw[e1,e2,hl,jah,DJ _ _ _ (YA _)];cases hg:fP (rs.map eu) k with
 | none=>rfl
 | some i =>
  have hi:=(oQ hg).1;simp only[ZU];rw[wX hi,wY (by omega),qz];have h3:=qz (rs.take k) i;rw[jah,wY (by omega),List.take_take,ZG (by omega)]at h3;rw[h3]
theorem DK{rs:List Nat}(hv:∀ r∈rs,vr r)(n:Int):bC (kn rs) n=kn (rs.take n.toNat):=by
 unfold bC;rw[xD rs hv,qz]
theorem ud(l:List UInt8)(n:Int):fG l n=di l n:=by
 unfold fG di;by_cases hc:cV l=true
 ·rw[Yy hc,Yy hc]
  by_cases h1:((V l).length:Int)<=n
  ·rw[Yy h1,Yy h1]
  ·rw[Yx h1,Yx h1]
   have hl:=Lv hc;have hv:=Lw l;have bg:(gE l).length=(V l).length:=by simp[gE]
   generalize gE l=rs at *;subst hl;rw[DK hv,Np hv (by omega)];by_cases h2:n<1
   ·rw[Yy h2]
    have:n.toNat=0:=by omega
    rw[this];rfl
   ·rw[Yx h2]
 ·rw[Yx hc,Yx hc]
 inductive PT where
 | node (op fld:Nat) (c:Cl) (ks:List PT):PT
theorem PT.ind{P:PT->Prop}(h:∀ op f c ks,(∀ k∈ks,P k)->P (.node op f c ks))(t:PT):P t:=by
 refine PT.rec (motive_1:=P) (motive_2:=fun ks=>∀ k∈ks,P k) (fun op f c ks ih=>h op f c ks ih) (fun k hk=>?_) (fun a ks ha ih k hk=>?_) t
 ·simp at hk
 ·rcases YQ.1 hk with rfl | hk
  ·exact ha
  ·exact ih k hk
abbrev B3:=Bool×Bool×Bool
 structure Stt where
 rows:Int
 nulls:Int
 some:Bool
 high:Bool
 lo:Cl
 hi:Cl
def ch(a b:Cl):Int:=cv (a.1:Int) a.2.1 (ai a.2.2) (b.1:Int) b.2.1 (ai b.2.2)
def isM(b:Bool):Nat:=if b=true then 2 else 0
def likeM(x c:Cl):Bool:=x.1==3 && c.1==3 && lk (gE (lb (ai c.2.2))) (gE (lb (ai x.2.2)))
def Nq(op:Nat)(c x:Cl):Nat :=
 if op=1 then isM (decide (ch x (aQ c)=0)) else if op=2 then isM (decide (ch x (aQ c)<0)) else if op=3 then isM (decide (ch x (aQ c)<=0)) else if op=4 then isM (likeM x c) else 1
def Au(op:Nat)(c x:Cl):Nat:=if op=5 then isM (decide (x.1=0)) else if x.1=0 then 1 else Nq op c x
def ni(l:List Fd)(r:List Cl)(op f:Nat)(c:Cl):Nat :=
 match gF l f with
 | none=>1
 | some j=>match r[j]? with
  | none=>1
  | some x=>Au op c x
 mutual
def ii(l:List Fd)(r:List Cl):PT->Nat
 | .node op f c ks=>if op=6 then evalAnd l r ks 2 else if op=7 then evalOr l r ks 0 else if op=8 then evalNot l r ks else ni l r op f c
def evalAnd(l:List Fd)(r:List Cl):List PT->Nat->Nat
 | [],a=>a
 | k::ks,a=>evalAnd l r ks (min a (ii l r k))
def evalOr(l:List Fd)(r:List Cl):List PT->Nat->Nat
 | [],a=>a
 | k::ks,a=>evalOr l r ks (max a (ii l r k))
def evalNot(l:List Fd)(r:List Cl):List PT->Nat
 | []=>1
 | k::_=>2-ii l r k
 end
def togA(a b:B3):B3:=((a.1 && (b.1 || b.2.1 || b.2.2)) || (a.2.1 && b.1) || (a.2.2 && b.1),(a.2.1 && (b.2.1 || b.2.2)) || (a.2.2 && b.2.1),a.2.2 && b.2.2)
def togO(a b:B3):B3:=(a.1 && b.1,(a.1 && b.2.1) || (a.2.1 && (b.1 || b.2.1)),(a.1 && b.2.2) || (a.2.1 && b.2.2) || (a.2.2 && (b.1 || b.2.1 || b.2.2)))
def conM(a:B3):B3:=(a.2.2,a.2.1,a.1)
def qA(v:Cl):Bool:=decide ((V (lb (ai v.2.2))).length<4)
def lw(u:Bool)(op:Nat)(c:Cl)(st:Stt):B3 :=
 if op=1 then (!(st.high && decide (ch (aQ c) (aQ st.lo)=0) && decide (ch (aQ c) (aQ st.hi)=0) && qA (aQ c)),u,decide (0<=ch (aQ c) (aQ st.lo)) && !(st.high && decide (0<ch (aQ c) (aQ st.hi))))
 else if op=2 then (!(st.high && decide (0<ch (aQ c) (aQ st.hi))),u,decide (0<ch (aQ c) (aQ st.lo)))
 else if op=3 then (!(st.high && decide (0<=ch (aQ c) (aQ st.hi))),u,decide (0<=ch (aQ c) (aQ st.lo)))
 else if op=4 then (true,u,true) else (true,true,true)
def DL(op:Nat)(c:Cl)(st:Stt):B3:=if op=5 then (st.some,false,decide (0<st.nulls)) else if st.some=true then lw (decide (0<st.nulls)) op c st else (false,decide (0<st.nulls),false)
def js(l:List Fd)(sts:List Stt)(op f:Nat)(c:Cl):B3 :=
 match gF l f with
 | none=>(true,true,true)
 | some j=>match sts[j]? with
  | none=>(true,true,true)
  | some st=>DL op c st
 mutual
def mM(l:List Fd)(sts:List Stt):PT->B3
 | .node op f c ks=>if op=6 then mayAnd l sts ks (false,false,true) else if op=7 then mayOr l sts ks (true,false,false) else if op=8 then mayNot l sts ks else js l sts op f c
def mayAnd(l:List Fd)(sts:List Stt):List PT->B3->B3
 | [],a=>a
 | k::ks,a=>mayAnd l sts ks (togA a (mM l sts k))
def mayOr(l:List Fd)(sts:List Stt):List PT->B3->B3
 | [],a=>a
 | k::ks,a=>mayOr l sts ks (togO a (mM l sts k))
def mayNot(l:List Fd)(sts:List Stt):List PT->B3
 | []=>(false,true,false)
 | k::_=>conM (mM l sts k)
 end
 mutual
def Len:PT->Prop
 | .node _ _ c ks=>c.2.2.length<=300/\LenAll ks
def LenAll:List PT->Prop
 | []=>True
 | k::ks=>Len k/\LenAll ks
 end
 mutual
def Okp:PT->Prop
 | .node op f c ks=>op<256/\f<4294967296/\Okc c/\OkpAll ks
def OkpAll:List PT->Prop
 | []=>True
 | k::ks=>Okp k/\OkpAll ks
 end
theorem LenAll.get{ks:List PT}(h:LenAll ks):∀ k∈ks,Len k:=by
 induction ks with
 | nil=>intro k hk;simp at hk
 | cons a ks ih =>
  intro k hk;simp only[LenAll]at h;rcases YQ.1 hk with rfl | hk
  ·exact h.1
  ·exact ih h.2 k hk
theorem OkpAll.get{ks:List PT}(h:OkpAll ks):∀ k∈ks,Okp k:=by
 induction ks with
 | nil=>intro k hk;simp at hk
 | cons a ks ih =>
  intro k hk;simp only[OkpAll]at h;rcases YQ.1 hk with rfl | hk
  ·exact h.1
  ·exact ih h.2 k hk
def fH(W:World)(b off op f:Nat)(c:Cl)(kv:Value):Prop :=
 b<W.heap.size/\W.cell? ⟨b,off,none⟩=some (.int .u8 (op:Int))/\W.cell? ⟨b,off+1,none⟩=some (.int .u32 (f:Int))/\W.cell? ⟨b,off+2,none⟩=some (.int .u8 (c.1:Int))/\W.cell? ⟨b,off+3,none⟩=some (.int .i64 c.2.1)/\W.cell? ⟨b,off+4,none⟩=some (.string (ai c.2.2))/\W.cell? ⟨b,off+5,none⟩=some kv
theorem fH.kept{W W':World}{b off op f:Nat}{c:Cl}{kv:Value}(h:fH W b off op f c kv)(hb:Below W.heap.size W W'):fH W' b off op f c kv:=by
 obtain⟨h0,h1,h2,h3,h4,h5,h6⟩:=h;have e:∀ o,W'.cell? ⟨b,o,none⟩=W.cell? ⟨b,o,none⟩:=fun o=>(fd hb).1 b o h0
 exact⟨Za h0 hb.size,by rw[e];exact h1,by rw[e];exact h2,by rw[e];exact h3,by rw[e];exact h4,by rw[e];exact h5,by rw[e];exact h6⟩
 mutual
def iy(W:World):Nat->Nat->PT->Prop
 | b,off,.node op f c ks=>∃ a cap,fH W b off op f c (.slice a ks.length cap)/\ks.length<=cap/\cap<=maxLen/\(0<ks.length->∃ g o,a=some ⟨g,o,none⟩/\KidsAt W g o ks)
def KidsAt(W:World):Nat->Nat->List PT->Prop
 | _,_,[]=>True
 | g,o,k::ks=>iy W g o k/\KidsAt W g (o+6) ks
 end
theorem KidsAt.mono{W W':World}:∀{ks:List PT} {g o:Nat},(∀ k∈ks,∀ b off,iy W b off k->iy W' b off k)->KidsAt W g o ks->KidsAt W' g o ks
 | [],g,o,_,_=>by simp[KidsAt]
 | k::ks,g,o,hm,h=>by
  simp only[KidsAt]at h ⊢;exact⟨hm k (by simp) _ _ h.1,KidsAt.mono (fun x hx=>hm x (by simp[hx])) h.2⟩
theorem iy.kept{W W':World}(hb:Below W.heap.size W W'):∀(t:PT) (b off:Nat),iy W b off t->iy W' b off t:=by
 refine PT.ind fun op f c ks ih b off h=>?_
 simp only[iy]at h ⊢;obtain⟨a,cap,h1,h2,h3,h4⟩:=h;refine⟨a,cap,h1.kept hb,h2,h3,fun h0=>?_⟩;obtain⟨g,o,h5,h6⟩:=h4 h0;exact⟨g,o,h5,KidsAt.mono ih h6⟩
theorem KidsAt.kept{W W':World}(hb:Below W.heap.size W W'){ks:List PT}{g o:Nat}(h:KidsAt W g o ks):KidsAt W' g o ks:=KidsAt.mono (fun k _=>iy.kept hb k) h
def qB(W:World)(v:Value)(ks:List PT):Prop:=∃ a cap,v=.slice a ks.length cap/\ks.length<=cap/\cap<=maxLen/\(0<ks.length->∃ g o,a=some ⟨g,o,none⟩/\KidsAt W g o ks)
theorem qB.kept{W W':World}{v:Value}{ks:List PT}(h:qB W v ks)(hb:Below W.heap.size W W'):qB W' v ks:=by
 obtain⟨a,cap,h1,h2,h3,h4⟩:=h;refine⟨a,cap,h1,h2,h3,fun h0=>?_⟩;obtain⟨g,o,h5,h6⟩:=h4 h0;exact⟨g,o,h5,h6.kept hb⟩
theorem qB.form{W:World}{v:Value}{ks:List PT}(h:qB W v ks):∃ a cap,v=.slice a ks.length cap/\ks.length<=cap/\cap<=maxLen:=by
 obtain⟨a,cap,h1,h2,h3,_⟩:=h;exact⟨a,cap,h1,h2,h3⟩
theorem iy.open{W:World}{b off op f:Nat}{c:Cl}{ks:List PT}(h:iy W b off (.node op f c ks)):∃ a cap,fH W b off op f c (.slice a ks.length cap)/\qB W (.slice a ks.length cap) ks:=by
 simp only[iy]at h;obtain⟨a,cap,h1,h2,h3,h4⟩:=h;exact⟨a,cap,h1,a,cap,rfl,h2,h3,h4⟩
theorem iy.shut{W:World}{b off op f:Nat}{c:Cl}{ks:List PT}{v:Value}(h:fH W b off op f c v)(hk:qB W v ks):iy W b off (.node op f c ks):=by
 obtain⟨a,cap,rfl,h2,h3,h4⟩:=hk;simp only[iy];exact⟨a,cap,h,h2,h3,h4⟩
theorem FV{c:Cl}(hf:aI c)(w:World):Calls Tryz.prog 100 #[cp c] w fun e w'=>e=.returned (.int .u8 (c.1:Int))/\w'=w:=DF hf.val w
theorem Nr{c:Cl}(iZ:Okc c)(w:World):Calls Tryz.prog 217 #[.agg #[.int .u8 (c.1:Int),.int .i64 c.2.1,.string (ai c.2.2)]] w fun e w'=>e=.returned (.tuple #[cp (aQ c),.int .i64 (flt (c.1:Int) c.2.1 (ai c.2.2))])/\Below w.heap.size w w':=by
 by_cases h:flt (c.1:Int) c.2.1 (ai c.2.2)=0
 ·refine(SG _ _ _ (by omega) h w).mono ?_
  rintro e w1 ⟨⟨v,rfl,hv⟩,hb⟩;have hfx:aQ c=c:=Yy h;have hf:aI c:=by have:=eH iZ;rwa[hfx]at this
  rw[hfx,h,zA hf hv];exact⟨rfl,hb⟩
 ·refine(VP _ _ _ (by simpa using h) w).mono ?_
  rintro e w1 ⟨rfl,hb⟩;have hfx:aQ c=nul:=Yx h;rw[hfx];exact⟨rfl,hb⟩
theorem mx{c:Cl}(iZ:Okc c)(w:World):Calls Tryz.prog 219 #[.agg #[.int .u8 (c.1:Int),.int .i64 c.2.1,.string (ai c.2.2)]] w fun e w'=>e=.returned (cp (aQ c))/\Below w.heap.size w w':=by
 have HO:=ae iZ;have bV:=ae (aj w (.cells #[.int .u8 (c.1:Int),.int .i64 c.2.1,.string (ai c.2.2)] 52));obtain⟨c0,c1,c2⟩:=dC w (.int .u8 (c.1:Int)) (.int .i64 c.2.1) (.string (ai c.2.2)) 52;clear iZ;go_enter Tryz.func219,Tryz.ntmps219
 go_wp2_with fail;refine(Nr HO.o _).mono ?_;rintro e w1 ⟨rfl,hb⟩;go_wp2_with fail;go_ret
 exact⟨rfl,ag bV.o hb⟩
theorem aI.short{c:Cl}(h:aI c):(ai c.2.2).size<=64:=by
 rw[bx];rcases h with rfl | ⟨n,rfl,_⟩ | ⟨b,rfl,_⟩ | ⟨s,rfl,hs,_⟩
 ·simp[nul]
 ·simp
 ·simp
 ·exact hs
theorem Jl{c:Cl}(hf:aI c)(w:World):Calls Tryz.prog 220 #[cp c] w fun e w'=>e=.returned (.bool (qA c))/\Below w.heap.size w w':=by
 have HF:=ae hf;clear hf;go_enter Tryz.func220,Tryz.ntmps220
 go_wp2_with fail;refine(kr HF.o.val _).mono ?_;rintro e w1 ⟨rfl,hb⟩;have HB:=ae hb;clear hb;obtain⟨c0,c1,c2⟩:=dC w1 (.int .u8 (c.1:Int)) (.int .i64 c.2.1) (.string (ai c.2.2)) 52;have aN:=ae (aj w1 (.cells #[.int .u8 (c.1:Int),.int .i64 c.2.1,.string (ai c.2.2)] 52));go_wp2_with fail;refine(wG _ (by have:=HF.o.short;omega) _).mono ?_;rintro e w2 ⟨rfl,hb⟩;have HN:jaH (qA c=decide ((((V (lb (ai c.2.2))).length:Nat):Int)<4)):=ae (by unfold qA;exact decide_eq_decide.2 (by omega));generalize (V (lb (ai c.2.2))).length=n at *;go_wp2_with fail;go_ret
 exact⟨jk HN.o.symm,ag (ag HB.o aN.o) hb⟩
theorem Av{c:Cl}(hf:aI c)(w:World):Calls Tryz.prog 102 #[cp c] w fun e w'=>e=.returned (.bool (!cV (lb (ai c.2.2))))/\Below w.heap.size w w':=by
 have HF:=ae hf;clear hf;go_enter Tryz.func102,Tryz.ntmps102
 go_wp2_with fail;refine(kr HF.o.val _).mono ?_;rintro e w1 ⟨rfl,hb⟩;have HB:=ae hb;clear hb;obtain⟨c0,c1,c2⟩:=dC w1 (.int .u8 (c.1:Int)) (.int .i64 c.2.1) (.string (ai c.2.2)) 52;have aN:=ae (aj w1 (.cells #[.int .u8 (c.1:Int),.int .i64 c.2.1,.string (ai c.2.2)] 52));go_wp2_with fail;refine(qs _ (by have:=HF.o.short;omega) _).mono ?_;rintro e w2 ⟨rfl,hb⟩;obtain⟨n,hn⟩:∃ n,n=cV (lb (ai c.2.2)):=⟨_,rfl⟩;rw[← hn];have HN:=ae hn;clear hn;go_wp2_with fail;go_ret
 exact⟨jk (by rw[HN.o]),ag (ag HB.o aN.o) hb⟩
theorem ue{c:Cl}(hf:aI c)(w:World):Calls Tryz.prog 99 #[cp c] w fun e w'=>e=.returned (.bool (decide (c.1=0)))/\Below w.heap.size w w':=by
 have HF:=ae hf;clear hf;go_enter Tryz.func99,Tryz.ntmps99
 go_wp2_with fail;refine(FV HF.o _).mono ?_;rintro e w1 ⟨rfl,rfl⟩;go_wp2_with fail;go_ret
 refine⟨jk ?_,Yz _ _⟩;rw[jaj];simp
theorem FX(b:Bool)(w:World):Calls Tryz.prog 221 #[.bool b] w fun e w'=>e=.returned (.int .u8 (isM b:Int))/\w'=w:=by
 refine(VQ b w).mono ?_;rintro e w1 ⟨rfl,rfl⟩;refine⟨?_,rfl⟩;cases b<;>rfl
def wZ(W:World)(q si:Nat)(fv rv:Value)(l:List Fd)(r:List Cl):Prop :=
 q<W.heap.size/\W.cell? ⟨q,0,none⟩=some (.int .u32 (si:Int))/\W.cell? ⟨q,1,none⟩=some fv/\W.cell? ⟨q,2,none⟩=some rv/\Sf W fv l/\Sv W rv (aC r)
theorem wZ.kept{W W':World}{q si:Nat}{fv rv:Value}{l:List Fd}{r:List Cl}(h:wZ W q si fv rv l r)(hb:Below W.heap.size W W'):wZ W' q si fv rv l r:=by
 obtain⟨h0,h1,h2,h3,h4,h5⟩:=h;have e:∀ o,W'.cell? ⟨q,o,none⟩=W.cell? ⟨q,o,none⟩:=fun o=>(fd hb).1 q o h0
 exact⟨Za h0 hb.size,by rw[e];exact h1,by rw[e];exact h2,by rw[e];exact h3,h4.kept hb,h5.kept hb⟩
theorem DM{l:List Fd}{r:List Cl}{op f:Nat}{c:Cl}(h:gF l f=none):ni l r op f c=1:=by unfold ni;rw[h]
theorem DN{l:List Fd}{r:List Cl}{op f j:Nat}{c:Cl}(h:gF l f=some j)(hj:¬ j<r.length):ni l r op f c=1:=by
 unfold ni;rw[h];simp only;rw[List.getElem?_eq_none (by omega)]
theorem Ns{l:List Fd}{r:List Cl}{op f j:Nat}{c:Cl}(h:gF l f=some j)(hj:j<r.length):ni l r op f c=Au op c r[j]:=by
 unfold ni;rw[h];simp only;rw[List.getElem?_eq_getElem hj]
theorem qC(w:World)(x0 x1 x2 x3 x4 x5:Value)(t:Nat):(w.alloc (.cells #[x0,x1,x2,x3,x4,x5] t)).cell? ⟨w.heap.size,0,none⟩=some x0/\(w.alloc (.cells #[x0,x1,x2,x3,x4,x5] t)).cell? ⟨w.heap.size,1,none⟩=some x1/\(w.alloc (.cells #[x0,x1,x2,x3,x4,x5] t)).cell? ⟨w.heap.size,2,none⟩=some x2/\(w.alloc (.cells #[x0,x1,x2,x3,x4,x5] t)).cell? ⟨w.heap.size,3,none⟩=some x3/\(w.alloc (.cells #[x0,x1,x2,x3,x4,x5] t)).cell? ⟨w.heap.size,4,none⟩=some x4/\(w.alloc (.cells #[x0,x1,x2,x3,x4,x5] t)).cell? ⟨w.heap.size,5,none⟩=some x5:=by
 refine⟨?_,?_,?_,?_,?_,?_⟩<;>simp[go_sem]
theorem uf(w:World)(op f:Nat)(c:Cl)(kv:Value):fH (w.alloc (.cells #[.int .u8 (op:Int),.int .u32 (f:Int),.int .u8 (c.1:Int),.int .i64 c.2.1,.string (ai c.2.2),kv] 63)) w.heap.size 0 op f c kv:=by
 obtain⟨h0,h1,h2,h3,h4,h5⟩:=qC w (.int .u8 (op:Int)) (.int .u32 (f:Int)) (.int .u8 (c.1:Int)) (.int .i64 c.2.1) (.string (ai c.2.2)) kv 63;exact⟨by rw[YB];omega,h0,h1,h2,h3,h4,h5⟩
end Go.Proofs.YtpljdjmpamjkhaaGreatDoor
