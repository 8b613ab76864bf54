import Derived.Test.YtpljdjmpamjkhaaGreatDoorXbj
set_option linter.unusedVariables false
set_option linter.unusedSimpArgs false
set_option maxRecDepth 100000
set_option maxHeartbeats 4000000
namespace Go.Proofs.YtpljdjmpamjkhaaGreatDoor
open Go.RowKit Go.Lib
def Za(w:World)(b:List Nat)(e:Ending)(w':World):Prop :=
 ((∃ c,rt b=.error c/\e=.returned (.tuple #[.pointer none,.int .i64 (c:Int)])) ∨
  ∃ id fs g gs fp fv,rt b=.ok (id,fs,g,gs)/\e=.returned (.tuple #[.pointer (some ⟨fp,0,none⟩),.int .i64 0])/\Fil w' w.heap.size fp id fv gs/\fD w' w.heap.size fv fs)/\Below w.heap.size w w'
theorem JU{b t:List Nat}(h:jq b=some t)(h8:Bs b):Bs t/\t.length<=b.length:=by
 unfold jq at h;split at h
 ·cases h
  exact⟨h8.take _,by rw[jdC];omega⟩
 ·cases h
theorem pre3(t:List Nat):([67,70,49]:List Nat).isPrefixOf t=true↔t.take 3=[67,70,49]:=by
 constructor
 ·intro h
  obtain⟨r,rfl⟩:=jeI.1 h;rfl
 ·intro h
  exact jeI.2 ⟨t.drop 3,by rw[← h,jeP]⟩
theorem xt{w:World}(ht:Tab w){v:Value}{b:List Nat}(hs:Sv w v (aF .u8 b))(h8:Bs b)(hl:b.length<=80000000) :
  Calls Tryz.prog 17 #[v] w (Za w b):=by
 have HT:=ae ht;have HS:=ae hs;have H8:=ae h8;have HO:=ae (To ht hs.toK h8 (by omega));obtain⟨a,cap,rfl,_,_⟩:=hs.form1;rw[ar]at *
 have HE:jfp (rt b=match jq b with
  | none=>.error 101
  | some t=>if t.take 3=[67,70,49] then (match jr (t.drop 3)with
    | none=>.error 102
    | some x=>if bT x.1 x.2.1 (cp x.2.2.2) x.2.2.1=(b,0) then .ok x else .error 102) else .error 100):=ae rfl
 have xQ:=ae (fun t (h:jq b=some t)=>JU h h8);unfold Za;generalize rt b=OF at *;clear ht hs h8;cases hom:jq b with
 | none =>
  rw[hom]at HE HO;clear hom xQ;go_enter Tryz.func17,Tryz.ntmps17
  go_wp2_with fail;refine HO.o.mono ?_;rintro e w1 ⟨⟨v1,rfl,o1⟩,aH⟩;have aQ:=ae aH;clear o1 aH;simp only[Option.isSome];go_wp2_with fail;go_ret2
  exact⟨.inl ⟨101,HE.o,rfl⟩,aQ.o⟩
 | some t =>
  obtain⟨t8,tl⟩:=xQ.o t hom;rw[hom]at HE HO;simp only at HE;clear hom xQ;have T8:=ae t8;go_enter Tryz.func17,Tryz.ntmps17
  go_wp2_with fail;refine HO.o.mono ?_;rintro e w1 ⟨⟨v1,rfl,o1⟩,aH⟩;simp only[Option.isSome,Option.getD]at *;have aQ:=ae aH;have eY:=ae o1;obtain⟨a1,cap1,rfl,_,_⟩:=bI o1;have iO:=o1.sv;have yB:=o1.lt;have HWI:jfp (∀ i,(Value.slice a1 t.length cap1).ownBlock=some i->i<w1.heap.size):=ae (fun i hi=>(yB i hi).2);have aE:=dt w1 (.cells #[.int .u8 67,.int .u8 70,.int .u8 49] 5 (3,4));have xA:fQ (w1.alloc (.cells #[.int .u8 67,.int .u8 70,.int .u8 49] 5 (3,4))) w1.heap.size (.slice (some ⟨w1.heap.size,0,none⟩) 3 3) [67,70,49]:=Or.inr ⟨rfl,_,rfl,jdw _,jdW _ _⟩;have Vm:=ae (EH (iO.kept aE) xA.sv t8 (by intro x hx;simp at hx;omega));have aO:=ae (ai aQ.o aE);have HTB2:=ae (HT.o.kept aO.o);have gl:=ae (HS.o.kept aO.o);have LU:jfp (∀ p,w1.heap.size<p->True):=ae (fun _ _=>trivial);have hsz2:w1.heap.size<=(w1.alloc (.cells #[.int .u8 67,.int .u8 70,.int .u8 49] 5 (3,4))).heap.size:=aE.size;have HSZ2:=ae hsz2
  have LM:(convert 30 30 (.slice (some ⟨w1.heap.size,0,none⟩) 3 3)).run Tryz.prog (w1.alloc (.cells #[.int .u8 67,.int .u8 70,.int .u8 49] 5))=.ok (.slice (some ⟨w1.heap.size,0,none⟩) 3 3) (w1.alloc (.cells #[.int .u8 67,.int .u8 70,.int .u8 49] 5 (3,4))) :=
   run_convert_bytes_const w1 30 5 #[.int .u8 67,.int .u8 70,.int .u8 49] 3 3 Tryz.underlying30 Tryz.underlying5
  clear aH o1 iO yB aE xA hsz2 t8 HO;go_wp2_with fail;refine Vm.o.mono ?_;rintro e w3 ⟨⟨v3,rfl,lr,hw3⟩,rfl⟩;generalize w1.alloc (.cells #[.int .u8 67,.int .u8 70,.int .u8 49] 5 (3,4))=W2 at *;have yI:jfp (nX W2.heap.size v3):=ae (hw3 W2.heap.size fun i hi=>jdS (HWI.o i hi) HSZ2.o);clear hw3 Vm;by_cases hp:([67,70,49]:List Nat).isPrefixOf t=true
  ·have hp3:=(pre3 t).1 hp
   rw[jdu hp]at lr;rw[jdu hp3]at HE;rw[hp];have h38:Bs (t.drop 3):=fun x hx=>T8.o x (jfb hx)
   have h3l:(t.drop 3).length<=80000000:=by rw[jd3];omega
   have HRD:=ae (JQ (b:=t.drop 3) lr h38 h3l yI.o);have HWH:=ae (fun id g fs gs (h:jr (t.drop 3)=some (id,fs,g,gs))=>ES h38 h)
   obtain⟨va3,vn3,vc3,rfl⟩:∃ a n c,v3=.slice a n c:=by
    obtain⟨a,c,e,_⟩:=lr.form1;exact⟨_,_,_,e⟩
   clear hp hp3 lr h38 h3l;go_wp2_with fail;refine HRD.o.mono ?_;rintro e w4 ⟨⟨hrn,fp,g,rfl⟩ | ⟨id,fs,g,gs,fp,fv,ZB,rfl,Cg,how⟩,bK⟩
   ·rw[hrn]at HE
    simp only at HE;have cx:=ae (ai aO.o bK);clear bK hrn HRD HWH;go_wp2_with fail;go_ret2
    exact⟨.inl ⟨102,HE.o,rfl⟩,cx.o⟩
   ·obtain⟨ek,np,ho,eS,ik,xN,dW,_⟩:=HWH.o _ _ _ _ ZB
    rw[ZB]at HE;simp only at HE;have kj:=(oS ek).2.1;have HSO:=ae (Ug (g:=g) (HTB2.o.kept bK) (gl.o.kept bK) H8.o Cg how.sf ho np (fun r hr=>⟨by rw[(dW r hr).1];omega,(dW r hr).2⟩) (by omega));obtain⟨D,hD⟩:∃ D,decide (bT id fs (cp gs) (g:Int)=(b,0))=D:=⟨_,rfl⟩;rw[hD]at HSO;have HD:=ae hD;have cx:=ae (ai aO.o bK);have FP:=ae Cg;have FO:=ae how;have Ki:=aO.o.size;clear bK ZB HRD HWH ek np ho eS ik xN dW hD Cg how kj;go_wp2_with fail;refine HSO.o.mono ?_;rintro e w5 ⟨rfl,bD⟩;have aR:=ae (ai cx.o bD);have BU:=ae (FP.o.kept bD);have dE:=ae (FO.o.kept bD);clear bD FP FO HSO;cases D with
    | true =>
     have hw:=of_decide_eq_true HD.o;rw[jdu hw]at HE;clear hw HD;go_wp2_with fail;go_ret2
     exact⟨.inr ⟨id,fs,g,gs,fp,fv,HE.o,rfl,BU.o.low Ki,dE.o.low Ki⟩,aR.o⟩
    | false =>
     have hw:=of_decide_eq_false HD.o;rw[jdt hw]at HE;clear hw HD;go_wp2_with fail;go_ret2
     exact⟨.inl ⟨102,HE.o,rfl⟩,aR.o⟩
  ·have Qd:([67,70,49]:List Nat).isPrefixOf t=false:=Bool.eq_false_iff.2 hp
   rw[jdt (fun e=>hp ((pre3 t).2 e))]at HE;rw[Qd];clear hp Qd lr;go_wp2_with fail;go_ret2
   exact⟨.inl ⟨100,HE.o,rfl⟩,aO.o⟩
theorem JV{w:World}{B fp id:Nat}{fv:Value}{gs:List Gr}(h:Fil w B fp id fv gs)(Ch:(cp gs).length<=100000) :
  Calls Tryz.prog 20 #[.pointer (some ⟨fp,0,none⟩)] w fun e w'=>e=.returned (.int .i64 ((cp gs).length:Int))/\Below w.heap.size w w':=by
 obtain⟨gv,xs,h1,h2,h3,h4⟩:=h;obtain⟨ga,gc,rfl,hgc,hgm⟩:=bI h3;have c2:w.cell? ⟨fp,2,none⟩=some (.slice ga gs.length gc):=by rw[ay h1];rfl
 have HG:jfp (∀ k (hk:k<gs.length),∃ G R va vn vc,ga=some ⟨G,0,none⟩/\∀ W,Below w.heap.size w W->W.cell? ⟨G,k*2,none⟩=some (.slice (some ⟨R,0,none⟩) gs[k].1.length gs[k].1.length)/\W.cell? ⟨G,k*2+1,none⟩=some (.slice va vn vc)):=ae (fun k hk=>by
  obtain⟨a,b,e1,e2,e3⟩:=h4 k hk;obtain⟨R,rfl,g1,g2,⟨va,vn,vc,rfl⟩,g4⟩:=e3.rows;obtain⟨G,rfl,_,hG,lp⟩:=ij h3 e1;obtain⟨_,e,_,_,jT⟩:=ij h3 e2;cases e
  exact⟨G,R,va,vn,vc,rfl,fun W hb=>⟨(hb.cell (p:=⟨G,k*2,none⟩) hG).trans (by rw[jd4];exact lp),(hb.cell (p:=⟨G,k*2+1,none⟩) hG).trans (by rw[jd4 k];exact jT)⟩⟩)
 have HT:=ae (fun j=>fo gs j);have rQ:=ae (fun j (h:j<gs.length)=>mq h);have HTA:jfp (cp (gs.take gs.length)=cp gs):=ae (by rw[jdE]);have Ql:=ae Ch;clear h1 h2 h3 h4 Ch;go_enter Tryz.func20,Tryz.ntmps20
 go_wp2_with fail;go_loopw [3,11] (fun a i wr=>∃ k:Nat,i=.int .i64 (k:Int)/\k<=gs.length/\a=.int .i64 ((cp (gs.take k)).length:Int)/\Below w.heap.size w wr) (fun _ i _=>gs.length-(intOf i).toNat)
 case atStart=>exact⟨0,rfl,by omega,rfl,jdv _ _⟩
 case round =>
  obtain⟨k,rfl,hk,rfl,az⟩:=hrel;have HB:=ae az;clear az;by_cases aB:k<gs.length
  ·obtain⟨G,R,va,vn,vc,rfl,hcells⟩:=HG.o k aB
   obtain⟨ca,cb⟩:=hcells wr HB.o;have hlt':(k:Int)<(gs.length:Int):=(by omega);have nA:=ae (HB.o.alloc HB.o.size (.cells #[.slice (some ⟨R,0,none⟩) gs[k].1.length gs[k].1.length,.slice va vn vc] 109));obtain⟨cg,_⟩:=bx wr (.slice (some ⟨R,0,none⟩) gs[k].1.length gs[k].1.length) (.slice va vn vc) 109;have Vs:=jdB List.length (rQ.o k aB);have pC:=HT.o (k+1);have htt:=Ql.o;rw[jdy]at Vs;have UE:IntKind.i64.wrap (((cp (gs.take k)).length:Int)+(gs[k].1.length:Int))=((cp (gs.take (k+1))).length:Int):=by rw[jd7];omega
   have PX:=ae (show ((cp (gs.take (k+1))).length:Int)=((cp (gs.take (k+1))).length:Int) from rfl);clear Vs pC htt hcells;go_wp2_with fail;go_roundw
   case rel=>exact⟨k+1,by go_num,by omega,rfl,nA.o⟩
   case measure=>simp[intOf];omega
  ·obtain rfl:k=gs.length:=by omega
   have gj:¬ ((gs.length:Nat):Int)<(gs.length:Int):=(by omega);have HTE:jfp ((cp (gs.take gs.length)).length=(cp gs).length):=ae (jdB List.length HTA.o);go_wp2_with fail;go_ret
   exact⟨by rw[← HTE.o];rfl,HB.o⟩
def BF(l:List Fd)(j:Nat):Nat:=match l[j]? with
 | none=>0
 | some f=>f.2.2.1
def fvM(op:Nat)(c:Cl)(k:Nat):Int:=if op=5 then (if c.1=0 then 0 else 90) else if c.1=0 then 10 else if c.1≠k then 10 else if op=4/\k≠3 then 10 else 0
def JW(c:Cl):Int:=flt (c.1:Int) c.2.1 (ak c.2.2)
def ffM(l:List Fd)(op f:Nat)(c:Cl)(n:Nat):Int:=if 0<n then 90 else match iL l f with
 | none=>81
 | some j=>if JW c=0 then fvM op c (BF l j) else if JW c=1 then 90 else JW c
def fkM(op f:Nat)(c:Cl)(n:Nat):Int:=if f≠0 then 90 else if ¬ (c.1=0/\c.2.1=0/\(ak c.2.2).toList.isEmpty=true) then 90 else if op=8/\n≠1 then 90 else 0
def nY(l:List Fd)(op f:Nat)(c:Cl)(n:Nat):Int:=if 1<=op/\op<=5 then ffM l op f c n else if 6<=op/\op<=8 then fkM op f c n else 90
 mutual
def mQ(l:List Fd):PT->Int
 | .node op f c ks=>if nY l op f c ks.length≠0 then nY l op f c ks.length else firstAll l ks
def firstAll(l:List Fd):List PT->Int
 | []=>0
 | k::ks=>if mQ l k≠0 then mQ l k else firstAll l ks
 end
theorem BG{l:List Fd}{ks:List PT}:firstAll l (ks.drop ks.length)=0:=by rw[jer];simp only[firstAll]
theorem tg{w:World}{b off op f:Nat}{c:Cl}{kv:Value}(hn:gR w b off op f c kv)(k:Nat):Calls Tryz.prog 218 #[.pointer (some ⟨b,off,none⟩),.int .u8 (k:Int)] w fun e w'=>e=.returned (.int .i64 (fvM op c k))/\Below w.heap.size w w':=by
 obtain⟨dO,x0,x1,x2,x3,x4,x5⟩:=hn;unfold fvM;by_cases h5:op=5
 ·subst h5
  rw[jdu rfl];by_cases h0:c.1=0
  ·rw[jdu h0]
   have h0':((c.1:Int)==0)=true:=by rw[h0];rfl
   clear h0;go_enter Tryz.func218,Tryz.ntmps218
   go_wp2_with fail;go_ret
   exact⟨rfl,jdv _ _⟩
  ·rw[jdt h0]
   have h0':((c.1:Int)==0)=false:=jdG.2 (by omega);clear h0;go_enter Tryz.func218,Tryz.ntmps218
   go_wp2_with fail;go_ret
   exact⟨rfl,jdv _ _⟩
 ·rw[jdt h5]
  have n5:((op:Int)==5)=false:=jdG.2 (by omega);clear h5;by_cases h0:c.1=0
  ·rw[jdu h0]
   have h0':((c.1:Int)==0)=true:=by rw[h0];rfl
   clear h0;go_enter Tryz.func218,Tryz.ntmps218
   go_wp2_with fail;go_ret
   exact⟨rfl,jdv _ _⟩
  ·rw[jdt h0]
   have h0':((c.1:Int)==0)=false:=jdG.2 (by omega);clear h0;by_cases hk:c.1≠k
   ·rw[jdu hk]
    have hk':((c.1:Int) != (k:Int))=true:=by simp;omega
    clear hk;go_enter Tryz.func218,Tryz.ntmps218
    go_wp2_with fail;go_ret
    exact⟨rfl,jdv _ _⟩
   ·rw[jdt hk]
    have hk':((c.1:Int) != (k:Int))=false:=by simp;omega
    clear hk;by_cases h4:op=4
    ·subst h4
     by_cases h3:k=3
     ·subst h3
      rw[jdt (by simp)];go_enter Tryz.func218,Tryz.ntmps218
      go_wp2_with fail;go_ret
      exact⟨rfl,jdv _ _⟩
     ·rw[jdu ⟨rfl,h3⟩]
      have h3':((k:Int) != 3)=true:=by simp;omega
      clear h3;go_enter Tryz.func218,Tryz.ntmps218
      go_wp2_with fail;go_ret
      exact⟨rfl,jdv _ _⟩
    ·rw[jdt (fun h=>h4 h.1)]
     have h4':((op:Int)==4)=false:=jdG.2 (by omega);clear h4;go_enter Tryz.func218,Tryz.ntmps218
     go_wp2_with fail;go_ret
     exact⟨rfl,jdv _ _⟩
theorem ti{w:World}{b off op f si:Nat}{c:Cl}{a:Option Addr}{n cap:Nat}{fv:Value}{l:List Fd}(hn:gR w b off op f c (.slice a n cap))(hs:Sf w fv l)(jx:Okc c):Calls Tryz.prog 190 #[.pointer (some ⟨b,off,none⟩),.agg #[.int .u32 (si:Int),fv]] w fun e w'=>e=.returned (.int .i64 (ffM l op f c n))/\Below w.heap.size w w':=by
 obtain⟨fa,fcap,rfl,hfc,VX⟩:=hs.form;have aH:=am w (.cells #[.int .u32 (si:Int),.slice fa l.length fcap] 25);have aQ:=ae aH;obtain⟨e0,e1⟩:=bx w (.int .u32 (si:Int)) (.slice fa l.length fcap) 25;have hz:w.heap.size<(w.alloc (.cells #[.int .u32 (si:Int),.slice fa l.length fcap] 25)).heap.size:=by rw[jdx];omega
 have HS:=ae (hs.kept aH);have HN:=ae (hn.kept aH);have HO:=ae jx;generalize hA:w.alloc (.cells #[.int .u32 (si:Int),.slice fa l.length fcap] 25)=A at *;clear aH hs hn jx;obtain⟨dO,x0,x1,x2,x3,x4,x5⟩:=HN.o
 have HD:jfp (ffM l op f c n=if 0<n then 90 else match iL l f with
  | none=>81
  | some j=>if JW c=0 then fvM op c (BF l j) else if JW c=1 then 90 else JW c):=ae rfl
 generalize ffM l op f c n=R at *;by_cases qq:0<n
 ·rw[jdu qq]at HD
  have hn0':(0:Int)<(n:Int):=by omega
  clear qq;go_enter Tryz.func190,Tryz.ntmps190
  go_wp2_with fail;go_ret
  rw[HD.o];exact⟨rfl,aQ.o⟩
 ·rw[jdt qq]at HD
  obtain rfl:n=0:=by omega
  clear qq;have rY:=ae (fun(U:World) (hU:Below A.heap.size A U)=>sL (HS.o.kept hU) si f);have ZP:∀ s:bO (fun x=>Below A.heap.size A x),s.w.cell? ⟨w.heap.size,0,none⟩=some (.int .u32 (si:Int)):=fun s=>(s.ok.cell (p:=⟨w.heap.size,0,none⟩) hz).trans e0
  have Am:∀ s:bO (fun x=>Below A.heap.size A x),s.w.cell? ⟨w.heap.size,1,none⟩=some (.slice fa l.length fcap):=fun s=>(s.ok.cell (p:=⟨w.heap.size,1,none⟩) hz).trans e1
  have BT:∀ s:bO (fun x=>Below A.heap.size A x),s.w.cell? ⟨b,off+1,none⟩=some (.int .u32 (f:Int)):=fun s=>(s.ok.cell (p:=⟨b,off+1,none⟩) dO).trans x1
  haveI:Nonempty (bO (fun x=>Below A.heap.size A x)):=⟨bO.mk A (jdv _ _)⟩
  go_enter Tryz.func190,Tryz.ntmps190
  go_wp2_with fail;refine cz (S:=fun x=>Below A.heap.size A x) (by kernel_rfl) (by kernel_rfl) (by first | exact(jdv _ _).drew | (rw[hA];exact(jdv _ _).drew)) ?_;repeat (go_big_quiet_step ((go_at_call 193;exact(rY.o _ (bO.ok _)).mono (fun e w' h=>⟨h.1,bO.mk w' (ai (bO.ok _) h.2),rfl⟩))))
  refine wpQuiet_nil ?_;rintro _ ⟨s2,rfl⟩;obtain⟨w2,qs⟩:∃ x,x=s2.w:=⟨_,rfl⟩;have aE:=s2.ok;rw[← qs]at aE ⊢;have aO:=ae aE;have gl:=ae (HS.o.kept aE);have FR:=ae (HN.o.kept aE);have g0:=(aE.cell (p:=⟨w.heap.size,0,none⟩) hz).trans e0;have g1:=(aE.cell (p:=⟨w.heap.size,1,none⟩) hz).trans e1;have bv:=jdS hz aE.size;clear qs aE ZP Am BT x0 x1 x2 x3 x4 x5 HN HS e0 e1 hz hA dO;obtain⟨dO,x0,x1,x2,x3,x4,x5⟩:=FR.o;cases hp:iL l f with
  | none =>
   rw[hp]at HD;simp only[Option.isSome_none,Option.getD_none];clear hp;go_wp2_with fail;go_ret
   rw[HD.o];exact⟨rfl,ai aQ.o aO.o⟩
  | some j =>
   rw[hp]at HD;have hj:=QN hp;simp only[Option.isSome_some,Option.getD_some];clear hp;go_wp2_with fail;refine(SV HO.o _).mono ?_;rintro e w3 ⟨rfl,aS⟩;have bP:=ae (ai aO.o aS);have hN3:=FR.o.kept aS;have k0:=(aS.cell (p:=⟨w.heap.size,0,none⟩) bv).trans g0;have k1:=(aS.cell (p:=⟨w.heap.size,1,none⟩) bv).trans g1;obtain⟨gb,goff,rfl,PR,y0,y1,y2,y3⟩:=(gl.o.kept aS).at hj;clear aS x0 x1 x2 x3 x4 x5 g0 g1 bv dO;have HN3:=ae hN3;clear hN3;have HKA:jfp (BF l j=l[j].2.2.1):=ae (by unfold BF;rw[List.getElem?_eq_getElem hj]);have hj':(j:Int)<(l.length:Int):=(by omega);have HE:jfp (JW c=flt (c.1:Int) c.2.1 (ak c.2.2)):=ae rfl;rw[HKA.o]at HD;generalize l[j].2.2.1=kd at *;obtain⟨fl,kj⟩:∃ fl,fl=flt (c.1:Int) c.2.1 (ak c.2.2):=⟨_,rfl⟩;rw[← kj]at HE ⊢;rw[HE.o]at HD;clear kj HE HKA;by_cases h0:fl=0
   ·subst h0
    simp only[if_true]at HD;go_wp2_with fail;refine(tg HN3.o kd).mono ?_;rintro e w4 ⟨rfl,bK⟩;have cx:=ae (ai bP.o bK);clear bK;go_wp2_with fail;go_ret
    rw[HD.o];exact⟨rfl,ai aQ.o cx.o⟩
   ·have h0':(fl==0)=false:=jdG.2 h0
    simp only[jdt h0]at HD;by_cases h1:fl=1
    ·subst h1
     simp only[if_true]at HD;clear h0;go_wp2_with fail;go_ret
     rw[HD.o];exact⟨rfl,ai aQ.o bP.o⟩
    ·have h1':(fl==1)=false:=jdG.2 h1
     simp only[jdt h1]at HD;clear h0 h1;go_wp2_with fail;go_ret
     rw[HD.o];exact⟨rfl,ai aQ.o bP.o⟩
def Fe(w:World)(t:PT)(m d:Nat)(e:Ending)(w':World):Prop:=(∃ n:Int,e=.returned (.int .i64 n)/\-1<=n/\n<100/\(∀ op f c,t=.node op f c []->0<m->0<d->n=(m:Int)-1))/\w'=w
def Pk(w:World)(l:List Fd)(t:PT)(e:Ending)(w':World):Prop:=(∃ n:Int,e=.returned (.int .i64 n)/\(∀ op f c,t=.node op f c []->n=mQ l t))/\Below w.heap.size w w'
def sId:ByteArray:=⟨#[105,100]⟩
def Zb:ByteArray:=⟨#[110,97,109,101]⟩
def fE:List Fd:=[(1,sId,1,true),(2,Zb,3,false)]
def rA1:Row:=[(1,1,[]),(3,0,[97])]
def rA2:Row:=[(1,2,[]),(0,0,[])]
def rA:List Row:=[rA1,rA2]
def pA:PT:=.node 1 1 (1,2,[]) []
theorem XK:chk 1 fE=0:=by decide +kernel
theorem fitA1:jK fE rA1=0:=by decide +kernel
theorem fitA2:jK fE rA2=0:=by decide +kernel
theorem Lz{n:Int}(h:I64 n):aT (1,n,[]):=Or.inr (Or.inl ⟨n,rfl,h⟩)
theorem XL:aT (3,0,[97]):=Or.inr (Or.inr (Or.inr ⟨[97],rfl,by decide,fun x hx=>by simp at hx;omega⟩))
theorem XM:aT (0,0,[]):=Or.inl rfl
theorem jaX:∀ c∈rA1,aT c:=fun c hc=>by
 rcases jdN.1 hc with rfl | hc
 ·exact Lz ⟨by omega,by omega⟩
 ·obtain rfl:c=(3,0,[97]):=by simpa using hc
  exact XL
theorem BI:∀ c∈rA2,aT c:=fun c hc=>by
 rcases jdN.1 hc with rfl | hc
 ·exact Lz ⟨by omega,by omega⟩
 ·obtain rfl:c=(0,0,[]):=by simpa using hc
  exact XM
theorem pw:jQ fE rA:=fun r hr=>by
 rcases jdN.1 hr with rfl | hr
 ·exact⟨fitA1,jaX⟩
 ·obtain rfl:r=rA2:=by simpa using hr
  exact⟨fitA2,BI⟩
theorem okA:∀ f∈fE,Okf f:=fun f hf=>by
 rcases jdN.1 hf with rfl | hf
 ·exact⟨by decide,by decide⟩
 ·obtain rfl:f=(2,Zb,3,false):=by simpa using hf
  exact⟨by decide,by decide⟩
def bA:List Nat:=bX (ew 1 fE rA 1)
theorem Uh:bT 1 fE rA (1:Int)=(bA,0):=BD (g:=1) okA (by omega) XK (by decide) (by omega) (by omega) pw
theorem Zc:rt bA=.ok (1,fE,1,[grp fE [rA1],grp fE [rA2]]):=BE (g:=1) okA (by omega) (fun r hr=>(pw r hr).2) Uh
theorem bsA:Bs bA:=(mn okA (by omega) XK (by decide) (by omega) (by omega) pw).2.seal
theorem jaY:5<bA.length/\bA.length<=70000:=by
 constructor
 ·unfold bA
  rw[lZ];unfold ew md;simp only[jdy,jdD,jdX,le4];omega
 ·have:=xr okA (by omega) XK (show rA.length<=60 by decide) (by omega) (show 1<=64 by omega) pw
  unfold bA;omega
theorem turnA:rt (bA.set 5 (bA[5]'jaY.1 ^^^ 1))=.error 101:=by
 have h:=Bh (b:=ew 1 fE rA 1) (j:=5) (y:=1) (mn okA (by omega) XK (by decide) (by omega) (by omega) pw).2 jaY.1 (by omega) (by omega);unfold rt;have e:jq (bA.set 5 (bA[5]'jaY.1 ^^^ 1))=none:=h;rw[e]
theorem jaZ:mQ fE pA=0:=by decide +kernel
theorem mayA1:jaD (oX fE (grp fE [rA1]).2 pA) 2=false:=by decide +kernel
theorem mayA2:jaD (oX fE (grp fE [rA2]).2 pA) 2=true:=by decide +kernel
theorem ja0:jp fE rA2 pA=2:=by decide +kernel
theorem Pm(w:World):Calls Tryz.prog 35 #[] w fun e w'=>(∃ v',e=.returned (.agg #[.int .u32 1,v'])/\fD w' w.heap.size v' fE)/\Below w.heap.size w w':=by
 have HL:jfp (∀ W:World,fD (W.alloc (.cells #[.int .u32 1,.string ⟨#[105,100]⟩,.int .u8 1,.bool true,.int .u32 2,.string ⟨#[110,97,109,101]⟩,.int .u8 3,.bool false] 81)) W.heap.size (.slice (some ⟨W.heap.size,0,none⟩) 2 2) fE):=ae (fun W=>wJ W fE (by unfold maxLen;decide));have aH:=am w (.cells #[.int .u32 0,.slice none 0 0] 25);have jw:(w.alloc (.cells #[.int .u32 0,.slice none 0 0] 25)).heap.size=w.heap.size+1:=jdx _ _;have qn:=ae jw;clear jw;go_enter Tryz.func35,Tryz.ntmps35
 go_wp2;refine bodyPost_ret (v:=.agg #[.int .u32 1,.slice (some ⟨w.heap.size+1,0,none⟩) 2 2]) (by simp[results,Tryz.results35,go_sem]) rfl ?_;refine⟨⟨_,rfl,?_⟩,?_⟩
 ·have h:=HL.o (w.alloc (.cells #[.int .u32 1,.slice (some ⟨w.heap.size+1,0,none⟩) 2 2] 25))
  rw[jdx]at h;exact h.low (by omega)
 ·exact((jdv _ _).alloc (jdw _) _).alloc (by rw[jdx];omega) _
def Ui(fs:List Fd)(t:PT)(r:Row):Bool:=jp fs r t==2
def mR(fs:List Fd)(t:PT)(rows:List Row):List Row:=rows.filter (Ui fs t)
theorem Pn{fs:List Fd}{t:PT}{rows:List Row}{k:Nat}(h:k<rows.length):mR fs t (rows.take (k+1))=mR fs t (rows.take k)++(if Ui fs t rows[k]=true then [rows[k]] else []):=by
 unfold mR;rw[jdM h,je6];simp[jfj]
theorem xu(fs:List Fd)(t:PT)(rows:List Row):(mR fs t rows).length<=rows.length:=je4 _ _
theorem BJ{w:World}{B fp id op f:Nat}{fv gv kv a b:Value}{fs:List Fd}{rows:List Row}{sts:List Stt}{c:Cl}{ks:List PT}(jW:w.heap[fp]?=some (.cells #[.int .u32 (id:Int),fv,gv] 105 (0,0)))(Ak:Sf w fv fs)(hg:Gro w B (.agg #[a,b]) rows sts)
  (hk:sO w kv ks) (FS:∀ U rv r,Below w.heap.size w U->Sv U rv (aI r)->(∀ x∈r,aT x)->Calls Tryz.prog 113 #[.agg #[.int .u8 (op:Int),.int .u32 (f:Int),.int .u8 (c.1:Int),.int .i64 c.2.1,.string (ak c.2.2),kv],.agg #[.int .u32 (id:Int),fv],rv] U fun e w'=>e=.returned (.int .u8 (jp fs r (.node op f c ks):Int))/\Below U.heap.size U w') (hr:∀ r∈rows,r.length<=1000/\∀ x∈r,aT x) (hl:rows.length<=1000) :
  Calls Tryz.prog 67 #[.pointer (some ⟨fp,0,none⟩),.agg #[a,b],.agg #[.int .u8 (op:Int),.int .u32 (f:Int),.int .u8 (c.1:Int),.int .i64 c.2.1,.string (ak c.2.2),kv]] w
   fun e w'=>(∃ v l,e=.returned v/\Ow w' w.heap.size v l/\l.map Prod.snd=mR fs (.node op f c ks) rows)/\Below w.heap.size w w':=by
 obtain⟨R,rfl,hR1,hR2,hR3,jX⟩:=hg.rows;obtain⟨fa,fc,rfl,_,_⟩:=Ak.form;obtain⟨ka,kc,rfl,_,_⟩:=hk.form;have KH:=(Array.getElem?_eq_some_iff.1 jW).1;have aH:=am w (.cells #[.slice (some ⟨R,0,none⟩) rows.length rows.length,b] 109);obtain⟨g0,g1⟩:=bx w (.slice (some ⟨R,0,none⟩) rows.length rows.length) b 109;have aE:=am (w.alloc (.cells #[.slice (some ⟨R,0,none⟩) rows.length rows.length,b] 109)) (.cells #[.int .u8 (op:Int),.int .u32 (f:Int),.int .u8 (c.1:Int),.int .i64 c.2.1,.string (ak c.2.2),.slice ka ks.length kc] 63);obtain⟨p0,p1,p2,p3,p4,p5⟩:=sP (w.alloc (.cells #[.slice (some ⟨R,0,none⟩) rows.length rows.length,b] 109)) (.int .u8 (op:Int)) (.int .u32 (f:Int)) (.int .u8 (c.1:Int)) (.int .i64 c.2.1) (.string (ak c.2.2)) (.slice ka ks.length kc) 63;have cP:(w.alloc (.cells #[.slice (some ⟨R,0,none⟩) rows.length rows.length,b] 109)).heap.size=w.heap.size+1:=jdx _ _;have bv:((w.alloc (.cells #[.slice (some ⟨R,0,none⟩) rows.length rows.length,b] 109)).alloc (.cells #[.int .u8 (op:Int),.int .u32 (f:Int),.int .u8 (c.1:Int),.int .i64 c.2.1,.string (ak c.2.2),.slice ka ks.length kc] 63)).heap.size=w.heap.size+2:=by rw[jdx,jdx]
 have g0':=(aE.cell (p:=⟨w.heap.size,0,none⟩) (by show w.heap.size<_;omega)).trans g0;rw[cP]at p0 p1 p2 p3 p4 p5;have lu:=ai aH aE;generalize hA:(w.alloc (.cells #[.slice (some ⟨R,0,none⟩) rows.length rows.length,b] 109)).alloc (.cells #[.int .u8 (op:Int),.int .u32 (f:Int),.int .u8 (c.1:Int),.int .i64 c.2.1,.string (ak c.2.2),.slice ka ks.length kc] 63)=A at *
 have HT:jfp (∀ U,Below A.heap.size A U->U.cell? ⟨fp,0,none⟩=some (.int .u32 (id:Int))/\U.cell? ⟨fp,1,none⟩=some (.slice fa fs.length fc)/\U.cell? ⟨w.heap.size,0,none⟩=some (.slice (some ⟨R,0,none⟩) rows.length rows.length) /\
   U.cell? ⟨w.heap.size+1,0,none⟩=some (.int .u8 (op:Int))/\U.cell? ⟨w.heap.size+1,1,none⟩=some (.int .u32 (f:Int))/\U.cell? ⟨w.heap.size+1,2,none⟩=some (.int .u8 (c.1:Int))/\U.cell? ⟨w.heap.size+1,3,none⟩=some (.int .i64 c.2.1)/\U.cell? ⟨w.heap.size+1,4,none⟩=some (.string (ak c.2.2))/\U.cell? ⟨w.heap.size+1,5,none⟩=some (.slice ka ks.length kc)):=ae (fun U hU=>by
  have hfU:=(hU.block fp (by omega)).trans ((lu.block fp KH).trans jW);refine⟨by rw[ay hfU];rfl,by rw[ay hfU];rfl,(hU.cell (p:=⟨w.heap.size,0,none⟩) (by show w.heap.size<_;omega)).trans g0',?_,?_,?_,?_,?_,?_⟩
  ·exact(hU.cell (p:=⟨w.heap.size+1,0,none⟩) (by show w.heap.size+1<_;omega)).trans p0
  ·exact(hU.cell (p:=⟨w.heap.size+1,1,none⟩) (by show w.heap.size+1<_;omega)).trans p1
  ·exact(hU.cell (p:=⟨w.heap.size+1,2,none⟩) (by show w.heap.size+1<_;omega)).trans p2
  ·exact(hU.cell (p:=⟨w.heap.size+1,3,none⟩) (by show w.heap.size+1<_;omega)).trans p3
  ·exact(hU.cell (p:=⟨w.heap.size+1,4,none⟩) (by show w.heap.size+1<_;omega)).trans p4
  ·exact(hU.cell (p:=⟨w.heap.size+1,5,none⟩) (by show w.heap.size+1<_;omega)).trans p5)
 have HROW:jfp (∀ U,Below A.heap.size A U->∀ i (h:i<rows.length),∃ ra rc,U.cell? ⟨R,i,none⟩=some (.slice ra rows[i].length rc)/\Sv U (.slice ra rows[i].length rc) (aI rows[i])/\rows[i].length<=1000/\∀ x∈rows[i],aT x):=ae (fun U hU i hi=>by
  obtain⟨rv,e1,e2⟩:=jX i hi;have fs':=e2.sv;obtain⟨ra,rc,rfl,_,_⟩:=fs'.form1;rw[aG]at *;have hbU:=lu.trans (hU.mono lu.size);exact⟨ra,rc,(hbU.cell (p:=⟨R,i,none⟩) hR2).trans e1,fs'.kept hbU,hr _ (jdA hi)⟩)
 have HEV:jfp (∀ U ra n rc r,Below A.heap.size A U->Sv U (.slice ra n rc) (aI r)->(∀ x∈r,aT x)->Calls Tryz.prog 113 #[.agg #[.int .u8 (op:Int),.int .u32 (f:Int),.int .u8 (c.1:Int),.int .i64 c.2.1,.string (ak c.2.2),.slice ka ks.length kc],.agg #[.int .u32 (id:Int),.slice fa fs.length fc],.slice ra n rc] U
   fun e w'=>e=.returned (.int .u8 (jp fs r (.node op f c ks):Int))/\Below U.heap.size U w'):=ae (fun U ra n rc r hU hs Vp=>by
  have hbU:=lu.trans (hU.mono lu.size);exact FS U _ r hbU hs Vp)
 have nA:=ae lu;have HH0:=ae (fun k (h:k<rows.length)=>Pn (fs:=fs) (t:=.node op f c ks) h);have HHM:jfp (∀ r,Ui fs (.node op f c ks) r=(jp fs r (.node op f c ks)==2)):=ae (fun r=>rfl);have HHL:=ae (fun k=>xu fs (.node op f c ks) (rows.take k));have QH:jfp (mR fs (.node op f c ks) (rows.take rows.length)=mR fs (.node op f c ks) rows):=ae (by rw[jdE]);generalize (PT.node op f c ks)=T at *;clear jW Ak hg hk FS hr jX aH aE g0 g1 p0 p1 p2 p3 p4 p5 g0' lu;obtain⟨c0,c1,c2,d0,d1,d2,d3,d4,d5⟩:=HT.o A (jdv _ _);have LU:=ae bv;clear bv cP;generalize c.1=k0 at *;generalize c.2.1=k1 at *;generalize ak c.2.2=k2 at *;go_enter Tryz.func67,Tryz.ntmps67
 go_wp2_with fail;try rw[hA]
 go_loopw [7,13] (fun o i wr=>∃(j:Nat) (l:List (Value×Row)),j<=rows.length/\i=.int .i64 (j:Int)/\Ow wr A.heap.size o l/\l.map Prod.snd=mR fs T (rows.take j)/\Below A.heap.size A wr) (fun _ i _=>rows.length-(intOf i).toNat)
 case atStart=>exact⟨0,[],by omega,rfl,Ow.nil _ _,rfl,jdv _ _⟩
 case round =>
  obtain⟨j,l,hj,rfl,how,uW,az⟩:=hrel;have HO:=ae how;have HB:=ae az;have tw:=ae uW;have bF:=az.size
  have mU:l.length<=rows.length:=by
   have h1:=jdB List.length uW;have h2:=HHL.o j;rw[jdz]at h1;rw[jdC]at h2;omega
  clear how az uW;obtain⟨c0,c1,c2,d0,d1,d2,d3,d4,d5⟩:=HT.o wr HB.o;obtain⟨la,lc,rfl,UL,Aa,_⟩:=HO.o.form;by_cases aB:j<rows.length
  ·have hlt':(j:Int)<(rows.length:Int):=by omega
   obtain⟨ra,rc,ek,iO,pE,Vp⟩:=HROW.o wr HB.o j aB;have FY:=ae iO;have lE:=ae (HH0.o j aB);have jci:=ae (HHM.o rows[j])
   have jcj:jfp (∀ U,Below wr.heap.size wr U->Calls Tryz.prog 113 #[.agg #[.int .u8 (op:Int),.int .u32 (f:Int),.int .u8 (k0:Int),.int .i64 k1,.string k2,.slice ka ks.length kc],.agg #[.int .u32 (id:Int),.slice fa fs.length fc],.slice ra rows[j].length rc] U
     fun e w'=>e=.returned (.int .u8 (jp fs rows[j] T:Int))/\Below wr.heap.size wr w'):=ae (fun U hU=>by
    refine(HEV.o U ra _ rc rows[j] (HB.o.trans (hU.mono bF)) (iO.kept hU) Vp).mono ?_;rintro e w' ⟨rfl,hb⟩;exact⟨rfl,ai hU hb⟩)
   obtain⟨E,hE⟩:∃ E,jp fs rows[j] T=E:=⟨_,rfl⟩;rw[hE]at jcj jci;have YC:jfp (Ui fs T rows[j]=(E==2)):=ae jci.o;clear hE jci iO Vp;generalize rows[j]=r at *;go_upto_region 5 with fail
   go_cut [24] from 32 (fun v wx=>v=.bool ((E:Int)==2)/\Below wr.heap.size wr wx)
   case first =>
    refine wp_region_noPanic ?_
    go_region_law (first
     | (go_simp;go_at_call 113;refine(jcj.o _ ?_).mono ?_;exact ap (jdv wr.heap.size wr) _;rintro e w1 ⟨rfl,aH⟩;have aQ:=ae aH;clear aH;dsimp only)
     | fail)
    all_goals refine NoPanic.normal ?_
    all_goals go_wp2_with fail
    all_goals go_meet
    all_goals exact⟨rfl,aQ.o⟩
   case rest =>
   obtain⟨rfl,An⟩:=hcut;obtain⟨w1,hw1⟩:∃ w1,w1=wc:=⟨_,rfl⟩;subst hw1;have aQ:=ae An;clear An;have HBW1:=ae (HB.o.trans (aQ.o.mono bF));have cP:=aQ.o.size;clear jcj c0 c1 c2 d0 d1 d2 d3 d4 d5 ek;by_cases hE2:E=2
   ·have hEq:((E:Int)==2)=true:=by rw[hE2];rfl
    have jck:jfp (mR fs T (rows.take (j+1))=mR fs T (rows.take j)++[r]):=ae (by rw[lE.o,YC.o,hE2];rfl);have qr:=ae (pY (FY.o.kept aQ.o) pE);have eY:=ae (HO.o.kept aQ.o);clear lE YC hE2 HO;go_wp2_with fail;refine qr.o.mono ?_;rintro e w2 ⟨⟨v2,rfl,eZ⟩,aE⟩;have du:=ae (eY.o.kept aE);have Yo:=ae eZ;have aO:=ae (HBW1.o.trans (aE.mono (by omega)));have bv:=aE.size;obtain⟨ra',rc',rfl,_,_⟩:=bI eZ;have kP:=ae (aK w2 (.slice ra' r.length rc') 79);clear aE eZ qr eY;go_wp2_with (first | (at_builtin;refine gL rfl _ _ rfl A.heap.size _ _ l [(.slice ra' r.length rc',r)] rfl (du.o.kept (am _ _)) rfl (uR kP.o (by rw[jdx];omega)) ?c1 ?c2 ?c3 ?_))
    case c1 =>
     intro x hx;rw[jef.1 hx];exact(Yo.o.kept (am _ _)).of_le (by omega)
    case c2=>simp only[jd6];omega
    case c3=>rw[jdx];omega
    intro v' w5 o5 b5;have dE:=ae o5;have aR:=ae ((aO.o.alloc (by omega) _).trans b5);clear o5 b5;go_wp2_with fail;go_roundw
    case rel=>exact⟨j+1,_,by omega,by go_num,dE.o,by rw[jck.o,jdQ,tw.o];rfl,aR.o⟩
    case measure=>simp[intOf];omega
   ·have hEq:((E:Int)==2)=false:=by simp;omega
    have jck:jfp (mR fs T (rows.take (j+1))=mR fs T (rows.take j)):=ae (by
     have:(E==2)=false:=by simpa using hE2
     rw[lE.o,YC.o,this];simp)
    have eY:=ae (HO.o.kept aQ.o);clear lE YC hE2 HO;go_wp2_with fail;go_roundw
    case rel=>exact⟨j+1,l,by omega,by go_num,eY.o,by rw[jck.o,tw.o],HBW1.o⟩
    case measure=>simp[intOf];omega
  ·obtain rfl:j=rows.length:=by omega
   have gj:¬ ((rows.length:Nat):Int)<(rows.length:Int):=(by omega);have FQ:jfp (l.map Prod.snd=mR fs T rows):=ae (tw.o.trans QH.o);go_wp2_with fail;go_ret
   have FG:w.heap.size<=A.heap.size:=by have:=LU.o;omega
   first | exact⟨⟨_,_,rfl,HO.o.low FG,FQ.o⟩,ai nA.o HB.o⟩ | exact⟨⟨_,rfl,_,HO.o.low FG,FQ.o⟩,ai nA.o HB.o⟩
end Go.Proofs.YtpljdjmpamjkhaaGreatDoor
