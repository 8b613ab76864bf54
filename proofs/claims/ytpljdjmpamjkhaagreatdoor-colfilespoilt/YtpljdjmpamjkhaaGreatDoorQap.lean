import Derived.Test.YtpljdjmpamjkhaaGreatDoorQao
import Derived.Deep.CutRange
set_option linter.unusedVariables false
set_option linter.unusedSimpArgs false
set_option maxRecDepth 100000
set_option maxHeartbeats 8000000
namespace Go.Proofs.YtpljdjmpamjkhaaGreatDoor
open Go.RowKit Go.Lib Go.Shelf
attribute [local go_sem] Oper.semAt_some
theorem lw(cs:List Cl):∃ n:Nat,(cA cs).nulls=(n:Int)/\n<=cs.length:=by
 unfold cA;split
 ·exact⟨cs.length,rfl,jek _⟩
 ·next x r h =>
  have hl:(aZ cs).length<=cs.length:=jfV _ _;rw[h]at hl;exact⟨cs.length-(x::r).length,by show (cs.length:Int)-_=_;omega,by omega⟩
theorem mt{fs:List Fd}{p:List Row}(h:jR fs p)(k:Nat):∀ c∈cY p k,aT c:=fun c hc=>by
 obtain⟨r,hr,rfl⟩:=jeF.1 hc;rw[List.getD_eq_getElem?_getD];cases hg:r[k]? with
 | none=>exact Or.inl rfl
 | some y=>exact(h r hr).2 y (List.mem_of_getElem? hg)
theorem pi{st:Stt}(h1:aT st.lo)(h2:aT st.hi)(hn:∃ n:Nat,st.nulls=(n:Int)/\n<=1000000):(eD st).length<=160/\Bs (eD st):=by
 obtain⟨n,hn,Mt⟩:=hn;have hu:=bO (n:=n) (by omega);have b1:=mr h1;have b2:=mr h2
 have hb:∀{c:Cl},aT c->Bs (gJ c):=fun{c} hc=>by
  unfold gJ;split
  ·exact hO
  ·split
   ·intro x hx
    have:=jeX.1 hx;omega
   ·refine Bs.app hO ?_
    rcases hc with rfl | ⟨m,rfl,_⟩ | ⟨m,rfl,_⟩ | ⟨s,rfl,_,h8⟩
    ·exact fun x hx=>by simp[nul]at hx
    ·exact fun x hx=>by simp at hx
    ·exact fun x hx=>by simp at hx
    ·exact h8
 unfold eD;rw[hn,jeQ];refine⟨?_,Bs.app (Bs.app hO (fun x hx=>?_)) (Bs.app ?_ ?_)⟩
 ·simp only[jem,jeS]
  split<;>split<;>(try simp only[jeL])<;>omega
 ·have:=jeX.1 hx
  have:=Ya st;omega
 ·split
  ·exact hb h1
  ·exact fun x hx=>by simp at hx
 ·split
  ·exact hb h2
  ·exact fun x hx=>by simp at hx
theorem Mg{fs:List Fd}{p:List Row}(h:jR fs p)(hl:p.length<=256)(k:Nat):aT (cA (cY p k)).lo/\aT (cA (cY p k)).hi/\∃ n:Nat,(cA (cY p k)).nulls=(n:Int)/\n<=1000000:=by
 obtain⟨h1,h2⟩:=kJ (mt h k);obtain⟨n,h3,h4⟩:=lw (cY p k);rw[dx]at h4;exact⟨h1,h2,n,h3,by omega⟩
theorem mu{fs:List Fd}{p:List Row}(ec:∀ k,k<fs.length->Col (mj fs k) (cY p k)):∀{k:Nat},k<=fs.length->(eU fs p k).length<=21600*k/\Bs (eU fs p k):=by
 intro k;induction k with
 | zero=>exact fun _=>⟨by simp[eU],fun x hx=>by simp[eU]at hx⟩
 | succ k ih =>
  intro hk;obtain⟨h1,h2⟩:=ih (by omega);obtain⟨h3,h4⟩:=iB (ec k (by omega));rw[mo];exact⟨by rw[jem];omega,Bs.app h2 h4⟩
theorem pj{fs:List Fd}{p:List Row}(h:jR fs p)(hl:p.length<=256)(ec:∀ k,k<fs.length->Col (mj fs k) (cY p k)):∀{k:Nat},k<=fs.length->(ftK fs p k).length<=170*k/\Bs (ftK fs p k):=by
 intro k;induction k with
 | zero=>exact fun _=>⟨by simp[ftK],fun x hx=>by simp[ftK]at hx⟩
 | succ k ih =>
  intro hk;obtain⟨h1,h2⟩:=ih (by omega);obtain⟨h3,h4⟩:=iB (ec k (by omega));obtain⟨a1,a2,a3⟩:=Mg h hl k;obtain⟨b1,b2⟩:=pi a1 a2 a3;have hu:=bO (n:=(ey (mj fs k) (cY p k)).length) (by omega);rw[nZ];exact⟨by simp only[jem];omega,Bs.app h2 (Bs.app hO b2)⟩
theorem iH{f:Nat->List Nat}{m:Nat}(h:∀ j,(f j).length<=m):∀ pre:List Nat,(pre.flatMap f).length<=m*pre.length
 | []=>by simp
 | j::t=>by
  have:=iH h t;have:=h j;rw[jfG,jem,jer,jft];omega
theorem Cm{f:Nat->List Nat}(h:∀ j,Bs (f j)):∀ pre:List Nat,Bs (pre.flatMap f)
 | []=>fun x hx=>by simp at hx
 | j::t=>by
  rw[jfG];exact Bs.app (h j) (Cm h t)
theorem kr{g n:Nat}(hg:1<=g)(hn:n<=256):nps g n<=256:=by
 rcases jeM 256 (nps g n)with h | h
 ·have:=(kN (j:=256) (show 0<g by omega)).1 h
  have:256*1<=256*g:=jfm _ hg;omega
 ·exact h
theorem Fu(m:Nat)(hm:1<=m)(l Bs Bn cap:Nat)(a:Option Addr)(J:List Nat->World->Prop)(W:World)(hBs:W.cell? ⟨Bs,0,none⟩=some (.slice a 0 cap))(h0:J [] W) :
  CallsIn Fence.wide m Tryz.prog 121 #[.func (.yield l) #[] #[],.pointer (some ⟨Bs,0,none⟩),.pointer (some ⟨Bn,0,none⟩)] W fun e W'=>(∃ v,e=.returned v)/\J [] W':=by
 refine callsIn_of_wp Tryz.func121 rfl trivial ?_ rfl;simp only[Tryz.ntmps121,List.size_toArray,jer,jeL,Nat.reduceAdd,Nat.reduceSub,Array.replicate_succ,Array.replicate_zero,List.push_toArray,List.append_toArray,jfi,jfc];gi_wp2
 gi_loopw [4] (fun i wr=>i=.int .i64 0/\wr=W) (fun _ _=>0)
 case atStart=>exact⟨rfl,rfl⟩
 case round =>
  obtain⟨rfl,rfl⟩:=hrel;gi_wp2
  go_end0
  exact⟨⟨_,rfl⟩,h0⟩
theorem PC{w:World}{ra:Option Addr}{rcap:Nat}{rs:List Row}(hr:Rv w (.slice ra rs.length rcap) rs)(hl:rs.length<=256){g:Nat}(eZ:1<=g)(gY:g<=64)(m:Nat)(hm:1<=m) :
  ∃ PV:Nat->Value,(∀ W,Rv W (.slice ra rs.length rcap) rs->∀ j,Rv W (PV j) (prt g rs j))/\∀(p q:Nat) (Z:World),Z.cell? ⟨p,0,none⟩=some (.slice ra rs.length rcap)->Z.cell? ⟨q,0,none⟩=some (.int .i64 (g:Int))->p<Z.heap.size->q<Z.heap.size ->
   SeqStopsK Fence.wide m Tryz.prog 121 #[.pointer (some ⟨p,0,none⟩),.pointer (some ⟨q,0,none⟩)] (fun j=>#[PV j]) (KC p q) (fun ys=>ys=List.range (nps g rs.length)) (fun pre=>∃ k,pre=List.range k) (nps g rs.length) Z:=by
 obtain⟨a',cap',e,h1,h2,h3,h4⟩:=hr;simp only[Value.slice.injEq]at e;obtain⟨rfl,_,rfl⟩:=e;have bC:rcap<=9223372036854775807:=by unfold maxLen at h2;omega
 rcases jfa rs.length with h0 | h0
 ·have hrs:rs=[]:=jeI h0
  subst hrs;refine⟨fun _=>.slice none 0 0,fun W _ j=>?_,fun p q Z hp hq QN nw l J Jx W hW hJ hJx hY h00=>?_⟩
  ·have:prt g ([]:List Row) j=[]:=by simp[prt]
   rw[this];exact Rv.nil W
  ·have hn:nps g ([]:List Row).length=0:=Uv g (by omega)
   rw[hn];refine(Fu m hm l p q rcap ra J W ((hW.cell (p:=⟨p,0,none⟩) QN).trans hp) h00).mono ?_;rintro e W' ⟨he,hj⟩;exact⟨he,.inl ⟨[],rfl,hj⟩⟩
 ·obtain⟨b,off,rfl,h5,h6⟩:=h4 h0
  refine⟨Az b off rs.length g,fun W hW j=>hW.part hl j,fun p q Z hp hq QN nw l J Jx W hW hJ hJx hY h00=>?_⟩;refine(Pz m hm l p q b off rs.length rcap g eZ gY hl h1 bC J Jx hY (fun pre U k hU=>hJ pre U _ none hU ⟨rfl,rfl,rfl,jek _,fun _ _ _=>rfl⟩ (fun r e=>by cases e)) W ((hW.cell (p:=⟨p,0,none⟩) QN).trans hp) ((hW.cell (p:=⟨q,0,none⟩) nw).trans hq) h00).mono ?_;rintro e W' ⟨he,⟨ys,rfl,hj⟩ | ⟨pre,hk,hj⟩⟩
  ·exact⟨he,.inl ⟨_,rfl,hj⟩⟩
  ·exact⟨he,.inr ⟨_,hk,hj⟩⟩
attribute [local go_sem] Oper.semAt_some
theorem Ux{w:World}{fv rv:Value}{fs:List Fd}{rs:List Row}{id g:Nat}(hs:Sf w fv fs)(hr:Rv w rv rs)(ho:∀ f∈fs,Okf f)(lM:id<4294967296)(hl:fs.length<=8)(hz:szs fs<5000)(nD:rs.length<=256)(eZ:1<=g)(gY:g<=64)
  (dq:jR fs rs) (hk:∀ f∈fs,1<=f.2.2.1/\f.2.2.1<=3) :
  Calls Tryz.prog 41 #[.agg #[.int .u32 (id:Int),fv],rv,.int .i64 (g:Int)] w (dA w (dy id fs rs g)):=by
 obtain⟨fa,fcap,rfl,jcG,jcH⟩:=hs.form;obtain⟨ra,rcap,rfl,QM,Da,hra⟩:=hr.form;have Qr:jgf (∀ U:World,Sf U (.slice fa fs.length fcap) fs->Calls Tryz.prog 80 #[.agg #[.int .u32 (id:Int),.slice fa fs.length fcap]] U (dA U (dH id fs))):=ae (fun U h=>Tu h ho (by omega) hz id lM);have kf:=ae (fun n (hn:n<9223372036854775808)=>qq n hn);have dL:=ak w (.cells #[.int .u32 (id:Int),.slice fa fs.length fcap] 25);have kh:=jeK w (.cells #[.int .u32 (id:Int),.slice fa fs.length fcap] 25);have jG:(w.alloc (.cells #[.int .u32 (id:Int),.slice fa fs.length fcap] 25)).heap.size=w.heap.size+1:=jel _ _;have HS:=ae (hs.kept dL);have HR:=ae (hr.kept dL);have Zi:=ae hr;have ce:=ae dL
 have HT:jgf (∀ U,Below (w.alloc (.cells #[.int .u32 (id:Int),.slice fa fs.length fcap] 25)).heap.size (w.alloc (.cells #[.int .u32 (id:Int),.slice fa fs.length fcap] 25)) U->U.cell? ⟨w.heap.size,0,none⟩=some (.int .u32 (id:Int))/\U.cell? ⟨w.heap.size,1,none⟩=some (.slice fa fs.length fcap)):=ae (fun U hb=>by
  have hU:=(hb.block w.heap.size (by omega)).trans kh;constructor<;>(rw[ay hU];rfl))
 generalize hA:w.alloc (.cells #[.int .u32 (id:Int),.slice fa fs.length fcap] 25)=A at *;have qG:=ae jG
 have vL:(convert 30 30 (.slice (some ⟨A.heap.size,0,none⟩) 3 3)).run Tryz.prog (A.alloc (.cells #[.int .u8 67,.int .u8 70,.int .u8 49] 5))=.ok (.slice (some ⟨A.heap.size,0,none⟩) 3 3) (A.alloc (.cells #[.int .u8 67,.int .u8 70,.int .u8 49] 5 (3,4))) :=
  run_convert_bytes_const A 30 5 #[.int .u8 67,.int .u8 70,.int .u8 49] 3 3 Tryz.underlying30 Tryz.underlying5
 obtain⟨c0,c1⟩:=HT.o A (jej _ _);clear hs hr dL kh jG;refine(callsIn_wide (n:=3)).1 ?_;refine callsIn_of_wp_marks Tryz.func41 rfl trivial ?_ rfl;refine wpIn_wide.2 ?_;simp only[Tryz.ntmps41,List.size_toArray,jer,jeL,Nat.reduceAdd,Nat.reduceSub,Array.replicate_succ,Array.replicate_zero,List.push_toArray,List.append_toArray,jfi,jfc];have hbX:Below A.heap.size A ((A.alloc (.cells #[.int .u8 67,.int .u8 70,.int .u8 49] 5 (3,4))).alloc (.cells #[.slice (some ⟨A.heap.size,0,none⟩) 3 3] 30)):=((jej A.heap.size A).alloc (jek _) _).alloc (by rw[jel];omega) _;obtain⟨d0,d1⟩:=HT.o _ hbX
 have hLit:LitM ((A.alloc (.cells #[.int .u8 67,.int .u8 70,.int .u8 49] 5 (3,4))).alloc (.cells #[.slice (some ⟨A.heap.size,0,none⟩) 3 3] 30)) A.heap.size (.slice (some ⟨A.heap.size,0,none⟩) 3 3) [67,70,49]:=by
  refine⟨rfl,_,rfl,jek _,?_⟩;exact(Below.heap_alloc (A.alloc (.cells #[.int .u8 67,.int .u8 70,.int .u8 49] 5 (3,4))) _ A.heap.size (by rw[jel];omega)).trans (jeK A _)
 have hBox:Boxed ((A.alloc (.cells #[.int .u8 67,.int .u8 70,.int .u8 49] 5 (3,4))).alloc (.cells #[.slice (some ⟨A.heap.size,0,none⟩) 3 3] 30)) (A.heap.size+1) 30 (.slice (some ⟨A.heap.size,0,none⟩) 3 3):=by
  have:=Boxed.new (A.alloc (.cells #[.int .u8 67,.int .u8 70,.int .u8 49] 5 (3,4))) 30 (.slice (some ⟨A.heap.size,0,none⟩) 3 3);rwa[jel]at this
 go_wp2_with fail;generalize hX:((A.alloc (.cells #[.int .u8 67,.int .u8 70,.int .u8 49] 5 (3,4))).alloc (.cells #[.slice (some ⟨A.heap.size,0,none⟩) 3 3] 30))=X at *;clear hX vL;refine(Qr.o _ (HS.o.kept hbX)).mono ?_;rintro e w1 ⟨⟨v1,rfl,o1⟩,aH⟩;obtain⟨a1,cap1,rfl,_,_⟩:=aO o1;have hbY:=ai aH (ak w1 (.cells #[.slice a1 (dH id fs).length cap1] 30));have hboxY:=Boxed.new w1 30 (.slice a1 (dH id fs).length cap1);have hltX:A.heap.size+1<X.heap.size:=hBox.lt;have hX1:=aH.size
 have hBX:Bx2 (w1.alloc (.cells #[.slice a1 (dH id fs).length cap1] 30)) A.heap.size (A.heap.size+1) w1.heap.size (.slice (some ⟨A.heap.size,0,none⟩) 3 3) (.slice a1 (dH id fs).length cap1) [67,70,49] (dH id fs):=by
  refine⟨(hbY.block (A.heap.size+1) hltX).trans hBox,hboxY,by omega,(fT.kept (Or.inr hLit) hbY),Or.inl (aD.kept (bg o1 hbX.size) (ak w1 (.cells #[.slice a1 (dH id fs).length cap1] 30))),fun g hg h2=>?_,by omega,by omega⟩;have:=(World.ownsRow.lt o1 g h2).1;simp[Value.ownBlock]at hg
  omega
 have hbAY:Below A.heap.size A (w1.alloc (.cells #[.slice a1 (dH id fs).length cap1] 30)):=ai hbX hbY
 have sL:jgf ((dH id fs).length<=10100):=ae (by
  have h1:=fQ ho (by omega) hz fs.length;rw[jes]at h1;have h2:=gH id (by omega);have h3:=gH fs.length (by omega);unfold dH;simp only[jem];omega)
 generalize hP0:dH id fs=P0 at *;have HE0:=ae hP0;clear hP0;go_upto_region 3 with fail
 clear aH o1 hbY hboxY hLit hBox hbX d0 d1 c0 c1 hX1;generalize hY:w1.alloc (.cells #[.slice a1 P0.length cap1] 30)=Y at *;generalize w1.heap.size=Bf at *;have fJ:A.heap.size+1≠Bf:=hBX.2.2.1;generalize A.heap.size+1=Bb at *;clear hY hltX;have mz:=ae hBX;have fx:=ae hbAY;obtain⟨⟨q1,q2⟩,⟨q3,q4⟩⟩:=hBX.cells;clear hBX hbAY;have hup1:=mG rs.length;have hul1:=bO (n:=rs.length) (by omega);have hup2:=mG g;have hul2:=bO (n:=g) (by omega);have Za:rs.length<9223372036854775808:=by omega
 have Mt:g<9223372036854775808:=by omega
 have HCN0:=ae kf.o;have HCN1:=ae (kf.o rs.length Za);have HCN2:=ae (kf.o g Mt);generalize hP1:uv rs.length=P1 at *;generalize hP2:uv g=P2 at *;have HE1:=ae hP1;have HE2:=ae hP2;clear hP1 hP2
 have WG:jgf (∀ U,Below Y.heap.size Y U->Calls Tryz.prog 81 #[.int .i64 (rs.length:Int)] U fun e w'=>∃ v,e=.returned v/\Sv w' v (aF .u8 (P1))/\Below Y.heap.size Y w'/\w'.cell? ⟨Bf,0,none⟩=some (.slice a1 P0.length cap1)):=ae (fun U hU=>by
  refine(HCN1.o U).mono ?_;rintro e w' ⟨⟨v,rfl,ho⟩,hb⟩;exact⟨v,rfl,ho.sv,ai hU hb,((mz.o.kept (ai hU hb)).cells.2).1⟩)
 go_cut [] from 15 (fun wx=>∃ v2,Bx2 wx A.heap.size Bb Bf (.slice (some ⟨A.heap.size,0,none⟩) 3 3) v2 [67,70,49] (P0++P1)/\Below A.heap.size A wx)
 case first =>
  refine wp_region_noPanic ?_
  go_region_law (first
   | (refine lJ (by rfl) _ _ (by rfl) A.heap.size _ _ (P0) (P1) (by rfl) ?_ (by rfl) df.o hup1 ?_ ?_ ?_;exact(mz.o.kept aQ.o).2.2.2.2.1;(have:=sL.o;omega);exact jet fx.o.size aQ.o.size;intro v6 w6 o6 g6 e6;obtain⟨a6,cap6,pw,_,_⟩:=aO o6;rw[jem]at pw;subst pw;obtain⟨⟨f1,f2⟩,iK,iL⟩:=(mz.o.kept aQ.o).swap.app (jet fx.o.size aQ.o.size) o6 g6 e6;have wm:=ae iK.swap;have Db:=ae (iL);clear o6 g6 e6 iK iL)
   | (go_simp;go_at_call 81;refine(WG.o _ ?_).mono ?_;exact ar (jej Y.heap.size Y) 1;rintro e w5 ⟨v5,rfl,fD,bD,hc5⟩;have df:=ae fD;have aQ:=ae bD;clear fD bD;dsimp only)
   | fail)
  all_goals refine NoPanic.normal ?_
  all_goals (go_wp2_with fail;go_meet;exact⟨_,wm.o,(fx.o.trans (aQ.o.mono fx.o.size)).trans Db.o⟩)
 clear WG mz fx q1 q2 q3 q4
 case rest =>
 obtain⟨v2,hBX,hbA⟩:=hcut;go_upto_region 4 with fail
 obtain⟨⟨q1,q2⟩,⟨q3,q4⟩⟩:=hBX.cells;obtain⟨a2,cap2,rfl⟩:=hBX.2.2.2.2.1.slice;have mz:=ae hBX;have fx:=ae hbA;clear hBX hbA;have hF1l:(P0++P1).length<=10110:=by have:=sL.o;rw[jem];omega
 generalize hF1:P0++P1=F1 at *
 have HC2:jgf (∀ U,Below wc.heap.size wc U->Calls Tryz.prog 81 #[.int .i64 (g:Int)] U fun e w'=>∃ v,e=.returned v/\Sv w' v (aF .u8 (P2))/\Below wc.heap.size wc w'/\w'.cell? ⟨Bf,0,none⟩=some (.slice a2 F1.length cap2)):=ae (fun U hU=>by
  refine(HCN2.o U).mono ?_;rintro e w' ⟨⟨v,rfl,ho⟩,hb⟩;exact⟨v,rfl,ho.sv,ai hU hb,((mz.o.kept (ai hU hb)).cells.2).1⟩)
 go_cut [] from 15 (fun wx=>∃ v2,Bx2 wx A.heap.size Bb Bf (.slice (some ⟨A.heap.size,0,none⟩) 3 3) v2 [67,70,49] (F1++P2)/\Below A.heap.size A wx)
 case first =>
  refine wp_region_noPanic ?_
  go_region_law (first
   | (refine lJ (by rfl) _ _ (by rfl) A.heap.size _ _ (F1) (P2) (by rfl) ?_ (by rfl) df.o hup2 ?_ ?_ ?_;exact(mz.o.kept aQ.o).2.2.2.2.1;(omega);exact jet fx.o.size aQ.o.size;intro v6 w6 o6 g6 e6;obtain⟨a6,cap6,pw,_,_⟩:=aO o6;rw[jem]at pw;subst pw;obtain⟨⟨f1,f2⟩,iK,iL⟩:=(mz.o.kept aQ.o).swap.app (jet fx.o.size aQ.o.size) o6 g6 e6;have wm:=ae iK.swap;have Db:=ae (iL);clear o6 g6 e6 iK iL)
   | (go_simp;go_at_call 81;refine(HC2.o _ ?_).mono ?_;exact ar (jej wc.heap.size wc) 1;rintro e w5 ⟨v5,rfl,fD,bD,hc5⟩;have df:=ae fD;have aQ:=ae bD;clear fD bD;dsimp only)
   | fail)
  all_goals refine NoPanic.normal ?_
  all_goals (go_wp2_with fail;go_meet;exact⟨_,wm.o,(fx.o.trans (aQ.o.mono fx.o.size)).trans Db.o⟩)
 clear HC2 mz fx q1 q2 q3 q4
 case rest =>
 obtain⟨v3,hBX,hbA⟩:=hcut;have hF2l:(F1++P2).length<=10120:=by rw[jem];omega
 generalize hF2:F1++P2=F2 at *;have mz:=ae hBX;have fx:=ae hbA;clear hBX hbA;have HCH:=ae (PA ra rs.length rcap g eZ);go_wp2_with fail;refine(HCH.o _).mono ?_;rintro e w7 ⟨rfl,rfl⟩;go_wp2_with fail;have hbZ:Below wc.heap.size wc ((wc.alloc (.cells #[.slice ra rs.length rcap] 34)).alloc (.cells #[.int .i64 (g:Int)] 3)):=ai (ak _ _) (ak _ _);have hp1:Boxed ((wc.alloc (.cells #[.slice ra rs.length rcap] 34)).alloc (.cells #[.int .i64 (g:Int)] 3)) wc.heap.size 34 (.slice ra rs.length rcap):=(Boxed.new wc 34 _).alloc _
 have sN:Boxed ((wc.alloc (.cells #[.slice ra rs.length rcap] 34)).alloc (.cells #[.int .i64 (g:Int)] 3)) (wc.heap.size+1) 3 (.int .i64 (g:Int)):=by
  have:=Boxed.new (wc.alloc (.cells #[.slice ra rs.length rcap] 34)) 3 (.int .i64 (g:Int));rwa[jel]at this
 have hBZ:=mz.o.kept hbZ;have hAZ:=ai fx.o hbZ;generalize (wc.alloc (.cells #[.slice ra rs.length rcap] 34)).alloc (.cells #[.int .i64 (g:Int)] 3)=Z at *;clear hbZ mz fx;generalize wc.heap.size+1=q at *;generalize wc.heap.size=p at *;obtain⟨PV,WO,hseq⟩:=PC Zi.o nD eZ gY 2 (by omega);have hseqZ:=hseq p q Z hp1.cell sN.cell hp1.lt sN.lt;have WO:=ae WO;have hpZ:=hp1.lt;have hqZ:=sN.lt;have hAZs:=hAZ.size;clear hseq;refine wpIn_wide.1 (?_:Code.wpIn Fence.wide 3 _ _ _ _ _)
 refine wpIn_rangeFunc_ownF (F:=Fence.wide) (n:=3) rfl (by omega) (gf:=121) (lb:=#[.pointer (some ⟨p,0,none⟩),.pointer (some ⟨q,0,none⟩)]) rfl trivial (enters_of Tryz.func121 (by kernel_rfl) rfl) hseqZ (fun h k=>KC.trans h k) (fun W l o o' hl _ _ _=>⟨World.putObj_heap_other (show p≠l by omega),World.putObj_heap_other (show q≠l by omega)⟩) (jej _ _) (fun _=>rfl)
  (fun pre W=>((∃ v1 v2,Bx2 W A.heap.size Bb Bf v1 v2 ([67,70,49]++pre.flatMap fun j=>eU fs (prt g rs j) fs.length) (F2++pre.flatMap fun j=>ftK fs (prt g rs j) fs.length))/\Boxed W p 34 (.slice ra rs.length rcap)/\Boxed W q 3 (.int .i64 (g:Int)))/\Below A.heap.size A W)
  (fun _ _ _=>False) ?hI (fun _ _ _ _ _ h _ _=>h) ?h0
  (fun j=>{ tmps:=#[(.agg #[.int .u32 (id:Int),.slice fa fs.length fcap]),(.slice ra rs.length rcap),(.int .i64 (g:Int)),(.pointer (some ⟨w.heap.size,0,none⟩)),undef,undef,(.slice none 0 0),(.pointer (some ⟨Bb,0,none⟩)),(.pointer (some ⟨Bf,0,none⟩)),(PV j),undef,undef,undef,undef,undef,u15,u16,u17,u18,u19,u20,u21,u22,u23,u24,u25,u26,u27,(.slice ra rs.length rcap),(.int .i64 (g:Int)),(.func (.func 121) #[] #[.pointer (some ⟨p,0,none⟩),.pointer (some ⟨q,0,none⟩)]),(PV j),u32,u33,u34,u35,u36,u37,u38,u39,u40,u41,u42,u43,u44,u45,u46,u47,u48,u49,u50,u51,u52,u53,u54,u55,u56,u57,u58,u59,u60,u61,u62,u63,u64,u65,u66,u67,u68,u69,u70,u71],defers:=[] }) ?assign ?body ?done ?stop
 case hI =>
  rintro pre X Y' row ⟨⟨⟨v1,v2,h1⟩,h2,h3⟩,h4⟩ hg hr;refine⟨⟨⟨v1,v2,h1.turned hg (fun r e=>(hr r e).2)⟩,?_,?_⟩,h4.grown hg h4.size (fun k e=>jet hAZs (hr k e).1)⟩
  ·refine h2.kept hg (fun e=>?_)
   obtain⟨_,o,ho,hc⟩:=hr _ e.symm;rw[show X.heap[p]?=_ from h2]at ho;cases ho
   cases hc
  ·refine h3.kept hg (fun e=>?_)
   obtain⟨_,o,ho,hc⟩:=hr _ e.symm;rw[show X.heap[q]?=_ from h3]at ho;cases ho
   cases hc
 case h0=>exact⟨⟨⟨_,_,by simpa using hBZ⟩,hp1,sN⟩,hAZ⟩
 case assign =>
  intro l x W K hK;gi_wp2
  exact hK
 case body =>
  rintro l pre j W ⟨⟨⟨v1,v2,Dc⟩,WK,vP⟩,Ba⟩ aB;have VU:jgf (∀ U,Below A.heap.size A U->U.cell? ⟨w.heap.size,1,none⟩=some (.slice fa fs.length fcap)/\Sf U (.slice fa fs.length fcap) fs):=ae (fun U hU=>⟨(HT.o U hU).2,HS.o.kept hU⟩);have kV:=cm g rs j;have jcJ:(prt g rs j).length<=256:=by omega
  have nA:=ae (fun k kQ=>fq (dq.part g j) hk jcJ (k:=k) kQ);have Qs:=ae (fun k (kQ:k<=fs.length)=>(mu nA.o kQ).1);have zr:=ae (fun k (kQ:k<=fs.length)=>(pj (dq.part g j) jcJ nA.o kQ).1);have cP:=ae (fun k=>Mg (dq.part g j) jcJ k);have QC:=ae (fun k=>mt (dq.part g j) k);have Ls:jgf (∀ U,Below A.heap.size A U->Rv U (PV j) (prt g rs j)):=ae (fun U hU=>WO.o U (HR.o.kept hU) j);have Vt:jgf (∀ r∈prt g rs j,r.length=fs.length):=ae (fun r hr=>qO (dq.part g j r hr).1);have HKN:jgf (∀ k (h:k<fs.length),mj fs k=fs[k].2.2.1):=ae (fun k h=>ml h);have sO:=ae (mo fs (prt g rs j));have tT:=ae (nZ fs (prt g rs j));have HZ1:jgf (([67,70,49]++(pre++[j]).flatMap fun j=>eU fs (prt g rs j) fs.length)=([67,70,49]++pre.flatMap fun j=>eU fs (prt g rs j) fs.length)++eU fs (prt g rs j) fs.length):=ae (by simp[jfw]);have MB:jgf ((F2++(pre++[j]).flatMap fun j=>ftK fs (prt g rs j) fs.length)=(F2++pre.flatMap fun j=>ftK fs (prt g rs j) fs.length)++ftK fs (prt g rs j) fs.length):=ae (by simp[jfw]);have hpre:pre.length<=256:=by have:=kr (n:=rs.length) eZ nD;omega
  have hG1:([67,70,49]++pre.flatMap fun j=>eU fs (prt g rs j) fs.length).length<=50000000:=by
   have h1:=iH (m:=172800) (fun j=>jet (mu (fun k kQ=>fq (dq.part g j) hk (by rw[cm];omega) kQ) (jek _)).1 (by omega)) pre;rw[jem];simp only[jer,jeL];have:172800*pre.length<=172800*256:=jfm _ hpre;omega
  have hG2:(F2++pre.flatMap fun j=>ftK fs (prt g rs j) fs.length).length<=500000:=by
   have h1:=iH (m:=1360) (fun j=>jet (pj (dq.part g j) (by rw[cm];omega) (fun k kQ=>fq (dq.part g j) hk (by rw[cm];omega) kQ) (jek _)).1 (by omega)) pre;rw[jem];have:1360*pre.length<=1360*256:=jfm _ hpre;omega
  have mz:=ae Dc;have HPQ:=ae (And.intro WK vP);have fx:=ae Ba;obtain⟨lK,yD⟩:=VU.o W Ba;clear Dc WK vP Ba hseqZ hBZ hAZ aB kV yD WO;generalize ([67,70,49]++pre.flatMap fun j=>eU fs (prt g rs j) fs.length)=G1 at *;generalize (F2++pre.flatMap fun j=>ftK fs (prt g rs j) fs.length)=G2 at *;generalize prt g rs j=PT at *;generalize PV j=pv at *;gi_wp2
  gi_loopw [35] (fun i wr=>∃(k:Nat) (v1 v2:Value),k<=fs.length/\i=.int .i64 (k:Int)/\Bx2 wr A.heap.size Bb Bf v1 v2 (G1++eU fs PT k) (G2++ftK fs PT k)/\(Boxed wr p 34 (.slice ra rs.length rcap)/\Boxed wr q 3 (.int .i64 (g:Int)))/\KeepsOthers W wr/\Below A.heap.size A wr) (fun i _=>fs.length-(intOf i).toNat)
  case atStart=>exact⟨0,v1,v2,by omega,rfl,by simpa [eU,ftK]using mz.o,HPQ.o,KeepsOthers.refl _,fx.o⟩
  case round =>
   obtain⟨k,u1,u2,oF,rfl,Dc,hpq,hko,Ba⟩:=hrel;have HBXr:=ae Dc;have HPQr:=ae hpq;have HKOr:=ae hko;have HBAr:=ae Ba;clear Dc hpq hko Ba;by_cases aB:k<fs.length
   ·have hlt':(k:Int)<(fs.length:Int):=by omega
    obtain⟨hd1,yD⟩:=VU.o wr HBAr.o;obtain⟨bb,off,rfl,hb,x0,x1,x2,x3⟩:=yD.at aB;clear yD;have ec:=nA.o k aB;have fK:=Qs.o k oF;have jH:=zr.o k oF;have GF:=HKN.o k aB;gi_wp2
    have KX:jgf (∀ r∈PT,k<r.length):=ae (fun r hr=>by rw[Vt.o r hr];exact aB);rw[GF]at ec;have HBSk:jgf (eU fs PT (k+1)=eU fs PT k++ey fs[k].2.2.1 (cY PT k)):=ae (by rw[sO.o,GF]);have HFSk:jgf (ftK fs PT (k+1)=ftK fs PT k++(uv (ey fs[k].2.2.1 (cY PT k)).length++eD (cA (cY PT k)))):=ae (by rw[tT.o,GF]);clear GF;generalize fs[k]=f at *;obtain⟨f0,f1,f2,f3⟩:=f;simp only at x0 x1 x2 x3 ec HBSk HFSk ⊢;have aH:=ak wr (.cells #[.int .u32 (f0:Int),.string f1,.int .u8 (f2:Int),.bool f3] 81);obtain⟨_,_,z2,_⟩:=jg wr (.int .u32 (f0:Int)) (.string f1) (.int .u8 (f2:Int)) (.bool f3) 81;have bv:wr.heap.size<(wr.alloc (.cells #[.int .u32 (f0:Int),.string f1,.int .u8 (f2:Int),.bool f3] 81)).heap.size:=by rw[jel];omega
    generalize wr.alloc (.cells #[.int .u32 (f0:Int),.string f1,.int .u8 (f2:Int),.bool f3] 81)=R1 at *;have aP:=ae aH;clear aH x0 x1 x2 x3 hd1;refine⟨trivial,?_⟩;refine(CallsIn.inRound l (callsIn_wide.2 (Cj (Ls.o R1 (ai HBAr.o aP.o)) (by omega) KX.o))).mono ?_;rintro e R2 ⟨⟨vv,rfl,o2⟩,aE⟩;have gX:=o2.sv;have sE:jgf (∀ b,vv.ownBlock=some b->b<R2.heap.size):=ae (fun b hb=>(World.ownsRow.lt o2 b hb).2);obtain⟨av,capv,rfl,_,_⟩:=aO o2;have z2':=(aE.cell (p:=⟨wr.heap.size,2,none⟩) bv).trans z2;have aN:=ae (ai aP.o aE);have yk:=ae gX;have hWC:=kx ec;have eX:=iB ec
    have WU:0<(ey f2 (cY PT k)).length:=by
     unfold ey dO;rw[jem];split
     ·rw[jer]
      omega
     ·rw[jeS]
      omega
    have Lq:=ae (Ax gX sE.o (QC.o k) f2);rw[hWC]at Lq;obtain⟨t1,t2,t3⟩:=cP.o k;have jcK:jgf (∀(U:World) (B:Nat) (u:Value),OwnV U B u (cY PT k)->Calls Tryz.prog 59 #[u] U fun e w'=>e=.returned (vC (cA (cY PT k)))/\Below U.heap.size U w'):=ae (fun U B u hU=>Aq hU.sv (QC.o k) (by rw[dx];omega));have HOV:=ae o2;have VV:=ae (fun U=>oe t1 t2 t3 U);obtain⟨t4,t5⟩:=pi t1 t2 t3;have t6:0<(eD (cA (cY PT k))).length:=by unfold eD;simp only[jem,jeS];omega
    have Zg:=bO (n:=(ey f2 (cY PT k)).length) (by omega);have Zj:=mG (ey f2 (cY PT k)).length;have Zk:=ae (HCN0.o (ey f2 (cY PT k)).length (by omega));have hcll:=(iB ec).1;have hvl:(cY PT k).length=PT.length:=dx _ _;clear hWC eX t1 t2 t3 t5 aE o2 gX z2 ec;generalize hCM:ey f2 (cY PT k)=CM at *;generalize hSM:cA (cY PT k)=SM at *;generalize hSB:eD SM=SB at *;generalize hUV:uv CM.length=UV at *;have HUV:=ae hUV;have Zf:=ae hSB;have WH:=ae hSM;have Ll:=ae hCM;clear hCM hSM hSB hUV hvl;generalize hCS:cY PT k=CS at *;have HCS:=ae hCS;clear hCS;gi_wp2
    refine⟨trivial,?_⟩;refine(CallsIn.inRound l (callsIn_wide.2 Lq.o)).mono ?_;rintro e R3 ⟨⟨vc,rfl,o3⟩,aS⟩;obtain⟨ac,capc,rfl,_,_⟩:=aO o3;have bN:=ae (ai aN.o aS);have dd:=ae o3;have Gv:=HBXr.o.kept bN.o;have hba3:=ai HBAr.o bN.o;obtain⟨⟨q1,q2⟩,⟨q3,q4⟩⟩:=Gv.cells;obtain⟨a1',cap1',rfl⟩:=Gv.2.2.2.1.slice;obtain⟨a2',cap2',rfl⟩:=Gv.2.2.2.2.1.slice;have Gw:=ae Gv;have jcL:=ae hba3;have HOV3:=ae (HOV.o.kept aS);clear Gv hba3 o3 aS;have hg1l:(G1++eU fs PT k).length<=50200000:=by rw[jem];omega
    have hg2l:(G2++ftK fs PT k).length<=510000:=by rw[jem];omega
    generalize hM1:G1++eU fs PT k=M1 at *;generalize hM2:G2++ftK fs PT k=M2 at *;have QJ:=ae hM1;have Lo:=ae hM2;clear hM1 hM2;gi_wp2_with (first | (gi_at_builtin;refine rY rfl _ _ rfl A.heap.size _ _ M1 CM rfl Gw.o.2.2.2.1 rfl dd.o.sv WU ?n3 ?n4 ?_))
    case n3=>omega
    case n4=>exact jcL.o.size
    intro vb4 R4 o4 g4 e4;generalize hN1:M1++CM=N1 at *;have La:=ae hN1;clear hN1;obtain⟨a4,cap4,hv4,_,_⟩:=aO o4;subst hv4;obtain⟨⟨y1,y2⟩,jcM,hbl4⟩:=Gw.o.app jcL.o.size o4 g4 e4;have HPQ4:=ae (And.intro (Gw.o.other (v':=.slice a4 N1.length cap4) g4 ((bN.o.block _ HPQr.o.1.lt).trans HPQr.o.1) (by decide) (by decide)) (Gw.o.other (v':=.slice a4 N1.length cap4) g4 ((bN.o.block _ HPQr.o.2.lt).trans HPQr.o.2) (by decide) (by decide)));have HKO4:=ae ((HKOr.o.trans (ep bN.o)).trans (Gw.o.keeps (v':=.slice a4 N1.length cap4) g4));have HBX4:=ae jcM;have HOV4:=ae (Gw.o.keepV (v':=.slice a4 N1.length cap4) g4 HOV3.o (by decide) (by decide));have HBA4:=ae (jcL.o.trans hbl4);clear o4 g4 e4 hbl4 q1 q2 q3 q4;obtain⟨⟨q1,q2⟩,⟨q3,q4⟩⟩:=jcM.cells;clear jcM;gi_wp2
    have iM:=HBX4;have oI:=HPQ4;have VW:=HOV4;have VX:=HKO4;have oJ:=HBA4;clear HBX4 HPQ4 HOV4 HKO4 HBA4 y1 y2;generalize R4.setCell ⟨Bb,0,none⟩ (.slice a4 N1.length cap4)=V4 at *;gi_cut [] from 72 (fun wx=>∃ v2,Bx2 wx A.heap.size Bb Bf (.slice a4 N1.length cap4) v2 N1 (M2++UV)/\(Boxed wx p 34 (.slice ra rs.length rcap)/\Boxed wx q 3 (.int .i64 (g:Int)))/\OwnV wx R1.heap.size (.slice av CS.length capv) CS/\KeepsOthers W wx/\Below A.heap.size A wx)
    case first =>
     refine wpIn_region_any (by kernel_rfl) ?_;change wpAnyIn _ _ _ _ _ _ _ _ _ V4.drew
     refine wpAnyIn_ready (rs:=[0,1]) (by kernel_rfl) (by simp) ?_;refine AllReadyIn.cons rfl (fun K hK=>?_) ?_
     ·have HK:=ae hK
      clear hK;go_simp
      refine HK.o _ _ ?_;clear HK K;try simp only[Act.put,jey,jew,jex]
      refine wpAnyIn_ready (rs:=[1]) (by kernel_rfl) (by simp) ?_;refine AllReadyIn.cons rfl (fun K hK=>?_) ?_
      ·have HK:=ae hK
       clear hK;go_simp
       refine HK.o _ _ ?_;clear HK K;try simp only[Act.put,jey,jew,jex]
       refine wpAnyIn_ready (rs:=[2]) (by kernel_rfl) (by simp) ?_;refine AllReadyIn.cons rfl (fun K hK=>?_) ?_
       ·have HK:=ae hK
        clear hK;go_simp
        refine HK.o _ _ ?_;clear HK K;try simp only[Act.put,jey,jew,jex]
        refine wpAnyIn_ready (rs:=[3]) (by kernel_rfl) (by simp) ?_;refine AllReadyIn.cons rfl (fun K hK=>?_) ?_
        ·have HK:=ae hK
         clear hK;go_simp
         refine⟨trivial,?_⟩;refine(CallsIn.inRound l (callsIn_wide.2 (Zk.o V4.drew))).mono ?_;rintro e w5 ⟨⟨v5,rfl,o5⟩,hb5'⟩;have bD:Below V4.heap.size V4 w5:=(ar (jej V4.heap.size V4) 1).trans hb5';obtain⟨⟨q1,q2⟩,⟨q3,q4⟩⟩:=(iM.o.kept bD).cells;have df:=ae o5;have aQ:=ae bD;clear o5 bD hb5';dsimp only
         refine HK.o _ _ ?_;clear HK K;try simp only[Act.put,jey,jew,jex]
         refine wpAnyIn_ready (rs:=[4]) (by kernel_rfl) (by simp) ?_;refine AllReadyIn.cons rfl (fun K hK=>?_) ?_
         ·have HK:=ae hK
          clear hK;rw[jei (by rfl)];refine dp _ _ rfl A.heap.size _ _ M2 UV rfl (iM.o.kept aQ.o).2.2.2.2.1 rfl df.o.sv Zj (by omega) (jet oJ.o.size aQ.o.size) ?_;intro v6 w6 o6 g6 e6;obtain⟨a6,cap6,pw,_,_⟩:=aO o6;rw[jem]at pw;subst pw;obtain⟨⟨f1,f2⟩,iK,iL⟩:=(iM.o.kept aQ.o).swap.app (jet oJ.o.size aQ.o.size) o6 g6 e6;have wm:=ae iK.swap;have Db:=ae iL;have kS:=ae g6;clear o6 g6 e6 iK iL;refine HK.o _ _ ?_;clear HK K;try simp only[Act.put,jey,jew,jex]
          refine wpAnyIn_ready (rs:=[5]) (by kernel_rfl) (by simp) ?_;refine AllReadyIn.cons rfl (fun K hK=>?_) ?_
          ·have HK:=ae hK
           clear hK;go_simp
           refine HK.o _ _ ?_;clear HK K;try simp only[Act.put,jey,jew,jex]
           refine wpAnyIn_done (by kernel_rfl) ?_ _;gi_wp2
           gi_meet
           exact⟨_,wm.o,⟨(iM.o.kept aQ.o).swap.other kS.o ((aQ.o.block _ oI.o.1.lt).trans oI.o.1) (by decide) (by decide),(iM.o.kept aQ.o).swap.other kS.o ((aQ.o.block _ oI.o.2.lt).trans oI.o.2) (by decide) (by decide)⟩,(iM.o.kept aQ.o).swap.keepV kS.o (OwnV.kept VW.o aQ.o) (by decide) (by decide),(VX.o.trans (ep aQ.o)).trans ((iM.o.kept aQ.o).swap.keeps kS.o),(oJ.o.trans (aQ.o.mono oJ.o.size)).trans Db.o⟩
          exact AllReadyIn.nil
         exact AllReadyIn.nil
        exact AllReadyIn.nil
       exact AllReadyIn.nil
      exact AllReadyIn.nil
     refine AllReadyIn.cons rfl (fun K hK=>?_) ?_
     ·have HK:=ae hK
      clear hK;go_simp
      refine HK.o _ _ ?_;clear HK K;try simp only[Act.put,jey,jew,jex]
      refine wpAnyIn_ready (rs:=[0,2]) (by kernel_rfl) (by simp) ?_;refine AllReadyIn.cons rfl (fun K hK=>?_) ?_
      ·have HK:=ae hK
       clear hK;go_simp
       refine HK.o _ _ ?_;clear HK K;try simp only[Act.put,jey,jew,jex]
       refine wpAnyIn_ready (rs:=[2]) (by kernel_rfl) (by simp) ?_;refine AllReadyIn.cons rfl (fun K hK=>?_) ?_
       ·have HK:=ae hK
        clear hK;go_simp
        refine HK.o _ _ ?_;clear HK K;try simp only[Act.put,jey,jew,jex]
        refine wpAnyIn_ready (rs:=[3]) (by kernel_rfl) (by simp) ?_;refine AllReadyIn.cons rfl (fun K hK=>?_) ?_
        ·have HK:=ae hK
         clear hK;go_simp
         refine⟨trivial,?_⟩;refine(CallsIn.inRound l (callsIn_wide.2 (Zk.o V4.drew))).mono ?_;rintro e w5 ⟨⟨v5,rfl,o5⟩,hb5'⟩;have bD:Below V4.heap.size V4 w5:=(ar (jej V4.heap.size V4) 1).trans hb5';obtain⟨⟨q1,q2⟩,⟨q3,q4⟩⟩:=(iM.o.kept bD).cells;have df:=ae o5;have aQ:=ae bD;clear o5 bD hb5';dsimp only
         refine HK.o _ _ ?_;clear HK K;try simp only[Act.put,jey,jew,jex]
         refine wpAnyIn_ready (rs:=[4]) (by kernel_rfl) (by simp) ?_;refine AllReadyIn.cons rfl (fun K hK=>?_) ?_
         ·have HK:=ae hK
          clear hK;rw[jei (by rfl)];refine dp _ _ rfl A.heap.size _ _ M2 UV rfl (iM.o.kept aQ.o).2.2.2.2.1 rfl df.o.sv Zj (by omega) (jet oJ.o.size aQ.o.size) ?_;intro v6 w6 o6 g6 e6;obtain⟨a6,cap6,pw,_,_⟩:=aO o6;rw[jem]at pw;subst pw;obtain⟨⟨f1,f2⟩,iK,iL⟩:=(iM.o.kept aQ.o).swap.app (jet oJ.o.size aQ.o.size) o6 g6 e6;have wm:=ae iK.swap;have Db:=ae iL;have kS:=ae g6;clear o6 g6 e6 iK iL;refine HK.o _ _ ?_;clear HK K;try simp only[Act.put,jey,jew,jex]
          refine wpAnyIn_ready (rs:=[5]) (by kernel_rfl) (by simp) ?_;refine AllReadyIn.cons rfl (fun K hK=>?_) ?_
          ·have HK:=ae hK
           clear hK;go_simp
           refine HK.o _ _ ?_;clear HK K;try simp only[Act.put,jey,jew,jex]
           refine wpAnyIn_done (by kernel_rfl) ?_ _;gi_wp2
           gi_meet
           exact⟨_,wm.o,⟨(iM.o.kept aQ.o).swap.other kS.o ((aQ.o.block _ oI.o.1.lt).trans oI.o.1) (by decide) (by decide),(iM.o.kept aQ.o).swap.other kS.o ((aQ.o.block _ oI.o.2.lt).trans oI.o.2) (by decide) (by decide)⟩,(iM.o.kept aQ.o).swap.keepV kS.o (OwnV.kept VW.o aQ.o) (by decide) (by decide),(VX.o.trans (ep aQ.o)).trans ((iM.o.kept aQ.o).swap.keeps kS.o),(oJ.o.trans (aQ.o.mono oJ.o.size)).trans Db.o⟩
          exact AllReadyIn.nil
         exact AllReadyIn.nil
        exact AllReadyIn.nil
       exact AllReadyIn.nil
      refine AllReadyIn.cons rfl (fun K hK=>?_) ?_
      ·have HK:=ae hK
       clear hK;go_simp
       refine HK.o _ _ ?_;clear HK K;try simp only[Act.put,jey,jew,jex]
       refine wpAnyIn_ready (rs:=[0,3]) (by kernel_rfl) (by simp) ?_;refine AllReadyIn.cons rfl (fun K hK=>?_) ?_
       ·have HK:=ae hK
        clear hK;go_simp
        refine HK.o _ _ ?_;clear HK K;try simp only[Act.put,jey,jew,jex]
        refine wpAnyIn_ready (rs:=[3]) (by kernel_rfl) (by simp) ?_;refine AllReadyIn.cons rfl (fun K hK=>?_) ?_
        ·have HK:=ae hK
         clear hK;go_simp
         refine⟨trivial,?_⟩;refine(CallsIn.inRound l (callsIn_wide.2 (Zk.o V4.drew))).mono ?_;rintro e w5 ⟨⟨v5,rfl,o5⟩,hb5'⟩;have bD:Below V4.heap.size V4 w5:=(ar (jej V4.heap.size V4) 1).trans hb5';obtain⟨⟨q1,q2⟩,⟨q3,q4⟩⟩:=(iM.o.kept bD).cells;have df:=ae o5;have aQ:=ae bD;clear o5 bD hb5';dsimp only
         refine HK.o _ _ ?_;clear HK K;try simp only[Act.put,jey,jew,jex]
         refine wpAnyIn_ready (rs:=[4]) (by kernel_rfl) (by simp) ?_;refine AllReadyIn.cons rfl (fun K hK=>?_) ?_
         ·have HK:=ae hK
          clear hK;rw[jei (by rfl)];refine dp _ _ rfl A.heap.size _ _ M2 UV rfl (iM.o.kept aQ.o).2.2.2.2.1 rfl df.o.sv Zj (by omega) (jet oJ.o.size aQ.o.size) ?_;intro v6 w6 o6 g6 e6;obtain⟨a6,cap6,pw,_,_⟩:=aO o6;rw[jem]at pw;subst pw;obtain⟨⟨f1,f2⟩,iK,iL⟩:=(iM.o.kept aQ.o).swap.app (jet oJ.o.size aQ.o.size) o6 g6 e6;have wm:=ae iK.swap;have Db:=ae iL;have kS:=ae g6;clear o6 g6 e6 iK iL;refine HK.o _ _ ?_;clear HK K;try simp only[Act.put,jey,jew,jex]
          refine wpAnyIn_ready (rs:=[5]) (by kernel_rfl) (by simp) ?_;refine AllReadyIn.cons rfl (fun K hK=>?_) ?_
          ·have HK:=ae hK
           clear hK;go_simp
           refine HK.o _ _ ?_;clear HK K;try simp only[Act.put,jey,jew,jex]
           refine wpAnyIn_done (by kernel_rfl) ?_ _;gi_wp2
           gi_meet
           exact⟨_,wm.o,⟨(iM.o.kept aQ.o).swap.other kS.o ((aQ.o.block _ oI.o.1.lt).trans oI.o.1) (by decide) (by decide),(iM.o.kept aQ.o).swap.other kS.o ((aQ.o.block _ oI.o.2.lt).trans oI.o.2) (by decide) (by decide)⟩,(iM.o.kept aQ.o).swap.keepV kS.o (OwnV.kept VW.o aQ.o) (by decide) (by decide),(VX.o.trans (ep aQ.o)).trans ((iM.o.kept aQ.o).swap.keeps kS.o),(oJ.o.trans (aQ.o.mono oJ.o.size)).trans Db.o⟩
          exact AllReadyIn.nil
         exact AllReadyIn.nil
        exact AllReadyIn.nil
       refine AllReadyIn.cons rfl (fun K hK=>?_) ?_
       ·have HK:=ae hK
        clear hK;go_simp
        refine⟨trivial,?_⟩;refine(CallsIn.inRound l (callsIn_wide.2 (Zk.o V4.drew))).mono ?_;rintro e w5 ⟨⟨v5,rfl,o5⟩,hb5'⟩;have bD:Below V4.heap.size V4 w5:=(ar (jej V4.heap.size V4) 1).trans hb5';obtain⟨⟨q1,q2⟩,⟨q3,q4⟩⟩:=(iM.o.kept bD).cells;have df:=ae o5;have aQ:=ae bD;clear o5 bD hb5';dsimp only
        refine HK.o _ _ ?_;clear HK K;try simp only[Act.put,jey,jew,jex]
        refine wpAnyIn_ready (rs:=[0]) (by kernel_rfl) (by simp) ?_;refine AllReadyIn.cons rfl (fun K hK=>?_) ?_
        ·have HK:=ae hK
         clear hK;go_simp
         refine HK.o _ _ ?_;clear HK K;try simp only[Act.put,jey,jew,jex]
         refine wpAnyIn_ready (rs:=[4]) (by kernel_rfl) (by simp) ?_;refine AllReadyIn.cons rfl (fun K hK=>?_) ?_
         ·have HK:=ae hK
          clear hK;rw[jei (by rfl)];refine dp _ _ rfl A.heap.size _ _ M2 UV rfl (iM.o.kept aQ.o).2.2.2.2.1 rfl df.o.sv Zj (by omega) (jet oJ.o.size aQ.o.size) ?_;intro v6 w6 o6 g6 e6;obtain⟨a6,cap6,pw,_,_⟩:=aO o6;rw[jem]at pw;subst pw;obtain⟨⟨f1,f2⟩,iK,iL⟩:=(iM.o.kept aQ.o).swap.app (jet oJ.o.size aQ.o.size) o6 g6 e6;have wm:=ae iK.swap;have Db:=ae iL;have kS:=ae g6;clear o6 g6 e6 iK iL;refine HK.o _ _ ?_;clear HK K;try simp only[Act.put,jey,jew,jex]
          refine wpAnyIn_ready (rs:=[5]) (by kernel_rfl) (by simp) ?_;refine AllReadyIn.cons rfl (fun K hK=>?_) ?_
          ·have HK:=ae hK
           clear hK;go_simp
           refine HK.o _ _ ?_;clear HK K;try simp only[Act.put,jey,jew,jex]
           refine wpAnyIn_done (by kernel_rfl) ?_ _;gi_wp2
           gi_meet
           exact⟨_,wm.o,⟨(iM.o.kept aQ.o).swap.other kS.o ((aQ.o.block _ oI.o.1.lt).trans oI.o.1) (by decide) (by decide),(iM.o.kept aQ.o).swap.other kS.o ((aQ.o.block _ oI.o.2.lt).trans oI.o.2) (by decide) (by decide)⟩,(iM.o.kept aQ.o).swap.keepV kS.o (OwnV.kept VW.o aQ.o) (by decide) (by decide),(VX.o.trans (ep aQ.o)).trans ((iM.o.kept aQ.o).swap.keeps kS.o),(oJ.o.trans (aQ.o.mono oJ.o.size)).trans Db.o⟩
          exact AllReadyIn.nil
         exact AllReadyIn.nil
        exact AllReadyIn.nil
       exact AllReadyIn.nil
      exact AllReadyIn.nil
     exact AllReadyIn.nil
    case rest =>
    obtain⟨vf,Dc,hpq,hov,hko,Ba⟩:=hcut;have hg3l:(M2++UV).length<=510010:=by rw[jem];omega
    generalize hM3:M2++UV=M3 at *;have VB:=ae hM3;clear hM3;obtain⟨⟨q1,q2⟩,⟨q3,q4⟩⟩:=Dc.cells;obtain⟨af,capf,rfl⟩:=Dc.2.2.2.2.1.slice;have jo:=ae Dc;have py:=ae hpq;have jcN:=ae hov;have Zl:=ae hko;have pB:=ae Ba;clear Dc hpq hov hko Ba iM oI VW VX oJ;gi_wp2
    have HME:jgf (fs.length-(intOf (.int .i64 ((k:Int)+1))).toNat<fs.length-(intOf (.int .i64 (k:Int))).toNat):=ae (by simp[intOf];omega)
    have pU:jgf (∀(U:World) (x1 x2:Value),Bx2 U A.heap.size Bb Bf x1 x2 N1 (M3++SB)->Bx2 U A.heap.size Bb Bf x1 x2 (G1++eU fs PT (k+1)) (G2++ftK fs PT (k+1))):=ae (fun U x1 x2 h9=>by
     rw[← La.o,← QJ.o,← VB.o,← Lo.o]at h9;rw[HBSk.o,HFSk.o];simpa using h9)
    refine wpIn_region_any (by kernel_rfl) ?_;change wpAnyIn _ _ _ _ _ _ _ _ _ wc.drew
    refine wpAnyIn_ready (rs:=[0,1]) (by kernel_rfl) (by simp) ?_;refine AllReadyIn.cons rfl (fun K hK=>?_) ?_
    ·have HK:=ae hK
     clear hK;go_simp
     refine HK.o _ _ ?_;clear HK K;try simp only[Act.put,jey,jew,jex]
     refine wpAnyIn_ready (rs:=[1]) (by kernel_rfl) (by simp) ?_;refine AllReadyIn.cons rfl (fun K hK=>?_) ?_
     ·have HK:=ae hK
      clear hK;go_simp
      refine HK.o _ _ ?_;clear HK K;try simp only[Act.put,jey,jew,jex]
      refine wpAnyIn_ready (rs:=[2]) (by kernel_rfl) (by simp) ?_;refine AllReadyIn.cons rfl (fun K hK=>?_) ?_
      ·have HK:=ae hK
       clear hK;go_simp
       refine⟨trivial,?_⟩;refine(CallsIn.inRound l (callsIn_wide.2 (jcK.o wc.drew _ _ (OwnV.kept jcN.o (ar (jej wc.heap.size wc) 1))))).mono ?_;rintro e w4 ⟨rfl,hb4'⟩;have bG:Below wc.heap.size wc w4:=(ar (jej wc.heap.size wc) 1).trans hb4';obtain⟨⟨q1,q2⟩,⟨q3,q4⟩⟩:=(jo.o.kept bG).cells;have cp:=ae bG;clear bG hb4';dsimp only
       refine HK.o _ _ ?_;clear HK K;try simp only[Act.put,jey,jew,jex]
       refine wpAnyIn_ready (rs:=[3]) (by kernel_rfl) (by simp) ?_;refine AllReadyIn.cons rfl (fun K hK=>?_) ?_
       ·have HK:=ae hK
        clear hK;go_simp
        refine⟨trivial,?_⟩;refine(CallsIn.inRound l (callsIn_wide.2 (VV.o w4))).mono ?_;rintro e w5 ⟨⟨v5,rfl,o5⟩,hb5'⟩;have bD:Below wc.heap.size wc w5:=ai cp.o hb5';obtain⟨⟨q1,q2⟩,⟨q3,q4⟩⟩:=(jo.o.kept bD).cells;have df:=ae o5;have aQ:=ae bD;clear o5 bD hb5';dsimp only
        refine HK.o _ _ ?_;clear HK K;try simp only[Act.put,jey,jew,jex]
        refine wpAnyIn_ready (rs:=[4]) (by kernel_rfl) (by simp) ?_;refine AllReadyIn.cons rfl (fun K hK=>?_) ?_
        ·have HK:=ae hK
         clear hK;rw[jei (by rfl)];refine dp _ _ rfl A.heap.size _ _ M3 SB rfl (jo.o.kept aQ.o).2.2.2.2.1 rfl df.o.sv t6 (by omega) (jet pB.o.size aQ.o.size) ?_;intro v6 w6 o6 g6 e6;obtain⟨a6,cap6,pw,_,_⟩:=aO o6;rw[jem]at pw;subst pw;obtain⟨⟨f1,f2⟩,iK,iL⟩:=(jo.o.kept aQ.o).swap.app (jet pB.o.size aQ.o.size) o6 g6 e6;have wm:=ae iK.swap;have Db:=ae iL;have kS:=ae g6;clear o6 g6 e6 iK iL;refine HK.o _ _ ?_;clear HK K;try simp only[Act.put,jey,jew,jex]
         refine wpAnyIn_ready (rs:=[5]) (by kernel_rfl) (by simp) ?_;refine AllReadyIn.cons rfl (fun K hK=>?_) ?_
         ·have HK:=ae hK
          clear hK;go_simp
          refine HK.o _ _ ?_;clear HK K;try simp only[Act.put,jey,jew,jex]
          refine wpAnyIn_done (by kernel_rfl) ?_ _;gi_wp2
          go_roundw
          case rel =>
           have qA:k+1<=fs.length:=aB;have kQ:Value.int .i64 ((k:Int)+1)=Value.int .i64 ((k+1:Nat):Int):=by simp
           exact⟨k+1,_,_,qA,kQ,pU.o _ _ _ wm.o,⟨(jo.o.kept aQ.o).swap.other kS.o ((aQ.o.block _ py.o.1.lt).trans py.o.1) (by decide) (by decide),(jo.o.kept aQ.o).swap.other kS.o ((aQ.o.block _ py.o.2.lt).trans py.o.2) (by decide) (by decide)⟩,(Zl.o.trans (ep aQ.o)).trans ((jo.o.kept aQ.o).swap.keeps kS.o),(pB.o.trans (aQ.o.mono pB.o.size)).trans Db.o⟩
          case measure=>exact HME.o
         exact AllReadyIn.nil
        exact AllReadyIn.nil
       exact AllReadyIn.nil
      exact AllReadyIn.nil
     exact AllReadyIn.nil
    refine AllReadyIn.cons rfl (fun K hK=>?_) ?_
    ·have HK:=ae hK
     clear hK;go_simp
     refine HK.o _ _ ?_;clear HK K;try simp only[Act.put,jey,jew,jex]
     refine wpAnyIn_ready (rs:=[0,2]) (by kernel_rfl) (by simp) ?_;refine AllReadyIn.cons rfl (fun K hK=>?_) ?_
     ·have HK:=ae hK
      clear hK;go_simp
      refine HK.o _ _ ?_;clear HK K;try simp only[Act.put,jey,jew,jex]
      refine wpAnyIn_ready (rs:=[2]) (by kernel_rfl) (by simp) ?_;refine AllReadyIn.cons rfl (fun K hK=>?_) ?_
      ·have HK:=ae hK
       clear hK;go_simp
       refine⟨trivial,?_⟩;refine(CallsIn.inRound l (callsIn_wide.2 (jcK.o wc.drew _ _ (OwnV.kept jcN.o (ar (jej wc.heap.size wc) 1))))).mono ?_;rintro e w4 ⟨rfl,hb4'⟩;have bG:Below wc.heap.size wc w4:=(ar (jej wc.heap.size wc) 1).trans hb4';obtain⟨⟨q1,q2⟩,⟨q3,q4⟩⟩:=(jo.o.kept bG).cells;have cp:=ae bG;clear bG hb4';dsimp only
       refine HK.o _ _ ?_;clear HK K;try simp only[Act.put,jey,jew,jex]
       refine wpAnyIn_ready (rs:=[3]) (by kernel_rfl) (by simp) ?_;refine AllReadyIn.cons rfl (fun K hK=>?_) ?_
       ·have HK:=ae hK
        clear hK;go_simp
        refine⟨trivial,?_⟩;refine(CallsIn.inRound l (callsIn_wide.2 (VV.o w4))).mono ?_;rintro e w5 ⟨⟨v5,rfl,o5⟩,hb5'⟩;have bD:Below wc.heap.size wc w5:=ai cp.o hb5';obtain⟨⟨q1,q2⟩,⟨q3,q4⟩⟩:=(jo.o.kept bD).cells;have df:=ae o5;have aQ:=ae bD;clear o5 bD hb5';dsimp only
        refine HK.o _ _ ?_;clear HK K;try simp only[Act.put,jey,jew,jex]
        refine wpAnyIn_ready (rs:=[4]) (by kernel_rfl) (by simp) ?_;refine AllReadyIn.cons rfl (fun K hK=>?_) ?_
        ·have HK:=ae hK
         clear hK;rw[jei (by rfl)];refine dp _ _ rfl A.heap.size _ _ M3 SB rfl (jo.o.kept aQ.o).2.2.2.2.1 rfl df.o.sv t6 (by omega) (jet pB.o.size aQ.o.size) ?_;intro v6 w6 o6 g6 e6;obtain⟨a6,cap6,pw,_,_⟩:=aO o6;rw[jem]at pw;subst pw;obtain⟨⟨f1,f2⟩,iK,iL⟩:=(jo.o.kept aQ.o).swap.app (jet pB.o.size aQ.o.size) o6 g6 e6;have wm:=ae iK.swap;have Db:=ae iL;have kS:=ae g6;clear o6 g6 e6 iK iL;refine HK.o _ _ ?_;clear HK K;try simp only[Act.put,jey,jew,jex]
         refine wpAnyIn_ready (rs:=[5]) (by kernel_rfl) (by simp) ?_;refine AllReadyIn.cons rfl (fun K hK=>?_) ?_
         ·have HK:=ae hK
          clear hK;go_simp
          refine HK.o _ _ ?_;clear HK K;try simp only[Act.put,jey,jew,jex]
          refine wpAnyIn_done (by kernel_rfl) ?_ _;gi_wp2
          go_roundw
          case rel =>
           have qA:k+1<=fs.length:=aB;have kQ:Value.int .i64 ((k:Int)+1)=Value.int .i64 ((k+1:Nat):Int):=by simp
           exact⟨k+1,_,_,qA,kQ,pU.o _ _ _ wm.o,⟨(jo.o.kept aQ.o).swap.other kS.o ((aQ.o.block _ py.o.1.lt).trans py.o.1) (by decide) (by decide),(jo.o.kept aQ.o).swap.other kS.o ((aQ.o.block _ py.o.2.lt).trans py.o.2) (by decide) (by decide)⟩,(Zl.o.trans (ep aQ.o)).trans ((jo.o.kept aQ.o).swap.keeps kS.o),(pB.o.trans (aQ.o.mono pB.o.size)).trans Db.o⟩
          case measure=>exact HME.o
         exact AllReadyIn.nil
        exact AllReadyIn.nil
       exact AllReadyIn.nil
      exact AllReadyIn.nil
     refine AllReadyIn.cons rfl (fun K hK=>?_) ?_
     ·have HK:=ae hK
      clear hK;go_simp
      refine⟨trivial,?_⟩;refine(CallsIn.inRound l (callsIn_wide.2 (jcK.o wc.drew _ _ (OwnV.kept jcN.o (ar (jej wc.heap.size wc) 1))))).mono ?_;rintro e w4 ⟨rfl,hb4'⟩;have bG:Below wc.heap.size wc w4:=(ar (jej wc.heap.size wc) 1).trans hb4';obtain⟨⟨q1,q2⟩,⟨q3,q4⟩⟩:=(jo.o.kept bG).cells;have cp:=ae bG;clear bG hb4';dsimp only
      refine HK.o _ _ ?_;clear HK K;try simp only[Act.put,jey,jew,jex]
      refine wpAnyIn_ready (rs:=[0,3]) (by kernel_rfl) (by simp) ?_;refine AllReadyIn.cons rfl (fun K hK=>?_) ?_
      ·have HK:=ae hK
       clear hK;go_simp
       refine HK.o _ _ ?_;clear HK K;try simp only[Act.put,jey,jew,jex]
       refine wpAnyIn_ready (rs:=[3]) (by kernel_rfl) (by simp) ?_;refine AllReadyIn.cons rfl (fun K hK=>?_) ?_
       ·have HK:=ae hK
        clear hK;go_simp
        refine⟨trivial,?_⟩;refine(CallsIn.inRound l (callsIn_wide.2 (VV.o w4))).mono ?_;rintro e w5 ⟨⟨v5,rfl,o5⟩,hb5'⟩;have bD:Below wc.heap.size wc w5:=ai cp.o hb5';obtain⟨⟨q1,q2⟩,⟨q3,q4⟩⟩:=(jo.o.kept bD).cells;have df:=ae o5;have aQ:=ae bD;clear o5 bD hb5';dsimp only
        refine HK.o _ _ ?_;clear HK K;try simp only[Act.put,jey,jew,jex]
        refine wpAnyIn_ready (rs:=[4]) (by kernel_rfl) (by simp) ?_;refine AllReadyIn.cons rfl (fun K hK=>?_) ?_
        ·have HK:=ae hK
         clear hK;rw[jei (by rfl)];refine dp _ _ rfl A.heap.size _ _ M3 SB rfl (jo.o.kept aQ.o).2.2.2.2.1 rfl df.o.sv t6 (by omega) (jet pB.o.size aQ.o.size) ?_;intro v6 w6 o6 g6 e6;obtain⟨a6,cap6,pw,_,_⟩:=aO o6;rw[jem]at pw;subst pw;obtain⟨⟨f1,f2⟩,iK,iL⟩:=(jo.o.kept aQ.o).swap.app (jet pB.o.size aQ.o.size) o6 g6 e6;have wm:=ae iK.swap;have Db:=ae iL;have kS:=ae g6;clear o6 g6 e6 iK iL;refine HK.o _ _ ?_;clear HK K;try simp only[Act.put,jey,jew,jex]
         refine wpAnyIn_ready (rs:=[5]) (by kernel_rfl) (by simp) ?_;refine AllReadyIn.cons rfl (fun K hK=>?_) ?_
         ·have HK:=ae hK
          clear hK;go_simp
          refine HK.o _ _ ?_;clear HK K;try simp only[Act.put,jey,jew,jex]
          refine wpAnyIn_done (by kernel_rfl) ?_ _;gi_wp2
          go_roundw
          case rel =>
           have qA:k+1<=fs.length:=aB;have kQ:Value.int .i64 ((k:Int)+1)=Value.int .i64 ((k+1:Nat):Int):=by simp
           exact⟨k+1,_,_,qA,kQ,pU.o _ _ _ wm.o,⟨(jo.o.kept aQ.o).swap.other kS.o ((aQ.o.block _ py.o.1.lt).trans py.o.1) (by decide) (by decide),(jo.o.kept aQ.o).swap.other kS.o ((aQ.o.block _ py.o.2.lt).trans py.o.2) (by decide) (by decide)⟩,(Zl.o.trans (ep aQ.o)).trans ((jo.o.kept aQ.o).swap.keeps kS.o),(pB.o.trans (aQ.o.mono pB.o.size)).trans Db.o⟩
          case measure=>exact HME.o
         exact AllReadyIn.nil
        exact AllReadyIn.nil
       exact AllReadyIn.nil
      refine AllReadyIn.cons rfl (fun K hK=>?_) ?_
      ·have HK:=ae hK
       clear hK;go_simp
       refine⟨trivial,?_⟩;refine(CallsIn.inRound l (callsIn_wide.2 (VV.o w4))).mono ?_;rintro e w5 ⟨⟨v5,rfl,o5⟩,hb5'⟩;have bD:Below wc.heap.size wc w5:=ai cp.o hb5';obtain⟨⟨q1,q2⟩,⟨q3,q4⟩⟩:=(jo.o.kept bD).cells;have df:=ae o5;have aQ:=ae bD;clear o5 bD hb5';dsimp only
       refine HK.o _ _ ?_;clear HK K;try simp only[Act.put,jey,jew,jex]
       refine wpAnyIn_ready (rs:=[0]) (by kernel_rfl) (by simp) ?_;refine AllReadyIn.cons rfl (fun K hK=>?_) ?_
       ·have HK:=ae hK
        clear hK;go_simp
        refine HK.o _ _ ?_;clear HK K;try simp only[Act.put,jey,jew,jex]
        refine wpAnyIn_ready (rs:=[4]) (by kernel_rfl) (by simp) ?_;refine AllReadyIn.cons rfl (fun K hK=>?_) ?_
        ·have HK:=ae hK
         clear hK;rw[jei (by rfl)];refine dp _ _ rfl A.heap.size _ _ M3 SB rfl (jo.o.kept aQ.o).2.2.2.2.1 rfl df.o.sv t6 (by omega) (jet pB.o.size aQ.o.size) ?_;intro v6 w6 o6 g6 e6;obtain⟨a6,cap6,pw,_,_⟩:=aO o6;rw[jem]at pw;subst pw;obtain⟨⟨f1,f2⟩,iK,iL⟩:=(jo.o.kept aQ.o).swap.app (jet pB.o.size aQ.o.size) o6 g6 e6;have wm:=ae iK.swap;have Db:=ae iL;have kS:=ae g6;clear o6 g6 e6 iK iL;refine HK.o _ _ ?_;clear HK K;try simp only[Act.put,jey,jew,jex]
         refine wpAnyIn_ready (rs:=[5]) (by kernel_rfl) (by simp) ?_;refine AllReadyIn.cons rfl (fun K hK=>?_) ?_
         ·have HK:=ae hK
          clear hK;go_simp
          refine HK.o _ _ ?_;clear HK K;try simp only[Act.put,jey,jew,jex]
          refine wpAnyIn_done (by kernel_rfl) ?_ _;gi_wp2
          go_roundw
          case rel =>
           have qA:k+1<=fs.length:=aB;have kQ:Value.int .i64 ((k:Int)+1)=Value.int .i64 ((k+1:Nat):Int):=by simp
           exact⟨k+1,_,_,qA,kQ,pU.o _ _ _ wm.o,⟨(jo.o.kept aQ.o).swap.other kS.o ((aQ.o.block _ py.o.1.lt).trans py.o.1) (by decide) (by decide),(jo.o.kept aQ.o).swap.other kS.o ((aQ.o.block _ py.o.2.lt).trans py.o.2) (by decide) (by decide)⟩,(Zl.o.trans (ep aQ.o)).trans ((jo.o.kept aQ.o).swap.keeps kS.o),(pB.o.trans (aQ.o.mono pB.o.size)).trans Db.o⟩
          case measure=>exact HME.o
         exact AllReadyIn.nil
        exact AllReadyIn.nil
       exact AllReadyIn.nil
      exact AllReadyIn.nil
     exact AllReadyIn.nil
    exact AllReadyIn.nil
   ·obtain rfl:k=fs.length:=by omega
    have gi:¬ ((fs.length:Nat):Int)<(fs.length:Int):=(by omega);gi_wp2
    refine⟨HKOr.o,⟨(show _=_ from HPQr.o.1).trans (show _=_ from HPQ.o.1).symm,(show _=_ from HPQr.o.2).trans (show _=_ from HPQ.o.2).symm⟩,⟨⟨u1,u2,?_⟩,HPQr.o.1,HPQr.o.2⟩,HBAr.o⟩;have h9:=HBXr.o;rw[← HZ1.o,← MB.o]at h9;exact h9
 case done =>
  rintro D ys W hD rfl ⟨⟨⟨v1,v2,Dc⟩,WK,vP⟩,Ba⟩ hK
  have hG1:([67,70,49]++(List.range (nps g rs.length)).flatMap fun j=>eU fs (prt g rs j) fs.length).length<=50000000:=by
   have h1:=iH (m:=172800) (fun j=>jet (mu (fun k kQ=>fq (dq.part g j) hk (by rw[cm];omega) kQ) (jek _)).1 (by omega)) (List.range (nps g rs.length));have h2:=kr (n:=rs.length) eZ nD;rw[jf7]at h1;rw[jem];simp only[jer,jeL];have:172800*nps g rs.length<=172800*256:=jfm _ h2;omega
  have hG2:(F2++(List.range (nps g rs.length)).flatMap fun j=>ftK fs (prt g rs j) fs.length).length<=500000:=by
   have h1:=iH (m:=1360) (fun j=>jet (pj (dq.part g j) (by rw[cm];omega) (fun k kQ=>fq (dq.part g j) hk (by rw[cm];omega) kQ) (jek _)).1 (by omega)) (List.range (nps g rs.length));have h2:=kr (n:=rs.length) eZ nD;rw[jf7]at h1;rw[jem];have:1360*nps g rs.length<=1360*256:=jfm _ h2;omega
  have hG3:0<(F2++(List.range (nps g rs.length)).flatMap fun j=>ftK fs (prt g rs j) fs.length).length:=by
   rw[← hF2,← hF1];simp only[jem];omega
  have CW:jgf (dy id fs rs g=([67,70,49]++(List.range (nps g rs.length)).flatMap fun j=>eU fs (prt g rs j) fs.length)++(F2++(List.range (nps g rs.length)).flatMap fun j=>ftK fs (prt g rs j) fs.length)++le4 (F2++(List.range (nps g rs.length)).flatMap fun j=>ftK fs (prt g rs j) fs.length).length):=ae (by
   unfold dy mn gm;rw[← hF2,← hF1,HE0.o,HE1.o,HE2.o];simp only[jez];rfl)
  generalize ([67,70,49]++(List.range (nps g rs.length)).flatMap fun j=>eU fs (prt g rs j) fs.length)=G1 at *;generalize (F2++(List.range (nps g rs.length)).flatMap fun j=>ftK fs (prt g rs j) fs.length)=G2 at *;obtain⟨⟨q1,q2⟩,⟨q3,q4⟩⟩:=Dc.cells;obtain⟨a8,cap8,rfl⟩:=Dc.2.2.2.1.slice;obtain⟨a9,cap9,rfl⟩:=Dc.2.2.2.2.1.slice;have mz:=ae Dc;have fx:=ae Ba;have HK:=ae hK;have HL4:=ae (Px G2.length (by omega));clear Dc Ba hK WK vP;go_wp2_with (first | (at_builtin;refine jS rfl _ _ rfl A.heap.size _ _ G1 G2 rfl mz.o.2.2.2.1 rfl mz.o.2.2.2.2.1.sv hG3 ?n1 ?n2 ?_))
  case n1=>omega
  case n2=>exact fx.o.size
  intro v10 w10 o10 g10 e10;obtain⟨a10,cap10,hv10,_,_⟩:=aO o10;subst hv10;obtain⟨⟨f1,f2⟩,VY,jax⟩:=mz.o.app fx.o.size o10 g10 e10;have hk10:=mz.o.keeps (v':=.slice a10 (G1++G2).length cap10) g10;have QO:=ae VY;have vR:=ae (fx.o.trans jax);have HK10:=ae (hk10.same D _ HK.o rfl);have hG12:(G1++G2).length<=50500000:=by rw[jem];omega
  generalize hGG:G1++G2=GG at *;clear o10 g10 e10 jax hk10 mz fx HK q1 q2 q3 q4;obtain⟨⟨q1,q2⟩,⟨q3,q4⟩⟩:=VY.cells;clear VY;go_wp2_with fail;generalize hV:w10.setCell ⟨Bb,0,none⟩ (.slice a10 GG.length cap10)=V at *;clear hV f1 f2
  have HC9:jgf (∀ U,Below V.heap.size V U->Calls Tryz.prog 85 #[.int .i64 (G2.length:Int)] U fun e w'=>∃ v,e=.returned v/\Sv w' v (aF .u8 (le4 G2.length))/\Below V.heap.size V w'/\w'.cell? ⟨Bb,0,none⟩=some (.slice a10 GG.length cap10)/\w'.cell? ⟨Bf,0,none⟩=some (.slice a9 G2.length cap9)):=ae (fun U hU=>by
   refine(HL4.o U).mono ?_;rintro e w' ⟨⟨v,rfl,ho⟩,hb⟩;have h9:=(QO.o.kept (ai hU hb)).cells;exact⟨v,rfl,ho.sv,ai hU hb,h9.1.1,h9.2.1⟩)
  have hL4:0<(le4 G2.length).length:=by simp[le4]
  have hL4':(le4 G2.length).length=4:=by simp[le4]
  generalize le4 G2.length=LL at *;refine wp_region_noPanic ?_
  go_region_law (first
   | (refine lJ (by rfl) _ _ (by rfl) A.heap.size _ _ GG LL (by rfl) ?_ (by rfl) df.o hL4 ?_ ?_ ?_;exact(QO.o.kept aQ.o).2.2.2.1;omega;exact jet vR.o.size aQ.o.size;intro v6 w6 o6 g6 e6;have my:=ae o6;have HK6:=ae ((QO.o.kept aQ.o).2.2.2.1.deferred g6 (PB aQ.o HK10.o) rfl);have gW:=ae ((vR.o.trans (aQ.o.mono vR.o.size)).trans ((QO.o.kept aQ.o).2.2.2.1.below g6 (jet vR.o.size aQ.o.size)));clear o6 g6 e6)
   | (go_simp;go_at_call 85;refine(HC9.o _ ?_).mono ?_;exact ar (jej V.heap.size V) 1;rintro e w5 ⟨v5,rfl,fD,bD,hc5,hc6⟩;have df:=ae fD;have aQ:=ae bD;clear fD bD;dsimp only)
   | fail)
  all_goals refine NoPanic.normal ?_
  all_goals go_wp2_with fail
  all_goals refine⟨by simp,.inl ⟨_,_,rfl,run_takeDeferred HK6.o,?_⟩⟩
  all_goals refine⟨_,results_tmp rfl _ _ _,⟨_,rfl,?_⟩,?_⟩
  all_goals first
   | exact ai ce.o (gW.o.trans (belowK_b (w:=Z) hAZs _ D _ _ hD HK6.o rfl rfl))
   | (rw[CW.o];exact bg (ownsRow_putObj my.o _ HK6.o rfl) ce.o.size)
 case stop =>
  rintro D c pre W _ _ h _;exact h.elim
theorem Kf(f:Fd){c:Cl}(hc:aT c)(w:World):Calls Tryz.prog 117 #[qk f,da c] w fun e w'=>e=.returned (.int .i64 (qK f c:Int))/\Below w.heap.size w w':=by
 have HV:=ae (lS hc.val);obtain⟨i,n,k,nd⟩:=f;unfold qk;simp only;have Rn:∀ w,(binOp .eql 78 .nilIface .nilIface).run Tryz.prog w=.ok (.bool true) w:=fun w=>by kernel_rfl
 have sN:∀ t v w,(binOp .eql 78 (.iface t v) .nilIface).run Tryz.prog w=.ok (.bool false) w:=fun t v w=>by kernel_rfl
 have HM:jgf (qK (i,n,k,nd) c=if c.1=0 then (if nd=true then 82 else 0) else if c.1≠k then 10 else if 64<c.2.2.length then 5 else 0):=ae rfl;generalize qK (i,n,k,nd) c=R at *;have ce:=ae (ak w (.cells #[.int .u32 (i:Int),.string n,.int .u8 (k:Int),.bool nd] 81));obtain⟨c0,c1,c2,c3⟩:=jg w (.int .u32 (i:Int)) (.string n) (.int .u8 (k:Int)) (.bool nd) 81;have hz:w.heap.size<(w.alloc (.cells #[.int .u32 (i:Int),.string n,.int .u8 (k:Int),.bool nd] 81)).heap.size:=by rw[jel];omega
 generalize hW:w.alloc (.cells #[.int .u32 (i:Int),.string n,.int .u8 (k:Int),.bool nd] 81)=W at *;have hs:=bi c.2.2;generalize hS:am c.2.2=S at *
 have bR:(S.size:Int)<=64:=by
  rcases hc with rfl | ⟨m,rfl,_⟩ | ⟨m,rfl,_⟩ | ⟨m,rfl,h,_⟩
  ·rw[hs];decide
  ·rw[hs];simp
  ·rw[hs];simp
  ·rw[hs];simp only;omega
 have jay:¬ 64<c.2.2.length:=by omega
 have hvf:c.1=0/\da c=.nilIface∨c.1≠0/\∃ t u,da c=.iface t u:=by
  by_cases h0:c.1=0
  ·exact Or.inl ⟨h0,oP c h0⟩
  ·exact Or.inr ⟨h0,kj c h0⟩
 generalize c.2.1=cn at *;generalize c.2.2.length=cl at *;clear hS hs hc;generalize c.1=ck at *;generalize da c=vc at *;rcases hvf with ⟨rfl,rfl⟩ | ⟨h0,t,u,rfl⟩
 ·rw[jei rfl]at HM
  go_enter Tryz.func117,Tryz.ntmps117
  go_wp2_with fail;try rw[hW]
  clear hW;refine(HV.o _).mono ?_;rintro e w1 ⟨rfl,aH⟩;have d3:=(aH.cell (p:=⟨w.heap.size,3,none⟩) hz).trans c3;have aP:=ae (ai ce.o aH);have cK:=aH.size;have yn:w.heap.size<w1.heap.size:=by omega
  clear aH c0 c1 c2 c3;cases nd
  ·rw[jeh (by simp)]at HM
   go_wp2_with fail;go_ret
   rw[HM.o];exact⟨rfl,aP.o.alloc aP.o.size _⟩
  ·rw[jei rfl]at HM
   go_wp2_with fail;go_ret
   rw[HM.o];exact⟨rfl,aP.o.alloc aP.o.size _⟩
 ·rw[jeh h0]at HM
  go_enter Tryz.func117,Tryz.ntmps117
  go_wp2_with fail;try rw[hW]
  clear hW;refine(HV.o _).mono ?_;rintro e w1 ⟨rfl,aH⟩;have d2:=(aH.cell (p:=⟨w.heap.size,2,none⟩) hz).trans c2;have aP:=ae (ai ce.o aH);have cK:=aH.size;have yn:w.heap.size<w1.heap.size:=by omega
  clear aH c0 c1 c2 c3;by_cases hk:ck=k
  ·subst hk
   rw[jeh (by simp),jeh jay]at HM;go_wp2_with fail;go_ret
   rw[HM.o];exact⟨rfl,aP.o.alloc aP.o.size _⟩
  ·rw[jei hk]at HM
   have hk':((ck:Int) != (k:Int))=true:=by simp;omega
   clear hk;go_wp2_with fail;go_ret
   rw[HM.o];exact⟨rfl,aP.o.alloc aP.o.size _⟩
theorem Yi{w:World}{v rv:Value}{l:List Fd}{r:List Cl}(hs:Sf w v l)(hr:Sv w rv (aJ r))(hf:∀ c∈r,aT c)(si:Nat):Calls Tryz.prog 78 #[.agg #[.int .u32 (si:Int),v],rv] w fun e w'=>e=.returned (.int .i64 (iO l r:Int))/\Below w.heap.size w w':=by
 obtain⟨a,cap,rfl,aW,bC⟩:=hs.form;obtain⟨ra,rcap,rfl,VC,VD⟩:=hr.form1;rw[aG]at *;have hrcm':rcap<=9223372036854775807:=by unfold maxLen at VD;omega
 have dL:=ak w (.cells #[.int .u32 (si:Int),.slice a l.length cap] 25);have ce:=ae dL;have HS:=ae (hs.kept dL);have HR:=ae (hr.kept dL);have GL:=ae hf;obtain⟨c0,c1⟩:=bx w (.int .u32 (si:Int)) (.slice a l.length cap) 25;have hz:w.heap.size<(w.alloc (.cells #[.int .u32 (si:Int),.slice a l.length cap] 25)).heap.size:=by rw[jel];omega
 clear hs hr hf dL VD;generalize hW:w.alloc (.cells #[.int .u32 (si:Int),.slice a l.length cap] 25)=W at *;by_cases fJ:r.length≠l.length
 ·have HM:jgf (iO l r=1):=ae (jei fJ)
  have hne':((r.length:Int) != (l.length:Int))=true:=by simp only[bne_iff_ne];omega
  clear fJ;go_enter Tryz.func78,Tryz.ntmps78
  go_wp2_with fail;go_ret
  rw[HM.o];refine⟨rfl,?_⟩;first | exact ce.o | (rw[hW];exact ce.o)
 ·have nD:r.length=l.length:=by omega
  have HM:jgf (iO l r=qL (l.drop 0) (r.drop 0)):=ae (jeh fJ);have Vt:=ae nD;rw[nD]at VC HR ⊢;generalize iO l r=R at *;clear fJ nD;go_enter Tryz.func78,Tryz.ntmps78
  go_wp2_with fail;try rw[hW]
  clear hW;go_loopw [17] (fun i wr=>∃ k:Nat,k<=l.length/\i=.int .i64 (k:Int)/\R=qL (l.drop k) (r.drop k)/\Below W.heap.size W wr) (fun i _=>l.length-(intOf i).toNat)
  case atStart=>exact⟨0,by omega,rfl,HM.o,jej _ _⟩
  case round =>
   obtain⟨k,hk,rfl,kT,az⟩:=hrel;have HF:=ae kT;have HB:=ae az;have bH:=az.size;clear kT az HM;by_cases aB:k<l.length
   ·obtain⟨b,off,rfl,hb,x0,x1,x2,x3⟩:=(HS.o.kept HB.o).at aB
    have Qz:k<r.length:=by have:=Vt.o;omega
    obtain⟨rb,roff,rfl,hrb,hrc⟩:=(HR.o.kept HB.o).at1 (cQ Qz);have HT:=ae (HF.o.trans (zB aB Qz));have hlt':(k:Int)<(l.length:Int):=(by omega);have jco:(0:Int)<=(k:Int):=(by omega);have HMF:=ae (Kf l[k] (GL.o r[k] (jeo Qz)));generalize qK l[k] r[k]=Q at *;generalize YN:da r[k]=vr at *
    have hvf:vr=.nilIface∨∃ t u,vr=.iface t u:=by
     rw[← YN];by_cases h0:r[k].1=0
     ·exact Or.inl (oP _ h0)
     ·exact Or.inr (kj _ h0)
    clear YN;generalize l[k]=f at *;obtain⟨f0,f1,f2,f3⟩:=f;unfold qk at HMF;simp only at *;have qJ:=ak wr (.cells #[.int .u32 (f0:Int),.string f1,.int .u8 (f2:Int),.bool f3] 81);have hrc':=(qJ.cell (p:=⟨rb,roff+k,none⟩) hrb).trans hrc;obtain⟨g0,g1,g2,g3⟩:=jg wr (.int .u32 (f0:Int)) (.string f1) (.int .u8 (f2:Int)) (.bool f3) 81;have aN:=ae (HB.o.trans (qJ.mono bH));have jG:(wr.alloc (.cells #[.int .u32 (f0:Int),.string f1,.int .u8 (f2:Int),.bool f3] 81)).heap.size=wr.heap.size+1:=jel _ _;clear qJ;rcases hvf with rfl | ⟨vt,vu,rfl⟩
    all_goals
     go_wp2_with fail;generalize hV:wr.alloc (.cells #[.int .u32 (f0:Int),.string f1,.int .u8 (f2:Int),.bool f3] 81)=V at *;clear hV x0 x1 x2 x3 hrc;have et:jgf (∀ U W',Below V.heap.size V U->Below U.heap.size U W'->Below W.heap.size W W'):=ae (fun U W' h1 h2=>ai aN.o (ai h1 h2));go_region_with (first | (go_at_call 117;refine(HMF.o _).mono ?_;rintro e w2 ⟨rfl,aE⟩))
     all_goals
      have fX:=ae (et.o _ _ (by first | exact(jej _ _).drew | exact ar (jej _ _) _ | exact jej _ _) aE);clear aE hrc' g0 g1 g2 g3 c0 c1;by_cases hQ:Q=0
      ·rw[jei hQ]at HT
       subst hQ;go_wp2_with fail;go_roundw
       case rel=>exact⟨k+1,by omega,by go_num,HT.o,fX.o⟩
       case measure=>simp[intOf];omega
      ·rw[jeh hQ]at HT
       have hQ':((Q:Int) != 0)=true:=by simp[hQ]
       clear hQ;go_wp2_with fail;go_ret
       rw[HT.o];exact⟨rfl,ai ce.o fX.o⟩
   ·obtain rfl:k=l.length:=by omega
    have gi:¬ ((l.length:Nat):Int)<(l.length:Int):=(by omega);have HT:=ae (HF.o.trans (Du l _));clear HF;go_wp2_with fail;go_ret
    rw[HT.o];exact⟨rfl,ai ce.o HB.o⟩
end Go.Proofs.YtpljdjmpamjkhaaGreatDoor
