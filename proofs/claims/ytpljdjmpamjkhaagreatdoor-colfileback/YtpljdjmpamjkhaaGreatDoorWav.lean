import Derived.Test.YtpljdjmpamjkhaaGreatDoorWau
set_option linter.unusedVariables false
set_option linter.unusedSimpArgs false
set_option maxRecDepth 100000
set_option maxHeartbeats 8000000
namespace Go.Proofs.YtpljdjmpamjkhaaGreatDoor
open Go.RowKit Go.Lib
def Sch(w:World)(p:Nat)(W:World)(b:List Nat)(f:Nat)(x0 x1:Value):Prop :=
 St 200 W p b f/\p<w.heap.size/\W.heap[w.heap.size]?=some (.cells #[.int .u32 0,.slice none 0 0] 25 (0,0)) /\
 W.heap[w.heap.size+1]?=some (.cells #[x0,x1] 25 (0,0))/\Fr p w.heap.size w W
theorem Sch.begin{w:World}{p f:Nat}{b:List Nat}(h:St 200 w p b f) :
  Sch w p ((w.alloc (.cells #[.int .u32 0,.slice none 0 0] 25)).alloc (.cells #[.int .u32 0,.slice none 0 0] 25)) b f (.int .u32 0) (.slice none 0 0):=by
 have hbW:=((Yz w.heap.size w).alloc (YA _) (.cells #[.int .u32 0,.slice none 0 0] 25)).alloc (by rw[YB];omega) (.cells #[.int .u32 0,.slice none 0 0] 25);have bN:(w.alloc (.cells #[.int .u32 0,.slice none 0 0] 25)).heap.size=w.heap.size+1:=YB _ _;have aA:=aj (w.alloc (.cells #[.int .u32 0,.slice none 0 0] 25)) (.cells #[.int .u32 0,.slice none 0 0] 25);have hh0:=Zb w (.cells #[.int .u32 0,.slice none 0 0] 25);have hh:=Zb (w.alloc (.cells #[.int .u32 0,.slice none 0 0] 25)) (.cells #[.int .u32 0,.slice none 0 0] 25);rw[bN]at hh;exact⟨h.kept hbW h.lt,h.lt,(aA.block w.heap.size (by omega)).trans hh0,hh,Fr.of_below hbW⟩
theorem Sch.call{w W W':World}{p f f':Nat}{b b':List Nat}{x0 x1:Value}(h:Sch w p W b f x0 x1)(hs:St 200 W' p b' f')(hf:Fr p W.heap.size W W'):Sch w p W' b' f' x0 x1:=by
 obtain⟨h1,h2,h3,h4,h5⟩:=h;have l3:=(Array.getElem?_eq_some_iff.1 h3).1;have l4:=(Array.getElem?_eq_some_iff.1 h4).1;exact⟨hs,h2,(hf.block _ l3 (by omega)).trans h3,(hf.block _ l4 (by omega)).trans h4,h5.trans (hf.mono (by omega))⟩
theorem Sch.size{w W:World}{p f:Nat}{b:List Nat}{x0 x1:Value}(h:Sch w p W b f x0 x1):w.heap.size+2<=W.heap.size:=(Array.getElem?_eq_some_iff.1 h.2.2.2.1).1
theorem Sch.kept{w W W':World}{p f:Nat}{b:List Nat}{x0 x1:Value}(h:Sch w p W b f x0 x1)(hb:Below (w.heap.size+2) W W'):Sch w p W' b f x0 x1:=by
 obtain⟨h1,h2,h3,h4,h5⟩:=h;exact⟨h1.kept hb (by omega),h2,(hb.block _ (by omega)).trans h3,(hb.block _ (by omega)).trans h4,h5.then (hb.mono (by omega))⟩
theorem Sch.facts{w W:World}{p f:Nat}{b:List Nat}{x0 x1:Value}(h:Sch w p W b f x0 x1) :
  (W.cell? ⟨w.heap.size+1,0,none⟩=some x0/\W.cell? ⟨w.heap.size+1,1,none⟩=some x1) /\
  (W.frozen? ⟨w.heap.size+1,0,none⟩=false/\W.frozen? ⟨w.heap.size+1,1,none⟩=false) /\
  (W.cell? ⟨w.heap.size,0,none⟩=some (.int .u32 0)/\W.cell? ⟨w.heap.size,1,none⟩=some (.slice none 0 0)) /\
  (W.frozen? ⟨w.heap.size,0,none⟩=false/\W.frozen? ⟨w.heap.size,1,none⟩=false):=by
 obtain⟨h1,h2,h3,h4,h5⟩:=h;refine⟨⟨?_,?_⟩,⟨?_,?_⟩,⟨?_,?_⟩,⟨?_,?_⟩⟩<;>first | (rw[an h4];rfl) | (rw[an h3];rfl) | (simp[World.frozen?,h4];done) | (simp[World.frozen?,h3];done)
theorem Sch.keep{w W:World}{p f:Nat}{b:List Nat}{x0 x1:Value}(h:Sch w p W b f x0 x1)(j:Nat)(v:Value) :
  St 200 (W.setCell ⟨w.heap.size+1,j,none⟩ v) p b f/\(W.setCell ⟨w.heap.size+1,j,none⟩ v).heap[w.heap.size]?=some (.cells #[.int .u32 0,.slice none 0 0] 25 (0,0))/\Fr p w.heap.size w (W.setCell ⟨w.heap.size+1,j,none⟩ v):=by
 obtain⟨h1,h2,h3,h4,h5⟩:=h;have hb:Below (w.heap.size+1) W (W.setCell ⟨w.heap.size+1,j,none⟩ v):=(Yz (w.heap.size+1) W).setCell (show w.heap.size+1<=w.heap.size+1 from YA _) _;exact⟨h1.kept hb (by omega),(hb.block _ (by omega)).trans h3,h5.then (hb.mono (by omega))⟩
theorem Sch.set0{w W:World}{p f:Nat}{b:List Nat}{x0 x1:Value}(h:Sch w p W b f x0 x1)(v:Value):Sch w p (W.setCell ⟨w.heap.size+1,0,none⟩ v) b f v x1 :=
 ⟨(h.keep 0 v).1,h.2.1,(h.keep 0 v).2.1,by rw[bY h.2.2.2.1];rfl,(h.keep 0 v).2.2⟩
theorem Sch.set1{w W:World}{p f:Nat}{b:List Nat}{x0 x1:Value}(h:Sch w p W b f x0 x1)(v:Value):Sch w p (W.setCell ⟨w.heap.size+1,1,none⟩ v) b f x0 v :=
 ⟨(h.keep 1 v).1,h.2.1,(h.keep 1 v).2.1,by rw[bY h.2.2.2.1];rfl,(h.keep 1 v).2.2⟩
theorem Sch.done{w W:World}{p f:Nat}{b:List Nat}{x0 x1:Value}(h:Sch w p W b f x0 x1)(y0 y1:Value) :
  St 200 ((W.setCell ⟨w.heap.size,0,none⟩ y0).setCell ⟨w.heap.size,1,none⟩ y1) p b f/\Fr p w.heap.size w ((W.setCell ⟨w.heap.size,0,none⟩ y0).setCell ⟨w.heap.size,1,none⟩ y1):=by
 obtain⟨h1,h2,h3,h4,h5⟩:=h;have hb:=nT (Yz w.heap.size W) (YA w.heap.size) y0 y1;exact⟨h1.kept hb h2,h5.then hb⟩
theorem uB{k:Nat}{b b1 b2:List Nat}{f f1 f2:Nat}{x:List Fd}{y:Fd}(h1:Rds (jP k) b f x b1 f1)(h2:Rds su b1 f1 y b2 f2):Rds (jP (k+1)) b f (x++[y]) b2 f2 :=
 h1.bind (h2.bind (Rds.pure (x++[y]) b2 f2))
def Tk(p:Nat)(b:List Nat)(f:Nat)(w:World)(r:Ending)(w':World):Prop :=
 ∃(id:Nat) (l:List Fd) (v:Value) (b':List Nat) (f':Nat),r=.returned (.agg #[.int .u32 (id:Int),v])/\de w' w.heap.size v l/\id<4294967296/\l.length<=8/\(∀ y∈l,Okf y/\y.2.1.size<=16) /\
  St 200 w' p b' f'/\Rds zD b f (id,l) b' f'/\Fr p w.heap.size w w'
theorem Tl{b b1 b2 b3:List Nat}{f f1 f2 f3 i n:Nat}{l:List Fd}(h1:Rds (fY 4294967295) b f i b1 f1)(h2:Rds (fY 8) b1 f1 n b2 f2)(h3:Rds (jP n) b2 f2 l b3 f3):Rds zD b f (i,l) b3 f3 :=
 h1.bind (h2.bind (h3.bind (Rds.pure (i,l) b3 f3)))
theorem uC{w1:World}{B p:Nat}{v:Value}{l:List Fd}(h:de w1 B v l)(hp:p<B)(j:Nat)(x:Value):de (w1.setCell ⟨p,j,none⟩ x) B v l :=
 Fr.own ((Fr.refl p w1.heap.size w1).set j x) h hp
theorem EJ{w:World}{p f:Nat}{b:List Nat}(h:St 200 w p b f) :
  Calls Tryz.prog 139 #[.pointer (some ⟨p,0,none⟩)] w (Tk p b f w):=by
 have HM:=ae (Sch.begin h);have bN:(w.alloc (.cells #[.int .u32 0,.slice none 0 0] 25)).heap.size=w.heap.size+1:=YB _ _;clear h;generalize hW:(w.alloc (.cells #[.int .u32 0,.slice none 0 0] 25)).alloc (.cells #[.int .u32 0,.slice none 0 0] 25)=W at *;go_enter Tryz.func139,Tryz.ntmps139
 go_wp2_with fail;try rw[hW]
 clear hW bN;refine(gQ HM.o.1 4294967295 (by omega)).mono ?_;rintro e w1 ⟨i,b1,f1,rfl,hi,da,xB,cB⟩;have QH:=ae (HM.o.call da cB);have qf:=ae xB;have HI:=ae hi;have hi':i<4294967296:=by omega
 obtain⟨⟨c0,c1⟩,⟨z0,z1⟩,_,_⟩:=QH.o.facts;clear da xB cB hi HM;go_wp2_with fail;have KJ:=ae (QH.o.set0 (.int .u32 (i:Int)));clear QH c0 c1 z0 z1;generalize hX:w1.setCell ⟨w.heap.size+1,0,none⟩ (.int .u32 (i:Int))=X at *;try rw[hX]
 clear hX;refine(gQ KJ.o.1 8 (by omega)).mono ?_;rintro e w2 ⟨n,b2,f2,rfl,hn,cP,vO,cK⟩;have Xq:=ae (KJ.o.call cP cK);have jF:=ae vO;clear cP vO cK KJ;go_wp2_with fail;go_loopw [10] (fun i' wr=>∃(k:Nat) (x:List Fd) (bk:List Nat) (fk:Nat) (a:Option Addr) (cap:Nat),k<=n/\i'=.int .u64 (k:Int)/\Sch w p wr bk fk (.int .u32 (i:Int)) (.slice a k cap)/\de wr (w.heap.size+2) (.slice a k cap) x/\x.length=k/\(∀ y∈x,Okf y/\y.2.1.size<=16)/\Rds (jP k) b2 f2 x bk fk) (fun i' _=>n-(intOf i').toNat)
 case atStart=>exact⟨0,[],b2,f2,none,0,by omega,rfl,Xq.o,de.nil _ _,rfl,(fun _ h=>absurd h (by simp)),Rds.pure [] b2 f2⟩
 case round =>
  obtain⟨k,x,bk,fk,a,cap,hk,rfl,KW,aw,UG,iZ,hrk⟩:=hrel;have Uk:=ae KW;have HO:=ae aw;have Yq:=ae UG;have Lj:=ae iZ;have Xi:=ae hrk;clear aw UG iZ hrk;by_cases ar:k<n
  ·have hlt':(k:Int)<(n:Int):=by omega
   have hwk:IntKind.u64.wrap ((k:Int)+1)=((k+1:Nat):Int):=by rw[Zr];omega
   obtain⟨⟨c0,c1⟩,⟨z0,z1⟩,_,_⟩:=KW.facts;have uX:=ae KW.size;clear KW
   have mH:jaH (∀ m,Calls Tryz.prog 179 #[.pointer (some ⟨p,0,none⟩)] (wr.drewN m) fun e w'=>∃(y0:Nat) (y1:ByteArray) (y2:Nat) (y3:Bool) (b':List Nat) (f':Nat),e=.returned (.agg #[.int .u32 (y0:Int),.string y1,.int .u8 (y2:Int),.bool y3])/\(Okf (y0,y1,y2,y3)/\y1.size<=16)/\Sch w p w' b' f' (.int .u32 (i:Int)) (.slice a k cap)/\Rds su bk fk (y0,y1,y2,y3) b' f'/\de w' (w.heap.size+2) (.slice a k cap) x/\w.heap.size+2<=w'.heap.size/\w'.cell? ⟨w.heap.size+1,1,none⟩=some (.slice a k cap)/\(w'.alloc (.cells #[.int .u32 (y0:Int),.string y1,.int .u8 (y2:Int),.bool y3] 81)).cell? ⟨w.heap.size+1,1,none⟩=some (.slice a k cap)):=ae (fun m=>by
    have qb:Below wr.heap.size wr (wr.drewN m):=ak (Yz wr.heap.size wr) m;refine(Kf (Uk.o.1.kept qb Uk.o.1.lt)).mono ?_;rintro e w' ⟨⟨y0,y1,y2,y3⟩,b',f',rfl,hy,hs',hr',hf'⟩;have cK:Fr p wr.heap.size wr w':=(Fr.of_below qb).trans (hf'.mono qb.size);have hm:=Uk.o.call hs' cK;obtain⟨⟨d0,d1⟩,⟨e0,e1⟩,_,_⟩:=hm.facts;have Xj:=Uk.o.2.1;exact⟨y0,y1,y2,y3,b',f',rfl,hy,hm,hr',Fr.own cK HO.o (by omega),hm.size,d1,((aj w' _).cell (p:=⟨w.heap.size+1,1,none⟩) (by have:=hm.size;show w.heap.size+1<_;omega)).trans d1⟩)
   have HAP:jaH (∀ y b' f' w6 w7 v7,Sch w p w6 b' f' (.int .u32 (i:Int)) (.slice a k cap)->de w7 (w.heap.size+2) v7 (x++[y])->Below (w.heap.size+2) w6 w7->∃ a7 cap7,v7=.slice a7 (k+1) cap7/\Sch w p w7 b' f' (.int .u32 (i:Int)) (.slice a k cap)/\(w7.cell? ⟨w.heap.size+1,1,none⟩=some (.slice a k cap)/\w7.frozen? ⟨w.heap.size+1,1,none⟩=false)):=ae (fun y b' f' w6 w7 v7 hm o7 jK=>by
    obtain⟨a7,cap7,hv,_,_⟩:=aM o7;rw[YC,Zj,Yq.o]at hv;have QQ:=hm.kept jK;obtain⟨⟨d0,d1⟩,⟨e0,e1⟩,_,_⟩:=QQ.facts;exact⟨a7,cap7,hv,QQ,d1,e1⟩)
   have Gu:jaH (∀ y:Fd,x.length+[y].length<=100000):=ae (fun y=>by rw[Zj,Yq.o];omega);clear c0 z0 z1;go_wp2_with fail;refine wp_region_any (by kernel_rfl) ?_;change wpAny _ _ _ _ _ _ _ wr.drew
   refine wpAny_take (i := 0) (oi := { dst := some 12, op := Op.fieldAddr 25 (Operand.tmp 3) 1, type := 0, pos := "pack.go:64", after := #[], guard := none }) (v := ?_) rfl (by kernel_rfl) (by kernel_rfl) (by kernel_rfl) (fun _ _ _ h => h) (Or.inl ⟨by rfl, ?_⟩) ?_;rotate_left
   ·intro w9
    first | (go_simp;done) | (go_simp;with_reducible rfl)
   try simp only[Act.put,YM,YJ,YL]
   refine wpAny_take (i := 2) (oi := { dst := some 14, op := Op.move (Operand.tmp 0), type := 198, pos := "pack.go:64", after := #[], guard := none }) (v := ?_) rfl (by kernel_rfl) (by kernel_rfl) (by kernel_rfl) (fun _ _ _ h => h) (Or.inl ⟨by rfl, ?_⟩) ?_;rotate_left
   ·intro w9
    first | (go_simp;done) | (go_simp;with_reducible rfl)
   try simp only[Act.put,YM,YJ,YL]
   refine wpAny_ready (rs:=[1,3]) (by kernel_rfl) (by simp) ?_;refine AllReady.cons (o := { dst := some 13, op := Op.load 23 (Operand.tmp 12), type := 23, pos := "pack.go:64", after := #[{ on := 0, ground := Ground.data }], guard := none }) rfl (fun K hK => ?_) ?_
   ·have HK:=ae hK
    clear hK;go_simp
    refine HK.o _ _ ?_;clear HK K;try simp only[Act.put,YM,YJ,YL]
    refine wpAny_ready (rs:=[3]) (by kernel_rfl) (by simp) ?_;refine AllReady.cons (o := { dst := some 15, op := Op.call { callee := Callee.value (Operand.func 179), args := #[Operand.tmp 14], argTypes := #[198] }, type := 81, pos := "pack.go:64", after := #[{ on := 2, ground := Ground.data }], guard := none }) rfl (fun K hK => ?_) ?_
    ·have HK:=ae hK
     clear hK;go_simp
     refine(mH.o 1).mono ?_;rintro e w6 ⟨y0,y1,y2,y3,b6,f6,rfl,hy,hm6,QI,o6,uM,Rm,hkk2⟩;have HY:=ae hy;have Vh:=ae hm6;have CA:=ae QI;have oe:=ae o6;clear hy hm6 QI o6;go_wp2_with fail;refine HK.o _ _ ?_;clear HK K;try simp only[Act.put,YM,YJ,YL]
     refine wpAny_ready (rs:=[4]) (by kernel_rfl) (by simp) ?_;refine AllReady.cons (o := { dst := some 16, op := Op.buildSlice 23 1 #[(0, Operand.tmp 15)], type := 23, pos := "pack.go:64", after := #[{ on := 3, ground := Ground.data }], guard := none }) rfl (fun K hK => ?_) ?_
     ·have HK:=ae hK
      clear hK;go_simp
      refine HK.o _ _ ?_;clear HK K;try simp only[Act.put,YM,YJ,YL]
      refine wpAny_ready (rs:=[5]) (by kernel_rfl) (by simp) ?_;refine AllReady.cons (o := { dst := some 17, op := Op.call { callee := Callee.builtin Builtin.append, args := #[Operand.tmp 13, Operand.tmp 16], argTypes := #[23, 23] }, type := 23, pos := "pack.go:64", after := #[{ on := 1, ground := Ground.data }, { on := 4, ground := Ground.data }, { on := 3, ground := Ground.chain }], guard := none }) rfl (fun K hK => ?_) ?_
      ·have HK:=ae hK
       clear hK;refine kg (by rfl) _ _ (by rfl) (w.heap.size+2) w6.heap.size _ _ x [(y0,y1,y2,y3)] (by rfl) ?_ (by rfl) ?_ ?_ ?_ ?_ ?_
       ·exact oe.o.kept (aj _ _)
       ·exact yl w6 (y0,y1,y2,y3)
       ·exact Nat.zero_lt_succ _
       ·exact Gu.o _
       ·exact po uM _
       intro v7 w7 o7 b7;obtain⟨a7,cap7,rfl,QQ,hkk7,z1⟩:=HAP.o _ _ _ _ _ _ (Vh.o.kept ((Yz _ _).alloc uM _)) o7 b7;have qY:=ae o7;have Vi:=ae QQ;clear o7 b7 QQ;refine HK.o _ _ ?_;clear HK K;try simp only[Act.put,YM,YJ,YL]
       refine wpAny_ready (rs:=[6]) (by kernel_rfl) (by simp) ?_;refine AllReady.cons (o := { dst := some 18, op := Op.fieldAddr 25 (Operand.tmp 3) 1, type := 0, pos := "pack.go:64", after := #[{ on := 0, ground := Ground.phase }, { on := 1, ground := Ground.phase }, { on := 2, ground := Ground.phase }, { on := 3, ground := Ground.phase }, { on := 4, ground := Ground.phase }, { on := 5, ground := Ground.phase }], guard := none }) rfl (fun K hK => ?_) ?_
       ·have HK:=ae hK
        clear hK;go_simp
        refine HK.o _ _ ?_;clear HK K;try simp only[Act.put,YM,YJ,YL]
        refine wpAny_ready (rs:=[7]) (by kernel_rfl) (by simp) ?_;refine AllReady.cons (o := { dst := none, op := Op.store 23 (Operand.tmp 18) (Operand.tmp 17), type := 0, pos := "pack.go:64", after := #[{ on := 6, ground := Ground.data }, { on := 5, ground := Ground.data }, { on := 5, ground := Ground.chain }, { on := 0, ground := Ground.phase }, { on := 1, ground := Ground.phase }, { on := 2, ground := Ground.phase }, { on := 3, ground := Ground.phase }, { on := 4, ground := Ground.phase }, { on := 5, ground := Ground.phase }], guard := none }) rfl (fun K hK => ?_) ?_
        ·have HK:=ae hK
         clear hK;go_simp
         refine HK.o _ _ ?_;clear HK K;try simp only[Act.put,YM,YJ,YL]
         refine wpAny_done (by kernel_rfl) ?_ _;go_wp2_with fail;exact⟨⟨k+1,x++[(y0,y1,y2,y3)],b6,f6,a7,cap7,by omega,rfl,Vi.o.set1 (.slice a7 (k+1) cap7),uC qY.o (by omega) _ _,by rw[YC,Zj,Yq.o],fun y hy=>(Zg.1 hy).elim (Lj.o y) (fun h=>by rw[Zl]at h;rw[h];exact HY.o),uB Xi.o CA.o⟩,by simp only[intOf];omega⟩
        exact AllReady.nil
       exact AllReady.nil
      exact AllReady.nil
     exact AllReady.nil
    exact AllReady.nil
   refine AllReady.cons (o := { dst := some 15, op := Op.call { callee := Callee.value (Operand.func 179), args := #[Operand.tmp 14], argTypes := #[198] }, type := 81, pos := "pack.go:64", after := #[{ on := 2, ground := Ground.data }], guard := none }) rfl (fun K hK => ?_) ?_
   ·have HK:=ae hK
    clear hK;go_simp
    refine(mH.o 1).mono ?_;rintro e w6 ⟨y0,y1,y2,y3,b6,f6,rfl,hy,hm6,QI,o6,uM,Rm,hkk2⟩;have HY:=ae hy;have Vh:=ae hm6;have CA:=ae QI;have oe:=ae o6;clear hy hm6 QI o6;go_wp2_with fail;refine HK.o _ _ ?_;clear HK K;try simp only[Act.put,YM,YJ,YL]
    refine wpAny_ready (rs:=[1,4]) (by kernel_rfl) (by simp) ?_;refine AllReady.cons (o := { dst := some 13, op := Op.load 23 (Operand.tmp 12), type := 23, pos := "pack.go:64", after := #[{ on := 0, ground := Ground.data }], guard := none }) rfl (fun K hK => ?_) ?_
    ·have HK:=ae hK
     clear hK;go_simp
     refine HK.o _ _ ?_;clear HK K;try simp only[Act.put,YM,YJ,YL]
     refine wpAny_ready (rs:=[4]) (by kernel_rfl) (by simp) ?_;refine AllReady.cons (o := { dst := some 16, op := Op.buildSlice 23 1 #[(0, Operand.tmp 15)], type := 23, pos := "pack.go:64", after := #[{ on := 3, ground := Ground.data }], guard := none }) rfl (fun K hK => ?_) ?_
     ·have HK:=ae hK
      clear hK;go_simp
      refine HK.o _ _ ?_;clear HK K;try simp only[Act.put,YM,YJ,YL]
      refine wpAny_ready (rs:=[5]) (by kernel_rfl) (by simp) ?_;refine AllReady.cons (o := { dst := some 17, op := Op.call { callee := Callee.builtin Builtin.append, args := #[Operand.tmp 13, Operand.tmp 16], argTypes := #[23, 23] }, type := 23, pos := "pack.go:64", after := #[{ on := 1, ground := Ground.data }, { on := 4, ground := Ground.data }, { on := 3, ground := Ground.chain }], guard := none }) rfl (fun K hK => ?_) ?_
      ·have HK:=ae hK
       clear hK;refine kg (by rfl) _ _ (by rfl) (w.heap.size+2) w6.heap.size _ _ x [(y0,y1,y2,y3)] (by rfl) ?_ (by rfl) ?_ ?_ ?_ ?_ ?_
       ·exact oe.o.kept (aj _ _)
       ·exact yl w6 (y0,y1,y2,y3)
       ·exact Nat.zero_lt_succ _
       ·exact Gu.o _
       ·exact po uM _
       intro v7 w7 o7 b7;obtain⟨a7,cap7,rfl,QQ,hkk7,z1⟩:=HAP.o _ _ _ _ _ _ (Vh.o.kept ((Yz _ _).alloc uM _)) o7 b7;have qY:=ae o7;have Vi:=ae QQ;clear o7 b7 QQ;refine HK.o _ _ ?_;clear HK K;try simp only[Act.put,YM,YJ,YL]
       refine wpAny_ready (rs:=[6]) (by kernel_rfl) (by simp) ?_;refine AllReady.cons (o := { dst := some 18, op := Op.fieldAddr 25 (Operand.tmp 3) 1, type := 0, pos := "pack.go:64", after := #[{ on := 0, ground := Ground.phase }, { on := 1, ground := Ground.phase }, { on := 2, ground := Ground.phase }, { on := 3, ground := Ground.phase }, { on := 4, ground := Ground.phase }, { on := 5, ground := Ground.phase }], guard := none }) rfl (fun K hK => ?_) ?_
       ·have HK:=ae hK
        clear hK;go_simp
        refine HK.o _ _ ?_;clear HK K;try simp only[Act.put,YM,YJ,YL]
        refine wpAny_ready (rs:=[7]) (by kernel_rfl) (by simp) ?_;refine AllReady.cons (o := { dst := none, op := Op.store 23 (Operand.tmp 18) (Operand.tmp 17), type := 0, pos := "pack.go:64", after := #[{ on := 6, ground := Ground.data }, { on := 5, ground := Ground.data }, { on := 5, ground := Ground.chain }, { on := 0, ground := Ground.phase }, { on := 1, ground := Ground.phase }, { on := 2, ground := Ground.phase }, { on := 3, ground := Ground.phase }, { on := 4, ground := Ground.phase }, { on := 5, ground := Ground.phase }], guard := none }) rfl (fun K hK => ?_) ?_
        ·have HK:=ae hK
         clear hK;go_simp
         refine HK.o _ _ ?_;clear HK K;try simp only[Act.put,YM,YJ,YL]
         refine wpAny_done (by kernel_rfl) ?_ _;go_wp2_with fail;exact⟨⟨k+1,x++[(y0,y1,y2,y3)],b6,f6,a7,cap7,by omega,rfl,Vi.o.set1 (.slice a7 (k+1) cap7),uC qY.o (by omega) _ _,by rw[YC,Zj,Yq.o],fun y hy=>(Zg.1 hy).elim (Lj.o y) (fun h=>by rw[Zl]at h;rw[h];exact HY.o),uB Xi.o CA.o⟩,by simp only[intOf];omega⟩
        exact AllReady.nil
       exact AllReady.nil
      exact AllReady.nil
     exact AllReady.nil
    refine AllReady.cons (o := { dst := some 16, op := Op.buildSlice 23 1 #[(0, Operand.tmp 15)], type := 23, pos := "pack.go:64", after := #[{ on := 3, ground := Ground.data }], guard := none }) rfl (fun K hK => ?_) ?_
    ·have HK:=ae hK
     clear hK;go_simp
     refine HK.o _ _ ?_;clear HK K;try simp only[Act.put,YM,YJ,YL]
     refine wpAny_ready (rs:=[1]) (by kernel_rfl) (by simp) ?_;refine AllReady.cons (o := { dst := some 13, op := Op.load 23 (Operand.tmp 12), type := 23, pos := "pack.go:64", after := #[{ on := 0, ground := Ground.data }], guard := none }) rfl (fun K hK => ?_) ?_
     ·have HK:=ae hK
      clear hK;go_simp
      refine HK.o _ _ ?_;clear HK K;try simp only[Act.put,YM,YJ,YL]
      refine wpAny_ready (rs:=[5]) (by kernel_rfl) (by simp) ?_;refine AllReady.cons (o := { dst := some 17, op := Op.call { callee := Callee.builtin Builtin.append, args := #[Operand.tmp 13, Operand.tmp 16], argTypes := #[23, 23] }, type := 23, pos := "pack.go:64", after := #[{ on := 1, ground := Ground.data }, { on := 4, ground := Ground.data }, { on := 3, ground := Ground.chain }], guard := none }) rfl (fun K hK => ?_) ?_
      ·have HK:=ae hK
       clear hK;refine kg (by rfl) _ _ (by rfl) (w.heap.size+2) w6.heap.size _ _ x [(y0,y1,y2,y3)] (by rfl) ?_ (by rfl) ?_ ?_ ?_ ?_ ?_
       ·exact oe.o.kept (aj _ _)
       ·exact yl w6 (y0,y1,y2,y3)
       ·exact Nat.zero_lt_succ _
       ·exact Gu.o _
       ·exact po uM _
       intro v7 w7 o7 b7;obtain⟨a7,cap7,rfl,QQ,hkk7,z1⟩:=HAP.o _ _ _ _ _ _ (Vh.o.kept ((Yz _ _).alloc uM _)) o7 b7;have qY:=ae o7;have Vi:=ae QQ;clear o7 b7 QQ;refine HK.o _ _ ?_;clear HK K;try simp only[Act.put,YM,YJ,YL]
       refine wpAny_ready (rs:=[6]) (by kernel_rfl) (by simp) ?_;refine AllReady.cons (o := { dst := some 18, op := Op.fieldAddr 25 (Operand.tmp 3) 1, type := 0, pos := "pack.go:64", after := #[{ on := 0, ground := Ground.phase }, { on := 1, ground := Ground.phase }, { on := 2, ground := Ground.phase }, { on := 3, ground := Ground.phase }, { on := 4, ground := Ground.phase }, { on := 5, ground := Ground.phase }], guard := none }) rfl (fun K hK => ?_) ?_
       ·have HK:=ae hK
        clear hK;go_simp
        refine HK.o _ _ ?_;clear HK K;try simp only[Act.put,YM,YJ,YL]
        refine wpAny_ready (rs:=[7]) (by kernel_rfl) (by simp) ?_;refine AllReady.cons (o := { dst := none, op := Op.store 23 (Operand.tmp 18) (Operand.tmp 17), type := 0, pos := "pack.go:64", after := #[{ on := 6, ground := Ground.data }, { on := 5, ground := Ground.data }, { on := 5, ground := Ground.chain }, { on := 0, ground := Ground.phase }, { on := 1, ground := Ground.phase }, { on := 2, ground := Ground.phase }, { on := 3, ground := Ground.phase }, { on := 4, ground := Ground.phase }, { on := 5, ground := Ground.phase }], guard := none }) rfl (fun K hK => ?_) ?_
        ·have HK:=ae hK
         clear hK;go_simp
         refine HK.o _ _ ?_;clear HK K;try simp only[Act.put,YM,YJ,YL]
         refine wpAny_done (by kernel_rfl) ?_ _;go_wp2_with fail;exact⟨⟨k+1,x++[(y0,y1,y2,y3)],b6,f6,a7,cap7,by omega,rfl,Vi.o.set1 (.slice a7 (k+1) cap7),uC qY.o (by omega) _ _,by rw[YC,Zj,Yq.o],fun y hy=>(Zg.1 hy).elim (Lj.o y) (fun h=>by rw[Zl]at h;rw[h];exact HY.o),uB Xi.o CA.o⟩,by simp only[intOf];omega⟩
        exact AllReady.nil
       exact AllReady.nil
      exact AllReady.nil
     exact AllReady.nil
    exact AllReady.nil
   exact AllReady.nil
  ·obtain⟨⟨c0,c1⟩,⟨z0,z1⟩,⟨d0,d1⟩,⟨y0,y1⟩⟩:=KW.facts
   obtain rfl:k=n:=by omega
   have hlt':¬ (k:Int)<(k:Int):=(by omega);clear KW;go_wp2_with fail;obtain⟨e1,e2⟩:=Uk.o.done (.int .u32 (i:Int)) (.slice a k cap);refine bodyPost_ret (v:=.agg #[.int .u32 (i:Int),.slice a k cap]) (by simp[results,Tryz.results139,go_sem,d0,d1]) rfl ?_;exact⟨i,x,_,bk,fk,rfl,(AJ HO.o (by omega) _ _).low (by omega),by have:=HI.o;omega,by have:=Yq.o;omega,Lj.o,e1,Tl qf.o jF.o Xi.o,e2⟩
theorem BH(a:List Fd)(f:Fd):(f.1<=dW a)↔(f.1=0∨(0<a.length/\f.1<=dW a)):=by
 constructor
 ·intro h
  rcases Zw a.length with h0 | h0
  ·rw[YU h0]at h
   left
   simpa [dW]using h
  ·exact Or.inr ⟨h0,h⟩
 ·rintro(h | h)
  ·omega
  ·exact h.2
theorem BI{l:List Fd}{k m:Nat}(hm:k=m+1)(h:m<l.length):dW (l.take k)=l[m].1:=by
 subst hm;exact CC h
theorem yM{w:World}{v:Value}{l:List Fd}(hs:Sf w v l)(id:Nat):Calls Tryz.prog 15 #[.agg #[.int .u32 (id:Int),v]] w fun e w'=>e=.returned (.int .i64 (chk id l:Int))/\Below w.heap.size w w':=by
 obtain⟨a,cap,rfl,aV,bw⟩:=hs.form;have bV:=ae (aj w (.cells #[.int .u32 (id:Int),.slice a l.length cap] 25));have HS:=ae (hs.kept (aj w (.cells #[.int .u32 (id:Int),.slice a l.length cap] 25)));obtain⟨c0,c1⟩:=aR w (.int .u32 (id:Int)) (.slice a l.length cap) 25;have hz:w.heap.size<(w.alloc (.cells #[.int .u32 (id:Int),.slice a l.length cap] 25)).heap.size:=by rw[YB];omega
 clear hs;by_cases h1:id=0∨l.length=0∨8<l.length
 ·have HR:jaH (chk id l=1):=ae (Yy h1)
  clear c0 c1 hz HS;by_cases q1:id=0
  ·subst q1
   go_enter Tryz.func15,Tryz.ntmps15
   go_wp2_with fail;go_ret
   rw[HR.o];exact⟨rfl,bV.o⟩
  ·have q1':((id:Int)==0)=false:=by simp[q1]
   by_cases q2:l.length=0
   ·have q2':((l.length:Int)==0)=true:=by simp[q2]
    clear h1 q1 q2;go_enter Tryz.func15,Tryz.ntmps15
    go_wp2_with fail;go_ret
    rw[HR.o];exact⟨rfl,bV.o⟩
   ·have q2':((l.length:Int)==0)=false:=by simp[q2]
    have q3:(l.length:Int) > 8:=(by omega);clear h1 q1 q2;go_enter Tryz.func15,Tryz.ntmps15
    go_wp2_with fail;go_ret
    rw[HR.o];exact⟨rfl,bV.o⟩
 ·have HR:jaH (chk id l=fe (l.take 0) (l.drop 0)):=ae (Yx h1)
  have q1':((id:Int)==0)=false:=YN.2 (by omega);have q2':((l.length:Int)==0)=false:=YN.2 (by omega);have q3:¬ (l.length:Int) > 8:=by omega
  have hl8:l.length<=8:=by omega
  clear h1;generalize chk id l=CH at *;generalize hW:w.alloc (.cells #[.int .u32 (id:Int),.slice a l.length cap] 25)=W at *;go_enter Tryz.func15,Tryz.ntmps15
  go_wp2_with fail;try rw[hW]
  clear hW;go_loopw [3] (fun i wr=>∃ k:Nat,k<=l.length/\i=.int .i64 (k:Int)/\CH=fe (l.take k) (l.drop k)/\Below W.heap.size W wr) (fun i _=>l.length-(intOf i).toNat)
  case atStart=>exact⟨0,by omega,rfl,HR.o,Yz _ _⟩
  case round =>
   obtain⟨k,hk,rfl,kJ,ao⟩:=hrel;have HF:=ae kJ;have HB:=ae ao;have bM:=ao.size;clear kJ ao HR;by_cases ar:k<l.length
   ·obtain⟨b,off,rfl,hb,x0,x1,x2,x3⟩:=(HS.o.kept HB.o).at ar
    have HT:=ae (HF.o.trans (FB ar));have hlt':(k:Int)<(l.length:Int):=(by omega);have hkc:(k:Int)<=(cap:Int):=(by omega);have WO:(0:Int)<=(k:Int):=(by omega);have hktn:((k:Int)).toNat=k:=(by omega);have hdcap:¬ cap=0:=(by omega);have co:=ae (HS.o.take (k:=k) (by omega));have Fm:(l.take k).length=k:=by rw[YH];omega
    generalize hf:l[k]=f at *;obtain⟨f0,f1,f2,f3⟩:=f;have km:jaH (eU (l.take k) (f0,f1,f2,f3)=if f0<=dW (l.take k) then 81 else if tj (l.take k) f1=false then 80 else if jN f2=false then 10 else if (f3 != decide ((l.take k).length=0))=true∨((l.take k).length=0/\f2=2) then 82 else 0):=ae rfl;rw[Fm]at km;simp only at *;have d1:=(HB.o.cell (p:=⟨w.heap.size,1,none⟩) hz).trans c1;have se:=aj wr (.cells #[.int .u32 (f0:Int),.string f1,.int .u8 (f2:Int),.bool f3] 81);have e1:=(se.cell (p:=⟨w.heap.size,1,none⟩) (Za hz bM)).trans d1;obtain⟨g0,g1,g2,g3⟩:=gN wr (.int .u32 (f0:Int)) (.string f1) (.int .u8 (f2:Int)) (.bool f3) 81;have aK:=ae (HB.o.trans (se.mono bM));have ll:wr.heap.size<(wr.alloc (.cells #[.int .u32 (f0:Int),.string f1,.int .u8 (f2:Int),.bool f3] 81)).heap.size:=by rw[YB];omega
    have qg:=ae ((co.o.kept HB.o).kept se);have Ls:jaH (∀ U,Below (wr.alloc (.cells #[.int .u32 (f0:Int),.string f1,.int .u8 (f2:Int),.bool f3] 81)).heap.size (wr.alloc (.cells #[.int .u32 (f0:Int),.string f1,.int .u8 (f2:Int),.bool f3] 81)) U->Calls Tryz.prog 50 #[.slice (some ⟨b,off,none⟩) k cap,.string f1] U fun e w'=>e=.returned (.bool (mJ (l.take k) f1))/\w'=U):=ae (fun U hU=>SA (qg.o.kept hU) f1);generalize hV:wr.alloc (.cells #[.int .u32 (f0:Int),.string f1,.int .u8 (f2:Int),.bool f3] 81)=V at *;have eG:jaH (∀ w',Below V.heap.size V w'->(w'.cell? ⟨w.heap.size,1,none⟩=some (.slice (some ⟨b,off,none⟩) l.length cap)/\w'.cell? ⟨wr.heap.size,1,none⟩=some (.string f1))/\w'.cell? ⟨wr.heap.size,2,none⟩=some (.int .u8 (f2:Int))/\w'.cell? ⟨wr.heap.size,3,none⟩=some (.bool f3)):=ae (fun w' h=>⟨⟨(h.cell (p:=⟨w.heap.size,1,none⟩) (show w.heap.size<_ by omega)).trans e1,(h.cell (p:=⟨wr.heap.size,1,none⟩) ll).trans g1⟩,(h.cell (p:=⟨wr.heap.size,2,none⟩) ll).trans g2,(h.cell (p:=⟨wr.heap.size,3,none⟩) ll).trans g3⟩)
    have GC:jaH (∀ U,Below V.heap.size V U->Calls Tryz.prog 49 #[.string f1] U fun e w'=>e=.returned (.bool (named f1))/\Below V.heap.size V w'/\(w'.cell? ⟨w.heap.size,1,none⟩=some (.slice (some ⟨b,off,none⟩) l.length cap)/\w'.cell? ⟨wr.heap.size,1,none⟩=some (.string f1))):=ae (fun U hU=>(Jh f1 U).mono (by
     rintro e w2 ⟨rfl,ay⟩;have aO:=ag hU ay;exact⟨rfl,aO,(eG.o _ aO).1⟩))
    have Vj:tj (l.take k) f1=(named f1 && !mJ (l.take k) f1):=rfl;have jY:=ae Vj;have Vk:=ae (BH (l.take k) (f0,f1,f2,f3));rw[Fm]at Vk
    have nt:jaH (∀ m,k=m+1->∃ la:Nat,dW (l.take k)=la/\V.cell? ⟨b,off+m*4,none⟩=some (.int .u32 (la:Int))):=ae (fun m hm=>by
     obtain⟨b',off',hbe,_,y0,_⟩:=(HS.o.kept aK.o).at (k:=m) (by omega);cases hbe
     exact⟨_,BI hm (by omega),y0⟩)
    clear Vj se g1 g2 g3 hf Fm qg co c0 c1;generalize eU (l.take k) (f0,f1,f2,f3)=R at *;by_cases bN:f0=0
    ·have hR:R=81:=by rw[km.o,Yy (Vk.o.2 (Or.inl bN))]
     have hz0':((f0:Int)==0)=true:=by rw[bN];rfl
     rw[hR,Yx (by omega)]at HT;clear hR km Vk bN nt;go_wp2_with fail;try rw[hV]
     clear hV;go_quiet (fail)
     go_wp2_with fail;go_ret
     rw[HT.o];exact⟨rfl,ak (ag bV.o aK.o) _⟩
    ·have hz0':((f0:Int)==0)=false:=YN.2 (by omega)
     by_cases Cd:0<k/\f0<=dW (l.take k)
     ·have hR:R=81:=by rw[km.o,Yy (Vk.o.2 (Or.inr Cd))]
      obtain⟨uK,ob⟩:=Cd;obtain⟨m,hm⟩:∃ m,k=m+1:=⟨k-1,by omega⟩;obtain⟨la,Ku,fT⟩:=nt.o m hm;rw[Ku]at ob;have t1:decide ((k:Int) > 0)=true:=YT (by omega);have t1':(k:Int) > 0:=(by omega);have t1n:decide (0<k)=true:=YT (by omega);have t1m:0<k:=(by omega);have t2:IntKind.i64.wrap ((k:Int)-1)=(m:Int):=by rw[Zy];omega
      have t3:(0:Int)<=(m:Int):=(by omega);have t4:(m:Int)<(l.length:Int):=(by omega);have t5:((m:Int)).toNat=m:=(by omega);have t6:decide ((f0:Int)<=(la:Int))=true:=YT (by omega);have t6':(f0:Int)<=(la:Int):=(by omega);have t7:(k:Int)-1=(m:Int):=(by omega);rw[hR,Yx (by omega)]at HT;clear hR km Vk bN nt hm Ku uK ob;go_wp2_with fail;try rw[hV]
      clear hV;go_quiet (fail)
      go_wp2_with fail;go_ret
      rw[HT.o];exact⟨rfl,ak (ag bV.o aK.o) _⟩
     ·rw[Yx (fun h=>by rcases Vk.o.1 h with h | h;(· exact bN h);(· exact Cd h))]at km
      have Qs:decide ((k:Int) > 0)=false/\k=0∨decide ((k:Int) > 0)=true/\∃ m la:Nat,k=m+1/\¬ f0<=la/\V.cell? ⟨b,off+m*4,none⟩=some (.int .u32 (la:Int)):=by
       by_cases uK:k=0
       ·exact Or.inl ⟨YO (by omega),uK⟩
       ·obtain⟨m,hm⟩:∃ m,k=m+1:=⟨k-1,by omega⟩
        obtain⟨la,Ku,fT⟩:=nt.o m hm;exact Or.inr ⟨YT (by omega),m,la,hm,fun h=>Cd ⟨by omega,by rw[Ku];exact h⟩,fT⟩
      have HK0:jaH (decide (k=0)=((k:Int)==0)):=ae (by
       by_cases h:k=0
       ·rw[YT h,h];rfl
       ·rw[YO h,YN.2 (by omega)])
      clear Cd bN Vk nt;rcases Qs with ⟨t1,uK⟩ | ⟨t1,m,la,hm,ob,fT⟩
      ·have t1':¬ (k:Int) > 0:=by omega
       have t1n:decide (0<k)=false:=YO (by omega);have t1m:¬ 0<k:=(by omega);have HKZ:=ae uK;clear uK;go_wp2_with fail;try rw[hV]
       clear hV;go_quiet (fail)
       obtain⟨⟨_,g1⟩,_⟩:=eG.o V (Yz _ _);go_wp2_with fail;cases hnm:named f1 with
       | false =>
        rw[hnm]at GC jY;have hR:R=80:=by rw[km.o,jY.o];rfl
        rw[hR,Yx (by omega)]at HT;clear hR km hnm;have re:∀ s:aW (fun x=>Below V.heap.size V x),s.w.cell? ⟨wr.heap.size,1,none⟩=some (.string f1):=fun s=>(eG.o s.w s.ok).1.2
        have od:∀ s:aW (fun x=>Below V.heap.size V x),s.w.cell? ⟨w.heap.size,1,none⟩=some (.slice (some ⟨b,off,none⟩) l.length cap):=fun s=>(eG.o s.w s.ok).1.1
        haveI:Nonempty (aW (fun x=>Below V.heap.size V x)):=⟨aW.mk V (Yz _ _)⟩
        refine bD (S:=fun x=>Below V.heap.size V x) (by kernel_rfl) (by kernel_rfl) (ak (Yz _ _) _).drew ?_;repeat (go_big_quiet_step (first | (go_at_call 49;exact(GC.o _ (aW.ok _)).mono (fun e w' h=>⟨h.1,aW.mk w' h.2.1,rfl⟩)) | (go_at_call 50;exact(Ls.o _ (aW.ok _)).mono (fun e w' h=>⟨h.1,_,h.2⟩))))
        refine wpQuiet_nil ?_;rintro _ ⟨s2,rfl⟩;obtain⟨w2,np⟩:∃ x,x=s2.w:=⟨_,rfl⟩;have ay:=s2.ok;rw[← np]at ay ⊢;have fW:=ae ay;clear np ay re od;go_wp2_with fail;go_ret
        rw[HT.o];exact⟨rfl,by first | exact ag (ag bV.o aK.o) fW.o | exact ak (ag (ag bV.o aK.o) fW.o) _⟩
       | true =>
        rw[hnm]at GC jY;clear hnm;cases hha:mJ (l.take k) f1 with
        | true =>
         rw[hha]at Ls jY;have hR:R=80:=by rw[km.o,jY.o];rfl
         rw[hR,Yx (by omega)]at HT;clear hR km hha;have re:∀ s:aW (fun x=>Below V.heap.size V x),s.w.cell? ⟨wr.heap.size,1,none⟩=some (.string f1):=fun s=>(eG.o s.w s.ok).1.2
         have od:∀ s:aW (fun x=>Below V.heap.size V x),s.w.cell? ⟨w.heap.size,1,none⟩=some (.slice (some ⟨b,off,none⟩) l.length cap):=fun s=>(eG.o s.w s.ok).1.1
         haveI:Nonempty (aW (fun x=>Below V.heap.size V x)):=⟨aW.mk V (Yz _ _)⟩
         refine bD (S:=fun x=>Below V.heap.size V x) (by kernel_rfl) (by kernel_rfl) (ak (Yz _ _) _).drew ?_;repeat (go_big_quiet_step (first | (go_at_call 49;exact(GC.o _ (aW.ok _)).mono (fun e w' h=>⟨h.1,aW.mk w' h.2.1,rfl⟩)) | (go_at_call 50;exact(Ls.o _ (aW.ok _)).mono (fun e w' h=>⟨h.1,_,h.2⟩))))
         refine wpQuiet_nil ?_;rintro _ ⟨s2,rfl⟩;obtain⟨w2,np⟩:∃ x,x=s2.w:=⟨_,rfl⟩;have ay:=s2.ok;rw[← np]at ay ⊢;have fW:=ae ay;clear np ay re od;go_wp2_with fail;go_ret
         rw[HT.o];exact⟨rfl,by first | exact ag (ag bV.o aK.o) fW.o | exact ak (ag (ag bV.o aK.o) fW.o) _⟩
        | false =>
         rw[hha]at Ls jY;rw[jY.o,Yx (by simp)]at km;clear hha;have re:∀ s:aW (fun x=>Below V.heap.size V x),s.w.cell? ⟨wr.heap.size,1,none⟩=some (.string f1):=fun s=>(eG.o s.w s.ok).1.2
         have od:∀ s:aW (fun x=>Below V.heap.size V x),s.w.cell? ⟨w.heap.size,1,none⟩=some (.slice (some ⟨b,off,none⟩) l.length cap):=fun s=>(eG.o s.w s.ok).1.1
         haveI:Nonempty (aW (fun x=>Below V.heap.size V x)):=⟨aW.mk V (Yz _ _)⟩
         refine bD (S:=fun x=>Below V.heap.size V x) (by kernel_rfl) (by kernel_rfl) (ak (Yz _ _) _).drew ?_;repeat (go_big_quiet_step (first | (go_at_call 49;exact(GC.o _ (aW.ok _)).mono (fun e w' h=>⟨h.1,aW.mk w' h.2.1,rfl⟩)) | (go_at_call 50;exact(Ls.o _ (aW.ok _)).mono (fun e w' h=>⟨h.1,_,h.2⟩))))
         refine wpQuiet_nil ?_;rintro _ ⟨s2,rfl⟩;obtain⟨w2,np⟩:∃ x,x=s2.w:=⟨_,rfl⟩;have ay:=s2.ok;rw[← np]at ay ⊢;have fW:=ae ay;clear np ay re od;obtain⟨_,y2,y3⟩:=eG.o _ fW.o;by_cases uJ:jN f2=false
         ·rw[Yy uJ]at km
          rw[km.o,Yx (by omega)]at HT
          have hkd':f2=0∨3<f2:=by
           unfold jN at uJ;have:=of_decide_eq_false uJ;omega
          clear km uJ;rcases hkd' with q | q
          ·have q1:(f2:Int)<1:=by omega
           clear q;go_wp2_with fail;go_ret
           rw[HT.o];exact⟨rfl,by first | exact ag (ag bV.o aK.o) fW.o | exact ak (ag (ag bV.o aK.o) fW.o) _⟩
          ·have q1:¬ (f2:Int)<1:=by omega
           have q2:(f2:Int) > 3:=(by omega);clear q;go_wp2_with fail;go_ret
           rw[HT.o];exact⟨rfl,by first | exact ag (ag bV.o aK.o) fW.o | exact ak (ag (ag bV.o aK.o) fW.o) _⟩
         ·rw[Yx uJ]at km
          have hkd':1<=f2/\f2<=3:=by
           unfold jN at uJ;simpa using uJ
          have q1:¬ (f2:Int)<1:=(by omega);have q2:¬ (f2:Int) > 3:=(by omega);clear uJ hkd';have t0:((k:Int)==0)=true:=by rw[HKZ.o];rfl
          cases f3
          ·have hR:R=82:=by rw[km.o,Yy (Or.inl (by rw[HKZ.o];rfl))]
           rw[hR,Yx (by omega)]at HT;clear hR km;go_wp2_with fail;go_ret
           rw[HT.o];exact⟨rfl,by first | exact ag (ag bV.o aK.o) fW.o | exact ak (ag (ag bV.o aK.o) fW.o) _⟩
          ·by_cases h2:f2=2
           ·have hR:R=82:=by rw[km.o,Yy (Or.inr ⟨HKZ.o,h2⟩)]
            have h2':((f2:Int)==2)=true:=by rw[h2];rfl
            rw[hR,Yx (by omega)]at HT;clear hR km h2;go_wp2_with fail;go_ret
            rw[HT.o];exact⟨rfl,by first | exact ag (ag bV.o aK.o) fW.o | exact ak (ag (ag bV.o aK.o) fW.o) _⟩
           ·have hR:R=0:=by rw[km.o,Yx (fun h=>by rcases h with h | ⟨_,h⟩;(· rw[HKZ.o]at h;cases h);(· exact h2 h))]
            have h2':((f2:Int)==2)=false:=YN.2 (by omega);rw[Yy hR]at HT;clear hR km h2;go_wp2_with fail;go_roundw
            case rel=>exact⟨k+1,by omega,by go_num,HT.o,by first | exact ag aK.o fW.o | exact ak (ag aK.o fW.o) _⟩
            case measure=>simp[intOf];omega
      ·have t1':(k:Int) > 0:=by omega
       have t1n:decide (0<k)=true:=YT (by omega);have t1m:0<k:=(by omega);have t2:IntKind.i64.wrap ((k:Int)-1)=(m:Int):=by rw[Zy];omega
       have t3:(0:Int)<=(m:Int):=(by omega);have t4:(m:Int)<(l.length:Int):=(by omega);have t5:((m:Int)).toNat=m:=(by omega);have t6:decide ((f0:Int)<=(la:Int))=false:=YO (by omega);have t6':¬ (f0:Int)<=(la:Int):=(by omega);have t7:(k:Int)-1=(m:Int):=(by omega);clear hm ob;go_wp2_with fail;try rw[hV]
       clear hV;go_quiet (fail)
       obtain⟨⟨_,g1⟩,_⟩:=eG.o V (Yz _ _);go_wp2_with fail;cases hnm:named f1 with
       | false =>
        rw[hnm]at GC jY;have hR:R=80:=by rw[km.o,jY.o];rfl
        rw[hR,Yx (by omega)]at HT;clear hR km hnm;have re:∀ s:aW (fun x=>Below V.heap.size V x),s.w.cell? ⟨wr.heap.size,1,none⟩=some (.string f1):=fun s=>(eG.o s.w s.ok).1.2
        have od:∀ s:aW (fun x=>Below V.heap.size V x),s.w.cell? ⟨w.heap.size,1,none⟩=some (.slice (some ⟨b,off,none⟩) l.length cap):=fun s=>(eG.o s.w s.ok).1.1
        haveI:Nonempty (aW (fun x=>Below V.heap.size V x)):=⟨aW.mk V (Yz _ _)⟩
        refine bD (S:=fun x=>Below V.heap.size V x) (by kernel_rfl) (by kernel_rfl) (ak (Yz _ _) _).drew ?_;repeat (go_big_quiet_step (first | (go_at_call 49;exact(GC.o _ (aW.ok _)).mono (fun e w' h=>⟨h.1,aW.mk w' h.2.1,rfl⟩)) | (go_at_call 50;exact(Ls.o _ (aW.ok _)).mono (fun e w' h=>⟨h.1,_,h.2⟩))))
        refine wpQuiet_nil ?_;rintro _ ⟨s2,rfl⟩;obtain⟨w2,np⟩:∃ x,x=s2.w:=⟨_,rfl⟩;have ay:=s2.ok;rw[← np]at ay ⊢;have fW:=ae ay;clear np ay re od;go_wp2_with fail;go_ret
        rw[HT.o];exact⟨rfl,by first | exact ag (ag bV.o aK.o) fW.o | exact ak (ag (ag bV.o aK.o) fW.o) _⟩
       | true =>
        rw[hnm]at GC jY;clear hnm;cases hha:mJ (l.take k) f1 with
        | true =>
         rw[hha]at Ls jY;have hR:R=80:=by rw[km.o,jY.o];rfl
         rw[hR,Yx (by omega)]at HT;clear hR km hha;have re:∀ s:aW (fun x=>Below V.heap.size V x),s.w.cell? ⟨wr.heap.size,1,none⟩=some (.string f1):=fun s=>(eG.o s.w s.ok).1.2
         have od:∀ s:aW (fun x=>Below V.heap.size V x),s.w.cell? ⟨w.heap.size,1,none⟩=some (.slice (some ⟨b,off,none⟩) l.length cap):=fun s=>(eG.o s.w s.ok).1.1
         haveI:Nonempty (aW (fun x=>Below V.heap.size V x)):=⟨aW.mk V (Yz _ _)⟩
         refine bD (S:=fun x=>Below V.heap.size V x) (by kernel_rfl) (by kernel_rfl) (ak (Yz _ _) _).drew ?_;repeat (go_big_quiet_step (first | (go_at_call 49;exact(GC.o _ (aW.ok _)).mono (fun e w' h=>⟨h.1,aW.mk w' h.2.1,rfl⟩)) | (go_at_call 50;exact(Ls.o _ (aW.ok _)).mono (fun e w' h=>⟨h.1,_,h.2⟩))))
         refine wpQuiet_nil ?_;rintro _ ⟨s2,rfl⟩;obtain⟨w2,np⟩:∃ x,x=s2.w:=⟨_,rfl⟩;have ay:=s2.ok;rw[← np]at ay ⊢;have fW:=ae ay;clear np ay re od;go_wp2_with fail;go_ret
         rw[HT.o];exact⟨rfl,by first | exact ag (ag bV.o aK.o) fW.o | exact ak (ag (ag bV.o aK.o) fW.o) _⟩
        | false =>
         rw[hha]at Ls jY;rw[jY.o,Yx (by simp)]at km;clear hha;have re:∀ s:aW (fun x=>Below V.heap.size V x),s.w.cell? ⟨wr.heap.size,1,none⟩=some (.string f1):=fun s=>(eG.o s.w s.ok).1.2
         have od:∀ s:aW (fun x=>Below V.heap.size V x),s.w.cell? ⟨w.heap.size,1,none⟩=some (.slice (some ⟨b,off,none⟩) l.length cap):=fun s=>(eG.o s.w s.ok).1.1
         haveI:Nonempty (aW (fun x=>Below V.heap.size V x)):=⟨aW.mk V (Yz _ _)⟩
         refine bD (S:=fun x=>Below V.heap.size V x) (by kernel_rfl) (by kernel_rfl) (ak (Yz _ _) _).drew ?_;repeat (go_big_quiet_step (first | (go_at_call 49;exact(GC.o _ (aW.ok _)).mono (fun e w' h=>⟨h.1,aW.mk w' h.2.1,rfl⟩)) | (go_at_call 50;exact(Ls.o _ (aW.ok _)).mono (fun e w' h=>⟨h.1,_,h.2⟩))))
         refine wpQuiet_nil ?_;rintro _ ⟨s2,rfl⟩;obtain⟨w2,np⟩:∃ x,x=s2.w:=⟨_,rfl⟩;have ay:=s2.ok;rw[← np]at ay ⊢;have fW:=ae ay;clear np ay re od;obtain⟨_,y2,y3⟩:=eG.o _ fW.o;by_cases uJ:jN f2=false
         ·rw[Yy uJ]at km
          rw[km.o,Yx (by omega)]at HT
          have hkd':f2=0∨3<f2:=by
           unfold jN at uJ;have:=of_decide_eq_false uJ;omega
          clear km uJ;rcases hkd' with q | q
          ·have q1:(f2:Int)<1:=by omega
           clear q;go_wp2_with fail;go_ret
           rw[HT.o];exact⟨rfl,by first | exact ag (ag bV.o aK.o) fW.o | exact ak (ag (ag bV.o aK.o) fW.o) _⟩
          ·have q1:¬ (f2:Int)<1:=by omega
           have q2:(f2:Int) > 3:=(by omega);clear q;go_wp2_with fail;go_ret
           rw[HT.o];exact⟨rfl,by first | exact ag (ag bV.o aK.o) fW.o | exact ak (ag (ag bV.o aK.o) fW.o) _⟩
         ·rw[Yx uJ]at km
          have hkd':1<=f2/\f2<=3:=by
           unfold jN at uJ;simpa using uJ
          have q1:¬ (f2:Int)<1:=(by omega);have q2:¬ (f2:Int) > 3:=(by omega);clear uJ hkd';have t0:((k:Int)==0)=false:=YN.2 (by omega);cases f3
          ·have hR:R=0:=by rw[km.o,Yx (fun h=>by rcases h with h | ⟨h,_⟩;(· rw[YO (show ¬ k=0 by omega)]at h;cases h);(· omega))]
           rw[Yy hR]at HT;clear hR km;go_wp2_with fail;go_roundw
           case rel=>exact⟨k+1,by omega,by go_num,HT.o,by first | exact ag aK.o fW.o | exact ak (ag aK.o fW.o) _⟩
           case measure=>simp[intOf];omega
          ·have hR:R=82:=by rw[km.o,Yy (Or.inl (by rw[YO (show ¬ k=0 by omega)];rfl))]
           rw[hR,Yx (by omega)]at HT;clear hR km;go_wp2_with fail;go_ret
           rw[HT.o];exact⟨rfl,by first | exact ag (ag bV.o aK.o) fW.o | exact ak (ag (ag bV.o aK.o) fW.o) _⟩
   ·obtain rfl:k=l.length:=by omega
    have eO:¬ ((l.length:Nat):Int)<(l.length:Int):=(by omega);have HT:=ae (HF.o.trans (Lx l));clear HF;have d1:=(HB.o.cell (p:=⟨w.heap.size,1,none⟩) hz).trans c1;go_wp2_with fail;go_ret
    rw[HT.o];exact⟨rfl,ag bV.o HB.o⟩
def RawSt(T:Nat)(W:World)(p:Nat)(b:List Nat)(f:Nat)(a:Option Addr)(cap:Nat):Prop :=
 W.heap[p]?=some (.cells #[.slice a b.length cap,.int .i64 (f:Int)] T (0,0))/\b.length<=cap/\cap<=maxLen/\Bs b/\(a=none->cap=0) /\
  (0<b.length->∃ g off,a=some ⟨g,off,none⟩/\g<p/\∀ j (h:j<b.length),W.cell? ⟨g,off+j,none⟩=some (.int .u8 (b[j]:Int)))
theorem St.cells2{T:Nat}{W:World}{p:Nat}{b:List Nat}{f:Nat}(h:St T W p b f) :
  ∃ a cap,W.cell? ⟨p,0,none⟩=some (.slice a b.length cap)/\W.cell? ⟨p,1,none⟩=some (.int .i64 (f:Int))/\W.frozen? ⟨p,0,none⟩=false/\W.frozen? ⟨p,1,none⟩=false /\
   b.length<=cap/\cap<=9223372036854775807/\Sv W (.slice a b.length cap) (az .u8 b)/\(a=none->cap=0)/\RawSt T W p b f a cap:=by
 have ar:=h.lt;obtain⟨a,cap,h1,h2,h3,h4,h5,h6⟩:=h
 have fV:Sv W (.slice a b.length cap) (az .u8 b):=by
  refine⟨a,cap,by rw[am],by rw[am];omega,h3,h5,fun h0=>?_⟩;rw[am]at h0;obtain⟨g,off,e,hg,hc⟩:=h6 h0;refine⟨g,off,e,by omega,fun j x hj=>?_⟩
  have hj':j<b.length:=by
   have:=(List.getElem?_eq_some_iff.1 hj).1;rwa[am]at this
  rw[bG hj']at hj;rw[hc j hj'];exact hj
 exact⟨a,cap,by rw[an h1];rfl,by rw[an h1];rfl,by simp[World.frozen?,h1],by simp[World.frozen?,h1],h2,by unfold maxLen at h3;omega,fV,h5,h1,h2,h3,h4,h5,h6⟩
theorem BJ{b b1:List Nat}{f i:Nat}{l:List Fd}(h:Rds zD b f (i,l) b1 0):Rds cw b f (i,l) b1 (chk i l) :=
 h.bind ⟨fun _=>rfl,fun h=>absurd rfl h⟩
theorem St.make{T:Nat}{w W:World}{a:Option Addr}{n cap:Nat}{b:List Nat}(hs:Sv w (.slice a n cap) (az .u8 b))(hb:Bs b)(hB:Below w.heap.size w W) :
  St T (W.alloc (.cells #[.slice a b.length cap,.int .i64 ((0:Nat):Int)] T)) W.heap.size b 0:=by
 obtain⟨a',cap',e,h1,h2,h3,h4⟩:=hs;simp only[Value.slice.injEq]at e;obtain⟨rfl,rfl,rfl⟩:=e;rw[am]at *;refine⟨a,cap,Zb W _,h1,h2,hb,h3,fun h0=>?_⟩;obtain⟨g,off,e,hg,hc⟩:=h4 h0;refine⟨g,off,e,Za hg hB.size,fun j hj=>?_⟩;have hB':Below w.heap.size w (W.alloc (.cells #[.slice a b.length cap,.int .i64 ((0:Nat):Int)] T)):=hB.alloc hB.size _;rw[hB'.cell (p:=⟨g,off+j,none⟩) hg];exact hc j _ (bG hj)
theorem Kg{w:World}{v:Value}{l:List Nat}(hs:Sv w v (az .u8 l))(hl:l.length<=100000000) :
  Calls Tryz.prog 93 #[v] w (dJ w l):=by
 have HS:=ae hs;obtain⟨ad,cap,rfl,h1,h2,h3,_⟩:=hs;rw[am]at *;cases ad with
 | none =>
  have hc:=h3 rfl;subst hc;have sQ:l=[]:=YU (by omega);subst sQ;have hq:(binOp .eql 30 (.slice none 0 0) (.slice none 0 0)).run Tryz.prog w=.ok (.bool true) w:=jam w 30 5 none 0 0 0 0 Tryz.underlying30;go_enter Tryz.func93,Tryz.ntmps93
  go_wp2_with fail;go_ret
  exact⟨⟨_,rfl,aG.nil _ _⟩,Yz _ _⟩
 | some ad =>
  have HN:=ae (tn w);have eP:=ae (HS.o.kept (aj w (.cells #[] 5)));clear h3;have hq:(binOp .eql 30 (.slice (some ad) l.length cap) (.slice none 0 0)).run Tryz.prog w=.ok (.bool false) w:=jam w 30 5 (some ad) l.length cap 0 0 Tryz.underlying30;go_enter Tryz.func93,Tryz.ntmps93
  go_wp2_with (first | (at_builtin;refine aB rfl _ _ rfl w.heap.size _ _ [] l rfl ?q1 rfl ?q2 ?c1 ?c2 ?_))
  case q1=>exact HN.o
  case q2=>exact eP.o
  case c1=>simp;omega
  case c2=>rw[YB];omega
  intro v3 w3 o3 aO;have dx:=ae o3;have bT:=ae ((aj w (.cells #[] 5)).trans aO);clear o3 aO;go_wp2_with fail;go_ret
  exact⟨⟨_,rfl,dx.o⟩,bT.o⟩
def vJ(b:List Nat):Nat×List Fd×List Nat×Nat :=
 match cw b with
 | .ok ((id,l),r)=>(id,l,r,0)
 | .error c=>(0,[],[],c)
theorem Tm{b b':List Nat}{id:Nat}{l:List Fd}(h:Rds cw b 0 (id,l) b' 0):vJ b=(id,l,b',0):=by
 have e:=h.1 rfl;rw[Yy rfl]at e;unfold vJ;rw[e]
theorem EK{b b':List Nat}{f id:Nat}{l:List Fd}(h:Rds cw b 0 (id,l) b' f)(hf:f≠0):vJ b=(0,[],[],f):=by
 have e:=h.1 rfl;rw[Yx hf]at e;unfold vJ;rw[e]
def Tn(w:World)(R:Nat×List Fd×List Nat×Nat)(e:Ending)(w':World):Prop :=
 (∃ v u,e=.returned (.tuple #[.agg #[.int .u32 (R.1:Int),v],u,.int .i64 (R.2.2.2:Int)])/\de w' w.heap.size v R.2.1/\aG w' w.heap.size u R.2.2.1)/\Below w.heap.size w w'
def Shr{α : Type}(m:List Nat->Except Nat (α×List Nat)):Prop:=∀ b x r,m b=.ok (x,r)->r.length<=b.length
theorem Shr.bind{α β : Type}{m:List Nat->Except Nat (α×List Nat)}{k:α->List Nat->Except Nat (β×List Nat)}(h:Shr m)(hk:∀ x,Shr (k x)):Shr (ap m k):=by
 intro b y r e;cases hm:m b with
 | error c=>rw[bQ hm]at e;cases e
 | ok q =>
  obtain⟨x,s⟩:=q;rw[ct hm]at e;exact YG (hk x s y r e) (h b x s hm)
theorem Shr.pure{α β : Type}(g:α->β)(x:α):Shr (fun r=>.ok (g x,r)):=by
 intro b y r e;cases e
 exact YA _
theorem mG(room:Nat):Shr (fY room):=by
 intro b x r e;unfold fY at e;split at e
 ·cases e
 ·split at e
  ·cases e
  ·cases e
   rw[Zf];omega
theorem Kh(n:Nat):Shr (textR n):=by
 intro b x r e;unfold textR at e;split at e
 ·cases e
 ·cases e
  rw[Zf];omega
theorem To:Shr su:=(mG _).bind fun i=>((mG _).bind fun n=>Kh n).bind fun s=>(mG _).bind fun k=>(mG _).bind fun n=>Shr.pure (fun _:Nat=>(i,s,k,decide (n=1))) 0
theorem BK:∀ n,Shr (jP n)
 | 0=>Shr.pure (fun _:Nat=>[]) 0
 | n+1=>(BK n).bind fun l=>To.bind fun f=>Shr.pure (fun _:Nat=>l++[f]) 0
theorem EL:Shr cw :=
 ((mG _).bind fun i=>(mG _).bind fun n=>(BK n).bind fun l=>Shr.pure (fun _:Nat=>(i,l)) 0).bind fun s=>by
  intro b x r e;simp only at e;split at e
  ·cases e;exact YA _
  ·cases e
theorem Tp{b b1:List Nat}{F:Nat}{x:Nat×List Fd}(h:Rds cw b 0 x b1 F)(hF:F=0):b1.length<=b.length:=by
 have e:=h.1 rfl;rw[Yy hF]at e;exact EL _ _ _ e
def Uns(w:World)(q:Nat)(W:World)(b:List Nat)(f id:Nat)(v:Value)(l:List Fd):Prop :=
 St 200 W (w.heap.size+1) b f/\w.heap.size+1<q/\W.heap[w.heap.size]?=some (.cells #[.int .u32 0,.slice none 0 0] 25 (0,0)) /\
 W.heap[q]?=some (.cells #[.int .u32 (id:Int),v] 25 (0,0))/\Below w.heap.size w W/\de W (w.heap.size+2) v l
theorem Uns.size{w W:World}{q f id:Nat}{b:List Nat}{v:Value}{l:List Fd}(h:Uns w q W b f id v l):q<W.heap.size:=(Array.getElem?_eq_some_iff.1 h.2.2.2.1).1
theorem Uns.kept{w W W':World}{q f id:Nat}{b:List Nat}{v:Value}{l:List Fd}(h:Uns w q W b f id v l)(hb:Below W.heap.size W W'):Uns w q W' b f id v l:=by
 have hz:=h.size;obtain⟨h1,h2,h3,h4,h5,h6⟩:=h;exact⟨h1.kept hb h1.lt,h2,(hb.block _ (by omega)).trans h3,(hb.block _ (by omega)).trans h4,h5.trans (hb.mono h5.size),h6.kept hb⟩
theorem Uns.call{w W W':World}{q f f' id:Nat}{b b':List Nat}{v:Value}{l:List Fd}(h:Uns w q W b f id v l)(hs:St 200 W' (w.heap.size+1) b' f')(hf:Fr (w.heap.size+1) W.heap.size W W'):Uns w q W' b' f' id v l:=by
 have hz:=h.size;obtain⟨h1,h2,h3,h4,h5,h6⟩:=h;exact⟨hs,h2,(hf.block _ (by omega) (by omega)).trans h3,(hf.block _ (by omega) (by omega)).trans h4,h5.trans (hf.below (by omega) h5.size),Fr.own hf h6 (by omega)⟩
theorem Uns.facts{w W:World}{q f id:Nat}{b:List Nat}{v:Value}{l:List Fd}(h:Uns w q W b f id v l) :
  (W.cell? ⟨q,0,none⟩=some (.int .u32 (id:Int))/\W.cell? ⟨q,1,none⟩=some v) /\
  (W.cell? ⟨w.heap.size,0,none⟩=some (.int .u32 0)/\W.cell? ⟨w.heap.size,1,none⟩=some (.slice none 0 0)) /\
  (W.frozen? ⟨w.heap.size,0,none⟩=false/\W.frozen? ⟨w.heap.size,1,none⟩=false):=by
 obtain⟨h1,h2,h3,h4,h5⟩:=h;refine⟨⟨?_,?_⟩,⟨?_,?_⟩,⟨?_,?_⟩⟩<;>first | (rw[an h4];rfl) | (rw[an h3];rfl) | (simp[World.frozen?,h3];done)
theorem Tq{b b1:List Nat}{f1 i:Nat}{l:List Fd}(h:Rds zD b 0 (i,l) b1 f1):Rds cw b 0 (i,l) b1 (orf f1 (chk i l)):=by
 unfold orf;by_cases hf:f1=0
 ·rw[Yy hf];subst hf;exact BJ h
 ·rw[Yx hf];exact h.bind (Rds.dead (i,l) hf)
theorem EM{w:World}{v:Value}{b:List Nat}(hs:Sv w v (az .u8 b))(hb:Bs b)(hl:b.length<=90000000) :
  Calls Tryz.prog 96 #[v] w (Tn w (vJ b)):=by
 obtain⟨a,cap,rfl,aV,bw⟩:=hs.form1;rw[am]at *;have HS0:=ae (St.make (T:=200) hs hb (aj w (.cells #[.int .u32 0,.slice none 0 0] 25)));have bN:(w.alloc (.cells #[.int .u32 0,.slice none 0 0] 25)).heap.size=w.heap.size+1:=YB _ _;have Yc:=ae ((aj (w.alloc (.cells #[.int .u32 0,.slice none 0 0] 25)) (.cells #[.slice a b.length cap,.int .i64 ((0:Nat):Int)] 200)).block w.heap.size (by omega) |>.trans (Zb w _));have bV:=ae (((aj w (.cells #[.int .u32 0,.slice none 0 0] 25))).alloc (by omega) (.cells #[.slice a b.length cap,.int .i64 ((0:Nat):Int)] 200));rw[bN]at HS0;clear hs;have hzW:((w.alloc (.cells #[.int .u32 0,.slice none 0 0] 25)).alloc (.cells #[.slice a b.length cap,.int .i64 ((0:Nat):Int)] 200)).heap.size=w.heap.size+2:=by rw[YB,bN]
 have HZW:=ae hzW;clear hzW;generalize hW:(w.alloc (.cells #[.int .u32 0,.slice none 0 0] 25)).alloc (.cells #[.slice a b.length cap,.int .i64 ((0:Nat):Int)] 200)=W at *;have hW':(w.alloc (.cells #[.int .u32 0,.slice none 0 0] 25)).alloc (.cells #[.slice a b.length cap,.int .i64 0] 200)=W:=hW;go_enter Tryz.func96,Tryz.ntmps96
 go_wp2_with fail;try rw[hW']
 clear hW hW' bN;refine(EJ HS0.o).mono ?_;rintro e w3 ⟨id,l,v,b',f',rfl,eR,nl,jD,iZ,jX,Va,gC⟩;obtain⟨va,vcap,hv,_,_⟩:=aM eR;subst hv
 have XV:jaH (Uns w w3.heap.size (w3.alloc (.cells #[.int .u32 (id:Int),.slice va l.length vcap] 25)) b' f' id (.slice va l.length vcap) l):=by
  have hz:=HZW.o;have jE:=gC.size;have aO:=aj w3 (.cells #[.int .u32 (id:Int),.slice va l.length vcap] 25);refine ae ⟨jX.kept aO jX.lt,by omega,(aO.block _ (by omega)).trans ((gC.block _ (by omega) (by omega)).trans Yc.o),Zb w3 _,(bV.o.trans (gC.below (by omega) (by omega))).trans (aO.mono (by omega)),?_⟩;rw[hz]at eR;exact eR.kept aO
 have qh:=ae (Tq Va);have Vk:=ae nl;clear eR jX Va gC iZ nl;obtain⟨⟨c0,c1⟩,⟨d0,d1⟩,⟨z0,z1⟩⟩:=XV.o.facts;have HQL:jaH (w3.heap.size<(w3.alloc (.cells #[.int .u32 (id:Int),.slice va l.length vcap] 25)).heap.size):=ae (by rw[YB];omega);go_wp2_with fail;generalize hq:w3.heap.size=q at *;generalize hX:w3.alloc (.cells #[.int .u32 (id:Int),.slice va l.length vcap] 25)=X at *;try rw[hX]
 clear hX hq;refine(xe XV.o.2.2.2.2.2.sf id).mono ?_;rintro e w5 ⟨rfl,bv⟩;have HU5:=ae (XV.o.kept bv);clear bv;go_wp2_with fail;refine(lh HU5.o.1 (chk id l)).mono ?_;rintro e w6 ⟨rfl,uM,TP⟩;have Xw:=ae (HU5.o.call uM TP);clear uM TP c0 c1 d0 d1 z0 z1 HU5 XV;generalize orf f' (chk id l)=F at *;obtain⟨⟨c0,c1⟩,⟨d0,d1⟩,⟨z0,z1⟩⟩:=Xw.o.facts;obtain⟨ra,rcap,r0,r1,r2,r3,r4,r5,r6,_,_⟩:=Xw.o.1.cells2;have Cc:=ae r6;have HQ:=ae Xw.o.2.1;have Xu:¬ w.heap.size=w.heap.size+1:=by omega
 have vR:¬ w.heap.size+1=w.heap.size:=by omega
 have hne3:¬ w.heap.size=q:=by have:=HQ.o;omega
 have WY:¬ q=w.heap.size:=by have:=HQ.o;omega
 clear r6 r4 r5;by_cases hF:F=0
 ·have hFa:((F:Int) != 0)=false:=by simp[hF]
  have WD:jaH (b'.length<=100000000):=ae (by have:=Tp qh.o hF;omega)
  have HOKR:jaH (vJ b=(id,l,b',0)):=by
   have h:=qh.o;rw[hF]at h;exact ae (Tm h)
  clear hF
  have mH:jaH (∀ m,Calls Tryz.prog 93 #[.slice ra b'.length rcap] (w6.drewN m) fun e w'=>∃ u,e=.returned u/\aG w' (w.heap.size+1) u b'/\Uns w q w' b' F id (.slice va l.length vcap) l/\(w'.cell? ⟨q,0,none⟩=some (.int .u32 (id:Int))/\w'.cell? ⟨q,1,none⟩=some (.slice va l.length vcap))/\(w'.frozen? ⟨w.heap.size,0,none⟩=false/\w'.frozen? ⟨w.heap.size,1,none⟩=false)/\(w'.cell? ⟨w.heap.size,0,none⟩=some (.int .u32 0)/\w'.cell? ⟨w.heap.size,1,none⟩=some (.slice none 0 0))/\w'.cell? ⟨w.heap.size+1,0,none⟩=some (.slice ra b'.length rcap)):=ae (fun m=>by
   have qb:Below w6.heap.size w6 (w6.drewN m):=ak (Yz w6.heap.size w6) m;refine(Kg (Cc.o.kept qb) WD.o).mono ?_;rintro e w' ⟨⟨u,rfl,ou⟩,hb'⟩;have ay:=ag qb hb';have hu:=Xw.o.kept ay;obtain⟨e0,e1,e2⟩:=hu.facts;refine⟨u,rfl,?_,hu,e0,e2,e1,(ay.cell (p:=⟨w.heap.size+1,0,none⟩) Xw.o.1.lt).trans r0⟩;have hz:w.heap.size+1<=(w6.drewN m).heap.size:=YG (YV Xw.o.1.lt) qb.size;exact bE ou hz)
  go_wp2_with fail
  go_region_held3 (fun w'=>w'.cell? ⟨q,0,none⟩=some (.int .u32 (id:Int))/\w'.cell? ⟨q,1,none⟩=some (.slice va l.length vcap)/\w'.cell? ⟨w.heap.size+1,0,none⟩=some (.slice ra b'.length rcap)) (first | assumption | go_keep) (first
   | (go_at_call 93;refine(mH.o _).mono ?_;rintro e w7 ⟨u7,rfl,o7,hu7,⟨g0,g1⟩,⟨g2,g3⟩,⟨g4,g5⟩,g6⟩;have qY:=ae o7;have HU7:=ae hu7;clear o7 hu7))
  go_wp2_with fail;refine bodyPost_ret (v:=.tuple #[.agg #[.int .u32 (id:Int),.slice va l.length vcap],u7,.int .i64 ((0:Nat):Int)]) (by simp[results,Tryz.results96,go_sem,g4,g5]) rfl ?_;rw[HOKR.o];refine⟨⟨_,_,rfl,(AJ HU7.o.2.2.2.2.2 (by omega) _ _).low (by omega),?_⟩,nT HU7.o.2.2.2.2.1 (YA _) _ _⟩;exact bE (Fr.own (((Fr.refl w.heap.size w7.heap.size w7).set 0 _).set 1 _) qY.o (by omega)) (by omega)
 ·have hFa:((F:Int) != 0)=true:=by simp[hF]
  have HER:=ae (EK qh.o hF);clear hF;go_wp2_with fail;go_region
  go_wp2_with fail;refine bodyPost_ret (v:=.tuple #[.agg #[.int .u32 ((0:Nat):Int),.slice none 0 0],.slice none 0 0,.int .i64 (F:Int)]) (by simp[results,Tryz.results96,go_sem,d0,d1]) rfl ?_;rw[HER.o];exact⟨⟨_,_,rfl,de.nil _ _,aG.nil _ _⟩,(nT Xw.o.2.2.2.2.1 (YA _) _ _).drew⟩
end Go.Proofs.YtpljdjmpamjkhaaGreatDoor
