import Derived.Test.YtpljdjmpamjkhaaGreatDoorSah
import Derived.Test.YtpljdjmpamjkhaaGreatDoorSai
import Derived.Maps.OwnIn
import Derived.Deep.AppendLies
set_option linter.all false
set_option maxHeartbeats 2000000
set_option maxRecDepth 100000
namespace Go.Proofs.YtpljdjmpamjkhaaGreatDoor
open Tryz
open Go.RowKit Go.Lib
def ph{w:World}(ty:TypeId)(base:Nat)(v vx:Value)(l0 l:List Nat)(ax:aM w base v l0)(eg:Sv w vx (aA .u8 l))(hbytes:l0.length+l.length<=140737488355328)(aF:base<=w.heap.size) :
  ∃ v' w',(Builtin.append_ #[30,30] ty #[v,vx]).run prog w=.ok v' w'/\aM w' base v' (l0++l)/\w.grownBy w' v.ownBlock/\(v'.ownBlock=v.ownBlock∨v'.ownBlock=some w.heap.size):=by
 obtain⟨i0,hi,bR,hz1',aX⟩:=jeT nl;unfold aM at *;obtain⟨ad,cap,rfl,h1,h2,h3,h4⟩:=eg;rw[am]at *;cases ad with
 | none =>
  have hc:=h3 rfl;subst hc;have hl:l=[]:=jeW (by omega);subst hl;have hr:=jgb (P:=prog) (w:=w) base 30 ty 5 i0 1 underlying30 hi v l0.length (aA .u8 l0) ax;refine⟨v,w,hr,by rw[jeS];exact ax,⟨rfl,rfl,rfl,jeA _,λ_ _ _=>rfl⟩,Or.inl rfl⟩
 | some ad =>
  obtain⟨v',w',hr,o1,g1,_,e1⟩:=run_append_own_at (P:=prog) w base 30 ty 5 i0 (.int .u8 0) 1 1 underlying30 hi bR hz1' aX rfl (by decide) v l0.length (aA .u8 l0) ax ad l.length cap (aA .u8 l) (by rw[am];omega)
   (λj u hu=>by
    have hj:j<l.length:=by
     have:=(List.getElem?_eq_some_iff.1 hu).1;rwa[am]at this
    obtain⟨b,off,h5,_,h6⟩:=h4 (by omega);cases h5
    rw[kP];exact h6 j u hu) (jM _ _) (by unfold maxLen;omega) (by omega) aF
  refine⟨v',w',hr,?_,g1,e1⟩;rw[ek,jeC];exact o1
def uw{w w':World}{base:Nat}{v:Value}{l:List Nat}(ax:aM w base v l)(hg:w.grownBy w' v.ownBlock)(aF:base<=w.heap.size):Below base w w' :=
 (jez base w).grown hg aF (λk hk=>(ax.lt k hk).1)
def rg{w:World}{o:Oper}{a:Act}{K:Act->World->Prop}{Q:Exit->Act->World->Prop}(s x:Operand)
  (ho:o.op=.call { callee:=.builtin .append,args:=#[s,x],argTypes:=#[30,30] })
  (base:Nat) (v vx:Value) (l0 l:List Nat) (hs:a.eval s=v) (ax:aM w base v l0) (hx:a.eval x=vx) (eg:Sv w vx (aA .u8 l)) (hbytes:l0.length+l.length<=140737488355328) (aF:base<=w.heap.size)
  (h:∀ v' w',aM w' base v' (l0++l)->Below base w w'->w.grownBy w' v.ownBlock->(v'.ownBlock=v.ownBlock∨v'.ownBlock=some w.heap.size)->K (a.put o.dst v') w'):Oper.wp prog o a w K Q:=by
 obtain⟨v',w',hr,h2,h3,h4⟩:=ph o.type base v vx l0 l ax eg hbytes aF;unfold Oper.wp execOp;simp only[ho,resolve,invoke,builtin,Sem.run_bind,Sem.run_pure,Result.andThen_ok,jfN,je4,jfr,hs,hx,hr];exact h v' w' h2 (uw ax h3 aF) h3 h4
def xg{w:World}{ops:Array Oper}{o:Oper}{a:Act}{K:Act->World->Prop}{Q:Exit->Act->World->Prop}{E:Prop}(ef:o.guard=none)(s x:Operand)
  (ho:o.op=.call { callee:=.builtin .append,args:=#[s,x],argTypes:=#[30,30] })
  (base:Nat) (v vx:Value) (l0 l:List Nat) (hs:a.eval s=v) (ax:aM w base v l0) (hx:a.eval x=vx) (eg:Sv w vx (aA .u8 l)) (hbytes:l0.length+l.length<=140737488355328) (aF:base<=w.heap.size)
  (h:∀ v' w',aM w' base v' (l0++l)->Below base w w'->w.grownBy w' v.ownBlock->(v'.ownBlock=v.ownBlock∨v'.ownBlock=some w.heap.size)->K (a.put o.dst v') w') :
  if Region.wanted o (yielded ops a.tmps)=true then Oper.wp prog o a w K Q else E:=by
 have hw:Region.wanted o (yielded ops a.tmps)=true:=by simp[Region.wanted,ef]
 rw[jey hw];exact rg s x ho base v vx l0 l hs ax hx eg hbytes aF h
def eE{w:World}{ops:Array Oper}{rest:List Oper}{o:Oper}{a:Act}{Q:Exit->Act->World->Prop}(ef:o.guard=none)(s x:Operand)
  (ho:o.op=.call { callee:=.builtin .append,args:=#[s,x],argTypes:=#[30,30] })
  (base:Nat) (v vx:Value) (l0 l:List Nat) (hs:a.eval s=v) (ax:aM w base v l0) (hx:a.eval x=vx) (eg:Sv w vx (aA .u8 l)) (hbytes:l0.length+l.length<=140737488355328) (aF:base<=w.heap.size)
  (h:∀ v' w',aM w' base v' (l0++l)->Below base w w'->w.grownBy w' v.ownBlock->(v'.ownBlock=v.ownBlock∨v'.ownBlock=some w.heap.size)->wpList prog ops Q rest (a.put o.dst v') w') :
  wpList prog ops Q (o::rest) a w :=
 wpList_plain ef λK hK=>rg s x ho base v vx l0 l hs ax hx eg hbytes aF λv' w' h1 h2 h3 h4=>hK _ _ (h v' w' h1 h2 h3 h4)
def vk{w:World}{ops:Array Oper}{o:Oper}{a:Act}{K:Act->World->Prop}{Q:Exit->Act->World->Prop}{E:Prop}(ef:o.guard=none)(s x:Operand)
  (ho:o.op=.call { callee:=.builtin .append,args:=#[s,x],argTypes:=#[30,9] })
  (base:Nat) (v:Value) (l0:List Nat) (z:ByteArray) (hs:a.eval s=v) (ax:aM w base v l0) (hx:a.eval x=.string z) (hbytes:l0.length+z.size<=140737488355328) (aF:base<=w.heap.size)
  (h:∀ v' w',aM w' base v' (l0++ei z)->Below base w w'->K (a.put o.dst v') w') :
  if Region.wanted o (yielded ops a.tmps)=true then Oper.wp prog o a w K Q else E:=by
 have hw:Region.wanted o (yielded ops a.tmps)=true:=by simp[Region.wanted,ef]
 rw[jey hw];obtain⟨i0,hi,bR,hz1',aX⟩:=jeT nl;have hb:=ax;unfold aM at ax;obtain⟨v',w',hr,o1,g1,_⟩:=run_append_own_string (P:=prog) (w:=w) base 30 9 o.type 5 i0 underlying30 underlying9 hi bR hz1' aX v l0.length (aA .u8 l0) ax z (by unfold maxLen;omega) hbytes aF;unfold Oper.wp execOp;simp only[ho,resolve,invoke,builtin,Sem.run_bind,Sem.run_pure,Result.andThen_ok,jfN,je4,jfr,hs,hx,hr];refine h v' w' ?_ (uw hb g1 aF)
 have e:strCells z=aA .u8 (ei z):=by
  unfold strCells aA ei;rw[ByteArray.toList_eq];simp[jfa,Function.comp_def]
 unfold aM;rw[e]at o1;rw[ek,jeC,lG];exact o1
def cmpK(a b:Int)(w:World):Calls prog 150 #[.int .u8 a,.int .u8 b] w λe w'=>e=.returned (.int .i64 (if a<b then -1 else if b<a then 1 else 0))/\w'=w:=by
 by_cases h1:a<b
 ·go_enter func150,ntmps150
  go_wp2;go_ret
  exact⟨rfl,rfl⟩
 ·by_cases h2:b<a
  ·go_enter func150,ntmps150
   go_wp2;go_ret
   exact⟨rfl,rfl⟩
  ·go_enter func150,ntmps150
   go_wp2;go_ret
   exact⟨rfl,rfl⟩
def cmpI(a b:Int)(w:World):Calls prog 151 #[.int .i64 a,.int .i64 b] w λe w'=>e=.returned (.int .i64 (if a<b then -1 else if b<a then 1 else 0))/\w'=w:=by
 by_cases h1:a<b
 ·go_enter func151,ntmps151
  go_wp2;go_ret
  exact⟨rfl,rfl⟩
 ·by_cases h2:b<a
  ·go_enter func151,ntmps151
   go_wp2;go_ret
   exact⟨rfl,rfl⟩
  ·go_enter func151,ntmps151
   go_wp2;go_ret
   exact⟨rfl,rfl⟩
def YK(a b:ByteArray)(w:World)(h:Op.bytesLess a.toList b.toList=true):Calls prog 152 #[.string a,.string b] w λe w'=>e=.returned (.int .i64 (-1))/\w'=w:=by
 go_enter func152,ntmps152
 go_wp2;go_ret
 exact⟨rfl,rfl⟩
def YL(a b:ByteArray)(w:World)(h:Op.bytesLess a.toList b.toList=false)(h2:(a.toList==b.toList)=true):Calls prog 152 #[.string a,.string b] w λe w'=>e=.returned (.int .i64 0)/\w'=w:=by
 go_enter func152,ntmps152
 go_wp2;go_ret
 exact⟨rfl,rfl⟩
def YM(a b:ByteArray)(w:World)(h:Op.bytesLess a.toList b.toList=false)(h2:(a.toList==b.toList)=false):Calls prog 152 #[.string a,.string b] w λe w'=>e=.returned (.int .i64 1)/\w'=w:=by
 go_enter func152,ntmps152
 go_wp2;go_ret
 exact⟨rfl,rfl⟩
def c3(a b:Int):Int:=if a<b then -1 else if b<a then 1 else 0
def cS(a b:ByteArray):Int:=if Op.bytesLess a.toList b.toList=true then -1 else if (a.toList==b.toList)=true then 0 else 1
def or3(x y z:Int):Int:=if x≠0 then x else if y≠0 then y else z
def TQ(a b:Int)(w:World):Calls prog 150 #[.int .u8 a,.int .u8 b] w λe w'=>e=.returned (.int .i64 (c3 a b))/\w'=w:=by
 unfold c3;exact cmpK a b w
def TR(a b:Int)(w:World):Calls prog 151 #[.int .i64 a,.int .i64 b] w λe w'=>e=.returned (.int .i64 (c3 a b))/\w'=w:=by
 unfold c3;exact cmpI a b w
def TT(a b:ByteArray)(w:World):Calls prog 152 #[.string a,.string b] w λe w'=>e=.returned (.int .i64 (cS a b))/\w'=w:=by
 unfold cS;by_cases h:Op.bytesLess a.toList b.toList=true
 ·rw[jey h];exact YK a b w h
 ·rw[jex h]
  by_cases h2:(a.toList==b.toList)=true
  ·rw[jey h2];exact YL a b w (by simpa using h) h2
  ·rw[jex h2];exact YM a b w (by simpa using h) (by simpa using h2)
def or_x(g:Nat)(x:Int)(w:World)(h0:w.cell? ⟨g,0,none⟩=some (.int .i64 x))(hx:(x != 0)=true):Calls prog 149 #[.slice (some ⟨g,0,none⟩) 3 3] w λe w'=>e=.returned (.int .i64 x)/\w'=w:=by
 go_enter func149,ntmps149
 go_wp2;refine wp_loop_rounds 1 ?_;rw[rounds_succ];go_wp2;go_ret
 exact⟨rfl,rfl⟩
def or_y(g:Nat)(y:Int)(w:World)(h0:w.cell? ⟨g,0,none⟩=some (.int .i64 0))(h1:w.cell? ⟨g,1,none⟩=some (.int .i64 y))(hy:(y != 0)=true):Calls prog 149 #[.slice (some ⟨g,0,none⟩) 3 3] w λe w'=>e=.returned (.int .i64 y)/\w'=w:=by
 go_enter func149,ntmps149
 go_wp2;refine wp_loop_rounds 2 ?_;rw[rounds_succ];go_wp2;rw[rounds_succ];go_wp2;go_ret
 exact⟨rfl,rfl⟩
def or_z(g:Nat)(z:Int)(w:World)(h0:w.cell? ⟨g,0,none⟩=some (.int .i64 0))(h1:w.cell? ⟨g,1,none⟩=some (.int .i64 0))(h2:w.cell? ⟨g,2,none⟩=some (.int .i64 z))(hz:(z != 0)=true):Calls prog 149 #[.slice (some ⟨g,0,none⟩) 3 3] w λe w'=>e=.returned (.int .i64 z)/\w'=w:=by
 go_enter func149,ntmps149
 go_wp2;refine wp_loop_rounds 3 ?_;rw[rounds_succ];go_wp2;rw[rounds_succ];go_wp2;rw[rounds_succ];go_wp2;go_ret
 exact⟨rfl,rfl⟩
def YN(g:Nat)(w:World)(h0:w.cell? ⟨g,0,none⟩=some (.int .i64 0))(h1:w.cell? ⟨g,1,none⟩=some (.int .i64 0))(h2:w.cell? ⟨g,2,none⟩=some (.int .i64 0)):Calls prog 149 #[.slice (some ⟨g,0,none⟩) 3 3] w λe w'=>e=.returned (.int .i64 0)/\w'=w:=by
 go_enter func149,ntmps149
 go_wp2;refine wp_loop_rounds 4 ?_;rw[rounds_succ];go_wp2;rw[rounds_succ];go_wp2;rw[rounds_succ];go_wp2;rw[rounds_succ];go_wp2;go_ret
 exact⟨rfl,rfl⟩
def jcc(g:Nat)(x y z:Int)(w:World)(h0:w.cell? ⟨g,0,none⟩=some (.int .i64 x))(h1:w.cell? ⟨g,1,none⟩=some (.int .i64 y))(h2:w.cell? ⟨g,2,none⟩=some (.int .i64 z)):Calls prog 149 #[.slice (some ⟨g,0,none⟩) 3 3] w λe w'=>e=.returned (.int .i64 (or3 x y z))/\w'=w:=by
 unfold or3;by_cases hx:x≠0
 ·rw[jey hx];exact or_x g x w h0 (by simpa using hx)
 ·rw[jex hx]
  obtain rfl:x=0:=by omega
  by_cases hy:y≠0
  ·rw[jey hy];exact or_y g y w h0 h1 (by simpa using hy)
  ·rw[jex hy]
   obtain rfl:y=0:=by omega
   by_cases hz:z=0
   ·subst hz;exact YN g w h0 h1 h2
   ·exact or_z g z w h0 h1 h2 (by simpa using hz)
def Eu{x y:Value}{k n k' n':Int}{s s':ByteArray}(hx:Val x k n s)(hy:Val y k' n' s')(w:World):Calls prog 105 #[x,y] w λe w'=>e=.returned (.int .i64 (or3 (c3 k k') (c3 n n') (cS s s')))/\jgu w w':=by
 go_enter func105,ntmps105
 go_wp2_with fail;refine(pw hx _).mono ?_;rintro e w1 ⟨rfl,az⟩;go_wp2_with fail;refine(pw hy _).mono ?_;rintro e w2 ⟨rfl,ap⟩;have bW:=az.size;have aX:w1.heap.size<w2.heap.size:=by have:=ap.size;simp at this;omega
 obtain⟨jv,cM⟩:=fA ap;have p0:=jv w1.heap.size 0 (by simp);have p1:=jv w1.heap.size 1 (by simp);have p2:=jv w1.heap.size 2 (by simp);clear jv cM;simp at p0 p1 p2
 go_wp2_with fail;obtain⟨W,hW⟩:∃ W:World,W=w2.alloc (Obj.cells #[Value.int IntKind.u8 k',Value.int IntKind.i64 n',Value.string s'] 52):=⟨_,rfl⟩;have hbW:jgu w2 W:=by rw[hW];exact(jez _ _).alloc (jeA _) _
 have a0:W.cell? ⟨w1.heap.size,0,none⟩=some (.int .u8 k):=(hbW.cell (p:=⟨w1.heap.size,0,none⟩) aX).trans p0;have a1:W.cell? ⟨w1.heap.size,1,none⟩=some (.int .i64 n):=(hbW.cell (p:=⟨w1.heap.size,1,none⟩) aX).trans p1;have a2:W.cell? ⟨w1.heap.size,2,none⟩=some (.string s):=(hbW.cell (p:=⟨w1.heap.size,2,none⟩) aX).trans p2;have b0:W.cell? ⟨w2.heap.size,0,none⟩=some (.int .u8 k'):=by rw[hW];simp
 have b1:W.cell? ⟨w2.heap.size,1,none⟩=some (.int .i64 n'):=by rw[hW];simp
 have b2:W.cell? ⟨w2.heap.size,2,none⟩=some (.string s'):=by rw[hW];simp
 have hzW:w2.heap.size<W.heap.size:=by rw[hW];simp
 have hzV:w1.heap.size<W.heap.size:=by omega
 have HB:jgu w W:=by rw[hW];exact(((az.alloc (by omega) _).trans (ap.mono (by simp;omega))).alloc (by omega) _)
 have HH:jgt (jgu w W):=HB;clear HB;rw[<- hW];clear hW hbW p0 p1 p2 az ap hx hy;go_region_held3 (λw'=>w'.cell? ⟨w1.heap.size,0,none⟩=some (.int .u8 k)/\w'.cell? ⟨w1.heap.size,1,none⟩=some (.int .i64 n)/\w'.cell? ⟨w1.heap.size,2,none⟩=some (.string s)/\w'.cell? ⟨w2.heap.size,0,none⟩=some (.int .u8 k')/\w'.cell? ⟨w2.heap.size,1,none⟩=some (.int .i64 n')/\w'.cell? ⟨w2.heap.size,2,none⟩=some (.string s')) (go_keep) (first | (go_at_call 150;refine(TQ _ _ _).mono ?_;rintro e w' ⟨rfl,rfl⟩) | (go_at_call 151;refine(TR _ _ _).mono ?_;rintro e w' ⟨rfl,rfl⟩) | (go_at_call 152;refine(TT _ _ _).mono ?_;rintro e w' ⟨rfl,rfl⟩) | (go_at_call 149;refine(jcc _ (c3 k k') (c3 n n') (cS s s') _ ?_ ?_ ?_).mono ?_;(simp);(simp);(simp);rintro e w' ⟨rfl,rfl⟩))
 all_goals go_wp2
 all_goals go_ret
 all_goals refine⟨rfl,?_⟩
 all_goals exact(HH.o.alloc (by have:=HH.o.size;omega) _).drew
def kA(k n:Int)(s:ByteArray)(w:World):Calls prog 266 #[.agg #[.int .u8 k,.int .i64 n,.string s]] w λe w'=>e=.returned (.bool (jx k n))/\jgu w w':=by
 unfold jx;by_cases h1:(k==1)=true
 ·go_enter func266,ntmps266
  go_wp2;go_ret
  exact⟨rfl,(jez _ _).alloc (jeA _) _⟩
 ·by_cases h2:(k==2)=true
  ·by_cases h3:(n==0)=true
   ·go_enter func266,ntmps266
    go_wp2;go_ret
    exact⟨rfl,(jez _ _).alloc (jeA _) _⟩
   ·go_enter func266,ntmps266
    go_wp2;go_ret
    exact⟨rfl,(jez _ _).alloc (jeA _) _⟩
  ·go_enter func266,ntmps266
   go_wp2;go_ret
   exact⟨rfl,(jez _ _).alloc (jeA _) _⟩
def Ju{v:Value}{k n:Int}{s:ByteArray}(h:Val v k n s)(w:World):Calls prog 144 #[v] w λe w'=>e=.returned (.int .u8 k)/\w'=w:=by
 have t1:=Ba;have t2:=GZ;have t3:=Bc;have t4:=Ha;have t5:=Hb;have t6:=Bd;have t7:=Hc;have t8:=Hd;have t9:=He;rcases h with ⟨rfl,rfl,rfl,rfl⟩ | ⟨rfl,rfl,rfl⟩ | ⟨b,rfl,rfl,rfl,rfl⟩ | ⟨rfl,rfl,rfl⟩
 all_goals
  go_enter func144,ntmps144
  go_wp2;go_ret
  exact⟨rfl,rfl⟩
def Jv{v:Value}{k n:Int}{s:ByteArray}(h:Val v k n s)(w:World):Calls prog 100 #[v] w λe w'=>e=.returned (.int .u8 k)/\w'=w:=by
 go_enter func100,ntmps100
 go_wp2_with fail;refine(Ju h _).mono ?_;rintro e w1 ⟨rfl,rfl⟩;go_wp2;go_ret
 exact⟨rfl,rfl⟩
def Jw(k n:Int)(s:ByteArray)(w:World)(h1:3<k):Calls prog 238 #[.agg #[.int .u8 k,.int .i64 n,.string s]] w λe w'=>e=.returned (.int .i64 10)/\jgu w w':=by
 go_enter func238,ntmps238
 go_wp2;go_ret
 exact⟨rfl,(jez _ _).alloc (jeA _) _⟩
def Jy(k n:Int)(s:ByteArray)(w:World)(h1:k<=3)(h2:(k != 3)=true)(h3:s.toList.isEmpty=false):Calls prog 238 #[.agg #[.int .u8 k,.int .i64 n,.string s]] w λe w'=>e=.returned (.int .i64 1)/\jgu w w':=by
 go_enter func238,ntmps238
 go_wp2;go_ret
 exact⟨rfl,(jez _ _).alloc (jeA _) _⟩
def Pk(k n:Int)(s:ByteArray)(w:World)(h1:k<=3)(h2:(k != 3)=false∨(k != 3)=true/\s.toList.isEmpty=true)(h3:jx k n=false):Calls prog 238 #[.agg #[.int .u8 k,.int .i64 n,.string s]] w λe w'=>e=.returned (.int .i64 1)/\jgu w w':=by
 rcases h2 with h2 | ⟨h2,h4⟩
 all_goals
  go_enter func238,ntmps238
  go_wp2_with fail;refine(kA _ _ _ _).mono ?_;rw[h3];rintro e w1 ⟨rfl,hb⟩;obtain⟨hc,hf⟩:=fA hb;go_wp2;go_ret
  exact⟨rfl,((jez _ _).alloc (jeA _) _).trans (hb.mono (by simp))⟩
def Jz(k n:Int)(s:ByteArray)(w:World)(h1:k<=3)(h2:(k != 3)=false∨(k != 3)=true/\s.toList.isEmpty=true)(h3:jx k n=true)(h5:64<(s.size:Int)):Calls prog 238 #[.agg #[.int .u8 k,.int .i64 n,.string s]] w λe w'=>e=.returned (.int .i64 5)/\jgu w w':=by
 rcases h2 with h2 | ⟨h2,h4⟩
 all_goals
  go_enter func238,ntmps238
  go_wp2_with fail;refine(kA _ _ _ _).mono ?_;rw[h3];rintro e w1 ⟨rfl,hb⟩;obtain⟨hc,hf⟩:=fA hb;go_wp2;go_ret
  exact⟨rfl,((jez _ _).alloc (jeA _) _).trans (hb.mono (by simp))⟩
def TU(k n:Int)(s:ByteArray)(w:World)(h1:k<=3)(h2:(k != 3)=false∨(k != 3)=true/\s.toList.isEmpty=true)(h3:jx k n=true)(h5:(s.size:Int)<=64):Calls prog 238 #[.agg #[.int .u8 k,.int .i64 n,.string s]] w λe w'=>e=.returned (.int .i64 0)/\jgu w w':=by
 rcases h2 with h2 | ⟨h2,h4⟩
 all_goals
  go_enter func238,ntmps238
  go_wp2_with fail;refine(kA _ _ _ _).mono ?_;rw[h3];rintro e w1 ⟨rfl,hb⟩;obtain⟨hc,hf⟩:=fA hb;go_wp2;go_ret
  exact⟨rfl,((jez _ _).alloc (jeA _) _).trans (hb.mono (by simp))⟩
def Ad(k n:Int)(s:ByteArray)(w:World):Calls prog 238 #[.agg #[.int .u8 k,.int .i64 n,.string s]] w λe w'=>e=.returned (.int .i64 (flt k n s))/\jgu w w':=by
 unfold flt;by_cases h1:3<k
 ·rw[jey h1];exact Jw k n s w h1
 ·rw[jex h1]
  by_cases h2:tx k s=true
  ·rw[jey h2];exact Jy k n s w (by omega) (Be h2).1 (Be h2).2
  ·rw[jex h2]
   have h2':=wz (by simpa using h2);by_cases h3:jx k n=false
   ·rw[jey h3];exact Pk k n s w (by omega) h2' h3
   ·rw[jex h3]
    by_cases h4:64<(s.size:Int)
    ·rw[jey h4];exact Jz k n s w (by omega) h2' (by simpa using h3) h4
    ·rw[jex h4];exact TU k n s w (by omega) h2' (by simpa using h3) (by omega)
def jcd(k n:Int)(s:ByteArray)(h:(flt k n s != 0)=true)(w:World):Calls prog 217 #[.agg #[.int .u8 k,.int .i64 n,.string s]] w λe w'=>e=.returned (.tuple #[.nilIface,.int .i64 (flt k n s)])/\jgu w w':=by
 go_enter func217,ntmps217
 go_wp2_with fail;refine(Ad _ _ _ _).mono ?_;rintro e w1 ⟨rfl,hb⟩;go_wp2_with fail;go_ret2
 exact⟨rfl,((jez _ _).alloc (jeA _) _).trans (hb.mono (by simp))⟩
def YO(k n:Int)(s:ByteArray)(h0:0<=k)(h:flt k n s=0)(w:World):Calls prog 217 #[.agg #[.int .u8 k,.int .i64 n,.string s]] w λe w'=>(∃ v,e=.returned (.tuple #[v,.int .i64 0])/\Val v k n s)/\jgu w w':=by
 have hf:=Ad k n s;rw[h]at hf;have HF:jgt (∀ w:World,Calls prog 238 #[.agg #[.int .u8 k,.int .i64 n,.string s]] w λe w'=>e=.returned (.int .i64 0)/\jgu w w'):=hf;clear hf;obtain⟨rfl,rfl,rfl⟩ | ⟨rfl,rfl⟩ | ⟨rfl,rfl,rfl⟩ | ⟨rfl,rfl,rfl⟩ | ⟨rfl,rfl,hs⟩:=qD h0 h
 all_goals clear h h0
 ·go_enter func217,ntmps217
  go_wp2_with fail;refine(HF.o _).mono ?_;rintro e w1 ⟨rfl,hb⟩;obtain⟨hc,hf⟩:=fA hb;go_wp2_with fail;go_ret2
  exact⟨⟨_,rfl,Or.inl ⟨rfl,rfl,rfl,rfl⟩⟩,((jez _ _).alloc (jeA _) _).trans (hb.mono (by simp))⟩
 ·go_enter func217,ntmps217
  go_wp2_with fail;refine(HF.o _).mono ?_;rintro e w1 ⟨rfl,hb⟩;obtain⟨hc,hf⟩:=fA hb;go_wp2_with fail;go_ret2
  exact⟨⟨_,rfl,Or.inr (Or.inl ⟨rfl,rfl,rfl⟩)⟩,((jez _ _).alloc (jeA _) _).trans (hb.mono (by simp))⟩
 ·go_enter func217,ntmps217
  go_wp2_with fail;refine(HF.o _).mono ?_;rintro e w1 ⟨rfl,hb⟩;obtain⟨hc,hf⟩:=fA hb;go_wp2_with fail;go_ret2
  exact⟨⟨_,rfl,Or.inr (Or.inr (Or.inl ⟨false,rfl,rfl,rfl,rfl⟩))⟩,((jez _ _).alloc (jeA _) _).trans (hb.mono (by simp))⟩
 ·go_enter func217,ntmps217
  go_wp2_with fail;refine(HF.o _).mono ?_;rintro e w1 ⟨rfl,hb⟩;obtain⟨hc,hf⟩:=fA hb;go_wp2_with fail;go_ret2
  exact⟨⟨_,rfl,Or.inr (Or.inr (Or.inl ⟨true,rfl,rfl,rfl,rfl⟩))⟩,((jez _ _).alloc (jeA _) _).trans (hb.mono (by simp))⟩
 ·go_enter func217,ntmps217
  go_wp2_with fail;refine(HF.o _).mono ?_;rintro e w1 ⟨rfl,hb⟩;obtain⟨hc,hf⟩:=fA hb;go_wp2_with fail;go_ret2
  exact⟨⟨_,rfl,Or.inr (Or.inr (Or.inr ⟨rfl,rfl,rfl⟩))⟩,((jez _ _).alloc (jeA _) _).trans (hb.mono (by simp))⟩
def tm(a:Int):Int:=if 2<a then 1 else a
def jce{a:Int}(h:0<=a):tm a=0∨tm a=1∨tm a=2:=by
 unfold tm;split<;>omega
def nH(a:Int)(w:World):Calls prog 192 #[.int .u8 a] w λe w'=>e=.returned (.int .u8 (tm a))/\w'=w:=by
 unfold tm;by_cases h:2<a
 ·go_enter func192,ntmps192
  go_wp2;go_ret
  exact⟨rfl,rfl⟩
 ·go_enter func192,ntmps192
  go_wp2;go_ret
  exact⟨rfl,rfl⟩
def YP(a b:Int)(w:World):Calls prog 157 #[.int .u8 a,.int .u8 b] w λe w'=>e=.returned (.int .u8 (min (tm a) (tm b)))/\w'=w:=by
 go_enter func157,ntmps157
 go_wp2_with fail;refine(nH _ _).mono ?_;rintro e w1 ⟨rfl,rfl⟩;go_wp2_with fail;refine(nH _ _).mono ?_;rintro e w1 ⟨rfl,rfl⟩;go_wp2_with fail
 all_goals
  go_ret
  exact⟨mv (by omega),rfl⟩
def BN(a b:Int)(w:World):Calls prog 158 #[.int .u8 a,.int .u8 b] w λe w'=>e=.returned (.int .u8 (max (tm a) (tm b)))/\w'=w:=by
 go_enter func158,ntmps158
 go_wp2_with fail;refine(nH _ _).mono ?_;rintro e w1 ⟨rfl,rfl⟩;go_wp2_with fail;refine(nH _ _).mono ?_;rintro e w1 ⟨rfl,rfl⟩;go_wp2_with fail
 all_goals
  go_ret
  exact⟨mv (by omega),rfl⟩
def TV(a x:Int)(hx:tm a=x)(hm:x=0∨x=1∨x=2)(w:World):Calls prog 195 #[.int .u8 a] w λe w'=>e=.returned (.int .u8 (2-x))/\w'=w:=by
 have ht:=nH a;rw[hx]at ht;have HT:jgt (∀ w:World,Calls prog 192 #[.int .u8 a] w λe w'=>e=.returned (.int .u8 x)/\w'=w):=ht;clear ht hx;rcases hm with rfl | rfl | rfl
 all_goals
  go_enter func195,ntmps195
  go_wp2_with fail;refine(HT.o _).mono ?_;rintro e w1 ⟨rfl,rfl⟩;go_wp2_with fail;go_ret
  exact⟨rfl,rfl⟩
def YQ(a:Int)(h0:0<=a)(w:World):Calls prog 195 #[.int .u8 a] w λe w'=>e=.returned (.int .u8 (2-tm a))/\w'=w :=
 TV a (tm a) rfl (jce h0) w
def jcf(b:Bool)(w:World):Calls prog 221 #[.bool b] w λe w'=>e=.returned (.int .u8 (if b then 2 else 0))/\w'=w:=by
 cases b
 all_goals
  go_enter func221,ntmps221
  go_wp2;go_ret
  exact⟨rfl,rfl⟩
def lj(l:List UInt8):Op.bytesLess l l=false:=by
 induction l with
 | nil=>rfl
 | cons a l ih=>simp[Op.bytesLess,ih,UInt8.lt_irrefl]
def xh:(l m:List UInt8)->Op.bytesLess l m=true->Op.bytesLess m l=false
 | [],[],h=>by simp[Op.bytesLess]at h
 | [],_::_,_=>by simp[Op.bytesLess]
 | _::_,[],h=>by simp[Op.bytesLess]at h
 | a::l,b::m,h=>by
  have ih:=xh l m;simp only[Op.bytesLess,Bool.or_eq_true,jfb,jfF,beq_iff_eq]at h;simp only[Op.bytesLess,Bool.or_eq_false_iff,jfU,Bool.and_eq_false_iff,jeF];rcases h with h | ⟨rfl,h⟩
  ·refine⟨λh2=>UInt8.lt_irrefl _ (UInt8.lt_trans h h2),Or.inl ?_⟩
   rintro rfl;exact UInt8.lt_irrefl _ h
  ·exact⟨UInt8.lt_irrefl _,Or.inr (ih h)⟩
def xk:(l m:List UInt8)->Op.bytesLess l m=false->Op.bytesLess m l=false->l=m
 | [],[],_,_=>rfl
 | [],_::_,h,_=>by simp[Op.bytesLess]at h
 | _::_,[],_,h=>by simp[Op.bytesLess]at h
 | a::l,b::m,h,h2=>by
  have ih:=xk l m;simp only[Op.bytesLess,Bool.or_eq_false_iff,jfU,Bool.and_eq_false_iff,jeF]at h h2;have e:a=b:=UInt8.le_antisymm (UInt8.not_lt.mp h2.1) (UInt8.not_lt.mp h.1);subst e;rw[ih (by rcases h.2 with h | h;exact absurd rfl h;exact h) (by rcases h2.2 with h | h;exact absurd rfl h;exact h)]
def xl:(l m p:List UInt8)->Op.bytesLess l m=true->Op.bytesLess m p=true->Op.bytesLess l p=true
 | [],[],_,h,_=>by simp[Op.bytesLess]at h
 | [],_::_,[],_,h=>by simp[Op.bytesLess]at h
 | [],_::_,_::_,_,_=>by simp[Op.bytesLess]
 | _::_,[],_,h,_=>by simp[Op.bytesLess]at h
 | _::_,_::_,[],_,h=>by simp[Op.bytesLess]at h
 | a::l,b::m,c::p,h,h2=>by
  have ih:=xl l m p;simp only[Op.bytesLess,Bool.or_eq_true,jfb,jfF,beq_iff_eq]at h h2 ⊢;rcases h with h | ⟨rfl,h⟩
  ·rcases h2 with h2 | ⟨rfl,h2⟩
   ·exact Or.inl (UInt8.lt_trans h h2)
   ·exact Or.inl h
  ·rcases h2 with h2 | ⟨rfl,h2⟩
   ·exact Or.inl h2
   ·exact Or.inr ⟨rfl,ih h h2⟩
def Ae{a b:ByteArray}(h:a.toList=b.toList):a=b:=by
 rw[ByteArray.toList_eq,ByteArray.toList_eq]at h;cases a with
 | mk x=>cases b with
  | mk y=>congr;exact Array.toList_inj.mp h
def iT(a b:ByteArray):(cS a b=-1/\Op.bytesLess a.toList b.toList=true/\Op.bytesLess b.toList a.toList=false/\a≠b)∨(cS a b=0/\a=b)∨(cS a b=1/\Op.bytesLess a.toList b.toList=false/\Op.bytesLess b.toList a.toList=true/\a≠b):=by
 unfold cS;cases h1:Op.bytesLess a.toList b.toList
 ·by_cases h2:a=b
  ·subst h2;exact Or.inr (Or.inl (by simp))
  ·have h3:(a.toList==b.toList)=false:=by
    rw[jeF];exact λh=>h2 (Ae h)
   refine Or.inr (Or.inr ⟨by simp[h3],rfl,?_,h2⟩);cases h4:Op.bytesLess b.toList a.toList
   ·exact absurd (Ae (xk _ _ h1 h4)) h2
   ·rfl
 ·refine Or.inl ⟨by simp,rfl,xh _ _ h1,?_⟩
  rintro rfl;rw[lj]at h1;cases h1
def Mb(a b:ByteArray):cS b a=- cS a b:=by
 rcases iT a b with ⟨h1,h2,h3,h4⟩ | ⟨h1,rfl⟩ | ⟨h1,h2,h3,h4⟩
 ·rcases iT b a with ⟨g1,g2,_⟩ | ⟨g1,rfl⟩ | ⟨g1,_⟩
  ·rw[h3]at g2;cases g2
  ·exact absurd rfl h4
  ·omega
 ·omega
 ·rcases iT b a with ⟨g1,_⟩ | ⟨g1,rfl⟩ | ⟨g1,_,g2,_⟩
  ·omega
  ·exact absurd rfl h4
  ·rw[h2]at g2;cases g2
def YR(a:ByteArray):cS a a=0:=by
 have:=Mb a a;omega
def YS{a b:ByteArray}(h:cS a b=0):a=b:=by
 rcases iT a b with ⟨h1,_⟩ | ⟨_,h1⟩ | ⟨h1,_⟩
 ·omega
 ·exact h1
 ·omega
def TW{a b c:ByteArray}(h:cS a b<=0)(h2:cS b c<=0):cS a c<=0/\(cS a c=0->cS a b=0/\cS b c=0):=by
 rcases iT a b with ⟨e1,l1,_,_⟩ | ⟨e1,rfl⟩ | ⟨e1,_⟩
 ·rcases iT b c with ⟨e2,l2,_,_⟩ | ⟨e2,rfl⟩ | ⟨e2,_⟩
  ·have:=xl _ _ _ l1 l2
   rcases iT a c with ⟨e3,_⟩ | ⟨e3,rfl⟩ | ⟨e3,l3,_⟩
   ·omega
   ·rw[lj]at this;cases this
   ·rw[this]at l3;cases l3
  ·omega
  ·omega
 ·omega
 ·omega
def cv(k n:Int)(s:ByteArray)(k' n':Int)(s':ByteArray):Int:=or3 (c3 k k') (c3 n n') (cS s s')
def dT(a b:Int):(c3 a b=-1/\a<b)∨(c3 a b=0/\a=b)∨(c3 a b=1/\b<a):=by
 unfold c3;by_cases h:a<b
 ·rw[jey h];omega
 ·rw[jex h]
  by_cases h2:b<a
  ·rw[jey h2];omega
  ·rw[jex h2];omega
def jm(x y z:Int):(x≠0/\or3 x y z=x)∨(x=0/\y≠0/\or3 x y z=y)∨(x=0/\y=0/\or3 x y z=z):=by
 unfold or3;by_cases h:x≠0
 ·rw[jey h];exact Or.inl ⟨h,rfl⟩
 ·rw[jex h]
  by_cases h2:y≠0
  ·rw[jey h2];exact Or.inr (Or.inl ⟨by omega,h2,rfl⟩)
  ·rw[jex h2];exact Or.inr (Or.inr ⟨by omega,by omega,rfl⟩)
def TY(a b:ByteArray):cS a b=-1∨cS a b=0∨cS a b=1:=by
 rcases iT a b with h | h | h
 ·exact Or.inl h.1
 ·exact Or.inr (Or.inl h.1)
 ·exact Or.inr (Or.inr h.1)
def TZ(k n:Int)(s:ByteArray)(k' n':Int)(s':ByteArray):cv k n s k' n' s'=-1∨cv k n s k' n' s'=0∨cv k n s k' n' s'=1:=by
 unfold cv;have h1:=jm (c3 k k') (c3 n n') (cS s s');have h2:=dT k k';have h3:=dT n n';have h4:=TY s s';omega
def YT(k n:Int)(s:ByteArray)(k' n':Int)(s':ByteArray):cv k' n' s' k n s=- cv k n s k' n' s':=by
 unfold cv;have h1:=jm (c3 k k') (c3 n n') (cS s s');have h2:=dT k k';have h3:=dT n n';have h4:=Mb s s';have g1:=jm (c3 k' k) (c3 n' n) (cS s' s);have g2:=dT k' k;have g3:=dT n' n;omega
def rh(k n:Int)(s:ByteArray)(k' n':Int)(s':ByteArray):cv k n s k' n' s'=0↔k=k'/\n=n'/\s=s':=by
 unfold cv;have h1:=jm (c3 k k') (c3 n n') (cS s s');have h2:=dT k k';have h3:=dT n n';constructor
 ·intro h
  have h4:cS s s'=0:=by omega
  exact⟨by omega,by omega,YS h4⟩
 ·rintro⟨rfl,rfl,rfl⟩
  have:=YR s;omega
def Ua(k n:Int)(s:ByteArray)(k' n':Int)(s':ByteArray)(k2 n2:Int)(s2:ByteArray)(h:cv k n s k' n' s'<=0)(h':cv k' n' s' k2 n2 s2<=0):cv k n s k2 n2 s2<=0:=by
 unfold cv at *;have a1:=jm (c3 k k') (c3 n n') (cS s s');have a2:=dT k k';have a3:=dT n n';have b1:=jm (c3 k' k2) (c3 n' n2) (cS s' s2);have b2:=dT k' k2;have b3:=dT n' n2;have d1:=jm (c3 k k2) (c3 n n2) (cS s s2);have d2:=dT k k2;have d3:=dT n n2;have t:=@TW s s' s2;omega
def ls(k n:Int)(s:ByteArray)(k' n':Int)(s':ByteArray):Bool:=if (k != k')=true then decide (k<k') else if n<n' then true else if (n==n')=true then Op.bytesLess s.toList s'.toList else false
def ls_cv(k n:Int)(s:ByteArray)(k' n':Int)(s':ByteArray):ls k n s k' n' s'=decide (cv k n s k' n' s'=-1):=by
 unfold ls cv;have h1:=jm (c3 k k') (c3 n n') (cS s s');have h2:=dT k k';have h3:=dT n n';by_cases e:k=k'
 ·rw[jex (by simpa using e)]
  by_cases f:n<n'
  ·rw[jey f];symm;rw[jfb];omega
  ·rw[jex f]
   by_cases g:n=n'
   ·rw[jey (by simpa using g)]
    have h4:or3 (c3 k k') (c3 n n') (cS s s')=cS s s':=(by omega);rw[h4];rcases iT s s' with ⟨q1,q2,_⟩ | ⟨q1,rfl⟩ | ⟨q1,q2,_⟩
    ·rw[q1,q2];rfl
    ·rw[q1,lj];rfl
    ·rw[q1,q2];rfl
   ·rw[jex (by simpa using g)];symm;rw[jfU];omega
 ·rw[jey (by simpa using e)]
  rw[decide_eq_decide];omega
def Ub(k n:Int)(s:ByteArray)(k' n':Int)(s':ByteArray)(w:World):Calls prog 61 #[.agg #[.int .u8 k,.int .i64 n,.string s],.agg #[.int .u8 k',.int .i64 n',.string s']] w λe w'=>e=.returned (.bool (ls k n s k' n' s'))/\jgu w w':=by
 unfold ls;by_cases h1:(k != k')=true
 ·rw[jey h1]
  go_enter func61,ntmps61
  go_wp2;go_ret
  exact⟨rfl,((jez _ _).alloc (jeA _) _).alloc (by simp) _⟩
 ·rw[jex h1]
  have h1':(k != k')=false:=by simpa using h1
  clear h1;by_cases h2:n<n'
  ·rw[jey h2]
   go_enter func61,ntmps61
   go_wp2;go_ret
   exact⟨rfl,((jez _ _).alloc (jeA _) _).alloc (by simp) _⟩
  ·rw[jex h2]
   by_cases h3:(n==n')=true
   ·rw[jey h3]
    go_enter func61,ntmps61
    go_wp2;go_ret
    exact⟨rfl,((jez _ _).alloc (jeA _) _).alloc (by simp) _⟩
   ·rw[jex h3]
    have h3':(n==n')=false:=by simpa using h3
    clear h3;go_enter func61,ntmps61
    go_wp2;go_ret
    exact⟨rfl,((jez _ _).alloc (jeA _) _).alloc (by simp) _⟩
def YU(k n:Int)(s:ByteArray)(k' n':Int)(s':ByteArray)(b:Bool)(hb:ls k n s k' n' s'=b)(w:World):Calls prog 61 #[.agg #[.int .u8 k,.int .i64 n,.string s],.agg #[.int .u8 k',.int .i64 n',.string s']] w λe w'=>e=.returned (.bool b)/\jgu w w':=by
 subst hb;exact Ub k n s k' n' s' w
def kB{x y:Value}{k n k' n':Int}{s s':ByteArray}(hx:Val x k n s)(hy:Val y k' n' s')(w:World):Calls prog 105 #[x,y] w λe w'=>e=.returned (.int .i64 (cv k n s k' n' s'))/\jgu w w':=Eu hx hy w
open Go.Op (bytesLess)
def rk{w:World}{B:Nat}{cs:Array Value}{l:List UInt8}(hB:B<=w.heap.size)(hl:l.length<=4)(h:cs.toList=bh l) :
  (w.alloc (.cells cs 5)).ownsRow B 5 1 (.slice (some ⟨w.heap.size,0,none⟩) l.length l.length) l.length (bh l):=by
 rw[<- h];have hs:cs.size=l.length*1:=by rw[<- Array.length_toList,h];simp[bh]
 exact jf0 w cs l.length hB (by unfold maxLen;omega) hs
def Pm(c:Nat)(h:c<=1114111)(w:World) :
  Calls prog 109 #[.int .i64 (c:Int)] w λe w'=>(∃ v,e=.returned v/\w'.ownsRow w.heap.size 5 1 v (cW c).length (bh (cW c)))/\jgu w w':=by
 by_cases h1:(c:Int)<128
 ·have he:cW c=[bt c]:=by unfold cW;rw[jey (by omega)]
  rw[he];have e0:=bM (n:=c) (by omega);have HE:=ae e0;clear he e0;go_enter func109,ntmps109
  go_wp2_with fail;go_ret
  refine⟨⟨_,rfl,?_⟩,(jez _ _).alloc (jeA _) _⟩;exact rk (l:=[bt c]) (jeA _) (by simp) (by simp[bh,HE.o])
 ·by_cases h2:(c:Int)<2048
  ·have he:cW c=[bt (192+c / 64),bt (128+c % 64)]:=by unfold cW;rw[jex (by omega),jey (by omega)]
   rw[he];have HE:=ae (And.intro (bM (n:=192+c / 64) (by omega)) (bM (n:=128+c % 64) (by omega)));clear he;go_enter func109,ntmps109
   go_wp2_with fail;go_ret
   refine⟨⟨_,rfl,?_⟩,(jez _ _).alloc (jeA _) _⟩;refine rk (l:=[bt (192+c / 64),bt (128+c % 64)]) (jeA _) (by simp) ?_;simp[bh,HE.o.1,HE.o.2]
  ·by_cases h3:(c:Int)<65536
   ·have he:cW c=[bt (224+c / 4096),bt (128+c / 64 % 64),bt (128+c % 64)]:=by unfold cW;rw[jex (by omega),jex (by omega),jey (by omega)]
    rw[he];have HE:=ae (And.intro (bM (n:=224+c / 4096) (by omega)) (And.intro (bM (n:=128+c / 64 % 64) (by omega)) (bM (n:=128+c % 64) (by omega))));clear he;go_enter func109,ntmps109
    go_wp2_with fail;go_ret
    refine⟨⟨_,rfl,?_⟩,(jez _ _).alloc (jeA _) _⟩;refine rk (l:=[bt (224+c / 4096),bt (128+c / 64 % 64),bt (128+c % 64)]) (jeA _) (by simp) ?_;simp[bh,HE.o.1,HE.o.2.1,HE.o.2.2]
   ·have he:cW c=[bt (240+c / 262144),bt (128+c / 4096 % 64),bt (128+c / 64 % 64),bt (128+c % 64)]:=by unfold cW;rw[jex (by omega),jex (by omega),jex (by omega)]
    rw[he];have HE:=ae (And.intro (bM (n:=240+c / 262144) (by omega)) (And.intro (bM (n:=128+c / 4096 % 64) (by omega)) (And.intro (bM (n:=128+c / 64 % 64) (by omega)) (bM (n:=128+c % 64) (by omega)))));clear he;go_enter func109,ntmps109
    go_wp2_with fail;go_ret
    refine⟨⟨_,rfl,?_⟩,(jez _ _).alloc (jeA _) _⟩;refine rk (l:=[bt (240+c / 262144),bt (128+c / 4096 % 64),bt (128+c / 64 % 64),bt (128+c % 64)]) (jeA _) (by simp) ?_;simp[bh,HE.o.1,HE.o.2.1,HE.o.2.2.1,HE.o.2.2.2]
def Uc{w:World}{B n:Nat}{v:Value}{l:List UInt8}(h:w.ownsRow B 5 1 v n (bh l))(hn:0<l.length):(convert 30 9 v).run prog w=.ok (.string ⟨l.toArray⟩) w:=by
 have hl:l.length=n:=by have:=h.1;simpa [bh]using this
 obtain⟨g,cap,rfl,_,_,hc⟩:=(fC h).2 (by omega);rw[<- hl];refine run_convert_bytes_back w 30 9 5 ⟨g,0,none⟩ cap l underlying30 underlying5 underlying9 λj hj=>?_
 have KY:(⟨g,0,none⟩:Addr).add j=⟨g,j,none⟩:=by unfold Addr.add;split<;>simp_all
 rw[KY];exact hc j _ (by simp[bh,hj])
def df(l:List UInt8)(n:Int):Option (List UInt8) :=
 if cX l=true then (if ((V l).length:Int)<=n then some l else if n<1 then none else upL l n.toNat) else none
def YV(r:Nat):(r+1=55296->nx r=57344)/\(r+1≠55296->nx r=r+1):=by
 unfold nx;constructor
 ·intro h;rw[jey (by omega)]
 ·intro h;rw[jex (by omega)]
def BO(s:ByteArray)(n:Int)(hs:s.size<=100000)(w:World) :
  Calls prog 63 #[.string s,.int .i64 n] w λe w'=>LW e (df (lb s) n)/\jgu w w':=by
 have hL:=bK s;have hV:=sM (lb s);have HX:jgt (df (lb s) n=if cX (lb s)=true then (if ((V (lb s)).length:Int)<=n then some (lb s) else if n<1 then none else upL (lb s) n.toNat) else none):=rfl;have HEx:=ae (gD s);have HAp:=ae zO;go_enter func63,ntmps63
 go_wp2_with fail;refine(iL s hs _).mono ?_;rintro e w1 ⟨⟨a,b,rfl,ha,hb⟩,ao⟩;have HB:=ae ao;have hz:=ao.size;clear ao;obtain⟨⟨ad,cap,rfl,_⟩,Xw⟩:=fC ha;obtain⟨⟨ad2,cap2,rfl,_⟩,RC⟩:=fC hb;clear ha hb;have GQ:=ae Xw;have HCB:=ae RC;clear Xw RC;generalize gV:cX (lb s)=cl at *;cases cl with
 | false =>
  go_wp2_with fail;go_ret2
  rw[HX.o];exact⟨⟨_,_,rfl,rfl,rfl⟩,HB.o⟩
 | true =>
  by_cases h1:((V (lb s)).length:Int)<=n
  ·rw[jey h1]at HX
   go_wp2_with fail;go_ret2
   rw[HX.o];exact⟨⟨_,_,rfl,rfl,rfl⟩,HB.o⟩
  ·rw[jex h1]at HX
   by_cases h2:n<1
   ·rw[jey h2]at HX
    go_wp2_with fail;go_ret2
    rw[HX.o];exact⟨⟨_,_,rfl,rfl,rfl⟩,HB.o⟩
   ·rw[jex h2]at HX
    simp only[if_true]at HX;clear gV;obtain⟨m,rfl⟩:∃ m:Nat,n=(m:Int):=⟨n.toNat,by omega⟩;rw[je3]at HX;obtain⟨ga,ca,hsa,hga,_,Xw⟩:=GQ.o (by omega);obtain⟨gb,cb,hsb,GR,_,RC⟩:=HCB.o (by omega);simp only[Value.slice.injEq]at hsa hsb;obtain⟨rfl,_,rfl⟩:=hsa;obtain⟨rfl,_,rfl⟩:=hsb;clear GQ HCB;have GQ:=ae Xw;have HCB:=ae RC;clear Xw RC;go_wp2_with fail;go_loopw [9] (λi w'=>w'=w1/\∃ k:Nat,k<=m/\i=.int .i64 ((k:Int)-1)/\gg (V (lb s)) k=gg (V (lb s)) m) (λi _=>(intOf i+1).toNat)
    case atStart=>exact⟨rfl,m,jeA _,rfl,rfl⟩
    case round =>
     obtain⟨rfl,k,hk,rfl,Wz⟩:=hrel;have HL:=ae Wz;clear Wz;cases k with
     | zero =>
      go_wp2_with fail;go_ret2
      rw[HX.o,upL,<- HL.o];exact⟨⟨_,_,rfl,rfl,rfl⟩,HB.o⟩
     | succ i =>
      have uS:i<(V (lb s)).length:=(by omega);have e1:(((i+1:Nat):Int)-1)=(i:Int):=(by omega);rw[e1];have ju:=GQ.o i _ (LU uS);have jv:=HCB.o i _ (LT uS);have ZV:=(Ya _ (lb s) (jeA _) _ (jeD uS)).1;have ef:(V (lb s)).getD i (0,0)=(V (lb s))[i]:=by rw[List.getD_eq_getElem?_getD,List.getElem?_eq_getElem uS];rfl
      have hol:=(vU (l:=lb s) i (by omega)).1;have HGD:=ae ef;clear ef e1;generalize hr:(V (lb s))[i]=u at *;obtain⟨r,wd⟩:=u;clear hr;simp only at *;have hr:r<=1114111:=by unfold vr at ZV;omega
      have HVR:=ae ZV;clear ZV;by_cases ar:(r:Int)<1114111
      ·have HR:jgt (gg (V (lb s)) m=some i):=by
        show gg (V (lb s)) m=some i
        rw[<- HL.o,gg,HGD.o,jex (by simp only;omega)]
       have hnv:=Ta HVR.o (by omega);have hnle:nx r<=1114111:=by unfold vr at hnv;omega
       have AN:=ae (Pm (nx r) hnle);obtain⟨n1,n2⟩:=YV r;generalize ho:eo (V (lb s)) i=o at *;have HO:jgt (eo (V (lb s)) i=o):=ho;clear ho;generalize yo:nx r=c at *;have mf:jgt (nx r=c):=yo;clear yo;obtain⟨E,hE⟩:∃ E:ByteArray,E=⟨(cW c).toArray⟩:=⟨_,rfl⟩;have hEl:lb E=cW c:=by rw[hE];simp[lb]
       have hEs:E.size<=4:=by rw[<- bK,hEl];exact(gW c).2
       have hXs:(s.extract 0 o).size<=100000:=by rw[<- bK,HEx.o];simp;omega
       have KY:∀ w,(Op.stringOp .add (s.extract 0 o) E).run prog w=.ok (.string (s.extract 0 o++E)) w:=λw=>run_string_add_sum w _ _ (by omega)
       have MM:=ae hEl;have WH:=ae hE
       have HCV:jgt (∀(w2:World) (B:Nat) (v:Value),w2.ownsRow B 5 1 v (cW c).length (bh (cW c))->(convert 30 9 v).run prog w2=.ok (.string E) w2):=λw2 B v h=>by
        rw[hE];exact Uc h (gW c).1
       have CI:jgt (LW (.returned (.tuple #[.string (s.extract 0 o++E),.bool true])) (df (lb s) (m:Int))):=by
        refine⟨_,_,rfl,?_,?_⟩
        ·rw[HX.o,upL,HR.o];rfl
        ·rw[HX.o,upL,HR.o,HAp.o,HEx.o,hEl,jfC,HO.o,HGD.o,mf.o]
         simp
       clear hE hEl;have hI1:(0:Int)<=(o:Int):=(by omega);have hI2:(o:Int)<=(s.size:Int):=(by omega);by_cases h55:r+1=55296
       ·obtain rfl:=n1 h55
        obtain rfl:r=55295:=by omega
        clear n1 n2;go_wp2_with fail;go_region_with (first | (go_at_call 109;refine(AN.o _).mono ?_;rintro e w2 ⟨⟨v,rfl,ax⟩,ap⟩;have KZ:=HCV.o _ _ _ ax;have mX:=(ap.cell (p:=⟨gb,i,none⟩) GR).trans jv;clear ax))
        all_goals
         go_wp2_with fail;go_ret2
         refine⟨CI.o,?_⟩;exact HB.o.drew.trans (ap.mono hz)
       ·obtain rfl:=n2 h55
        have h55b:((r:Int)+1==55296)=false:=by simp;omega
        have AK:((r+1:Nat):Int)=(r:Int)+1:=(by omega);rw[AK]at AN;clear AK;clear n1 n2;go_wp2_with fail;go_region_with (first | (go_at_call 109;refine(AN.o _).mono ?_;rintro e w2 ⟨⟨v,rfl,ax⟩,ap⟩;have KZ:=HCV.o _ _ _ ax;have mX:=(ap.cell (p:=⟨gb,i,none⟩) GR).trans jv;clear ax))
        all_goals
         go_wp2_with fail;go_ret2
         refine⟨CI.o,?_⟩;exact HB.o.drew.trans (ap.mono hz)
      ·go_wp2_with fail
       go_roundw
       case rel =>
        refine⟨trivial,i,by omega,by go_num,?_⟩;rw[<- HL.o,gg,HGD.o,jey (by simp only;omega)]
       case measure=>simp[intOf]
def ow(rs:List Nat):∀ k,(lq rs).take (eo (rs.map eu) k)=lq (rs.take k):=by
 induction rs with
 | nil=>intro k;simp
 | cons c rs ih =>
  intro k;cases k with
  | zero=>simp
  | succ k =>
   have:eo ((c::rs).map eu) (k+1)=(cW c).length+eo (rs.map eu) k:=by
    simp[eo,eu]
   rw[this,flat_cons,jf2,flat_cons,<- ih k,List.take_length_add_append]
def Af{u:List (Nat×Nat)}{j k:Nat}(h:j<k):(u.take k).getD j (0,0)=u.getD j (0,0):=by
 simp[List.getD_eq_getElem?_getD,List.getElem?_take,h]
def JA(u:List (Nat×Nat))(k:Nat):∀ j,j<=k->gg (u.take k) j=gg u j:=by
 intro j;induction j with
 | zero=>intro _;rfl
 | succ j ih =>
  intro h;simp only[gg];rw[Af (by omega),ih (by omega)]
def Ag{u:List (Nat×Nat)}{i k:Nat}(h:i<=k):eo (u.take k) i=eo u i:=by
 unfold eo;rw[List.take_take,jfp h]
def Ud{rs:List Nat}(hv:∀ r∈rs,vr r){k:Nat}(hk:k<=rs.length):jR (lq (rs.take k))=upL (lq rs) k:=by
 have hv2:∀ r∈rs.take k,vr r:=λr hr=>hv r (jfn hr)
 have e1:=qv rs hv;have e2:=qv (rs.take k) hv2;have hl:((rs.take k).map eu).length=k:=by simp;omega
 unfold jR upL;rw[e1,e2,hl,jf3,JA _ _ _ (jeA _)];cases hg:gg (rs.map eu) k with
 | none=>rfl
 | some i =>
  have hi:=(nw hg).1;simp only[jfC];rw[Af hi,Ag (by omega),ow];have h3:=ow (rs.take k) i;rw[jf3,Ag (by omega),List.take_take,jfp (by omega)]at h3;rw[h3]
def xm{rs:List Nat}(hv:∀ r∈rs,vr r)(n:Int):bE (lq rs) n=lq (rs.take n.toNat):=by
 unfold bE;rw[qv rs hv,ow]
def ro(l:List UInt8)(n:Int):eR l n=df l n:=by
 unfold eR df;by_cases hc:cX l=true
 ·rw[jey hc,jey hc]
  by_cases h1:((V l).length:Int)<=n
  ·rw[jey h1,jey h1]
  ·rw[jex h1,jex h1]
   have hl:=Dn hc;have hv:=Do l;have bH:(br l).length=(V l).length:=by simp[br]
   generalize br l=rs at *;subst hl;rw[xm hv,Ud hv (by omega)];by_cases h2:n<1
   ·rw[jey h2]
    have:n.toNat=0:=by omega
    rw[this];rfl
   ·rw[jex h2]
 ·rw[jex hc,jex hc]
def xn(p a b:List UInt8):bytesLess (p++a) (p++b)=bytesLess a b:=by
 induction p with
 | nil=>rfl
 | cons c p ih=>simp[bytesLess,ih]
def lR{a b:Nat}{x y:List UInt8}(ha:a<256)(hb:b<256)(h:b<a):bytesLess (bt a::x) (bt b::y)=false:=by
 have e1:=bM ha;have e2:=bM hb;have h1:¬ (bt a<bt b):=by rw[UInt8.lt_iff_toNat_lt];omega
 have h2:¬ (bt a=bt b):=λh=>by rw[h]at e1;omega
 simp[bytesLess,h1,h2]
def Ah{a b:Nat}{x y:List UInt8}(h:a=b):bytesLess (bt a::x) (bt b::y)=bytesLess x y:=by
 subst h;simp[bytesLess]
def ux{r:Nat}(hv:vr r)(hg:r≠1114111)(y:List UInt8):bytesLess (cW (nx r)) (cW r++y)=false:=by
 unfold vr at hv;have hn:(r=55295/\nx r=57344)∨(r≠55295/\nx r=r+1):=by unfold nx;split<;>omega
 generalize nx r=c at *;unfold cW;by_cases h1:r<128
 ·rw[jey h1]
  by_cases h2:c<128
  ·rw[jey h2]
   exact lR (by omega) (by omega) (by omega)
  ·rw[jex h2,jey (by omega)]
   exact lR (by omega) (by omega) (by omega)
 ·rw[jex h1,jex (by omega:¬ c<128)]
  by_cases h3:r<2048
  ·rw[jey h3]
   by_cases h4:c<2048
   ·rw[jey h4]
    by_cases h5:r % 64=63
    ·exact lR (by omega) (by omega) (by omega)
    ·rw[je5,Ah (by omega)]
     exact lR (by omega) (by omega) (by omega)
   ·rw[jex h4,jey (by omega)]
    exact lR (by omega) (by omega) (by omega)
  ·rw[jex h3,jex (by omega:¬ c<2048)]
   by_cases h4:r<65536
   ·rw[jey h4]
    by_cases h5:c<65536
    ·rw[jey h5]
     by_cases h6:c / 4096=r / 4096
     ·rw[je5,Ah (by omega)]
      by_cases h7:c / 64 % 64=r / 64 % 64
      ·rw[je5,Ah (by omega)]
       exact lR (by omega) (by omega) (by omega)
      ·exact lR (by omega) (by omega) (by omega)
     ·exact lR (by omega) (by omega) (by omega)
    ·rw[jex h5]
     exact lR (by omega) (by omega) (by omega)
   ·rw[jex h4,jex (by omega:¬ c<65536)]
    by_cases h6:c / 262144=r / 262144
    ·rw[je5,Ah (by omega)]
     by_cases h7:c / 4096 % 64=r / 4096 % 64
     ·rw[je5,Ah (by omega)]
      by_cases h8:c / 64 % 64=r / 64 % 64
      ·rw[je5,Ah (by omega)]
       exact lR (by omega) (by omega) (by omega)
      ·exact lR (by omega) (by omega) (by omega)
     ·exact lR (by omega) (by omega) (by omega)
    ·exact lR (by omega) (by omega) (by omega)
def Ev{l a:List UInt8}{n:Int}(h:eR l n=some a)(hn:¬ ((V l).length:Int)<=n)(more:List UInt8) :
  bytesLess a l=false/\bytesLess a (bE l n++more)=false/\((V a).length:Int)<=n:=by
 rw[ro]at h;unfold df at h;by_cases hc:cX l=true
 ·rw[jey hc,jex hn]at h
  by_cases h2:n<1
  ·rw[jey h2]at h;cases h
  ·rw[jex h2]at h
   have hl:=Dn hc;have hv:=Do l;have bH:(br l).length=(V l).length:=by simp[br]
   generalize br l=rs at *;subst hl;have e1:=qv rs hv;unfold upL at h;rw[e1]at h hn bH;cases hg:gg (rs.map eu) n.toNat with
   | none=>rw[hg]at h;cases h
   | some i =>
    rw[hg]at h;obtain⟨hi,dC⟩:=nw hg;simp only[jfC,Option.some.injEq]at h;rw[ow]at h;have hil:i<rs.length:=(by omega)
    have ef:((rs.map eu).getD i (0,0)).1=rs[i]:=by
     rw[List.getD_eq_getElem?_getD,List.getElem?_map,List.getElem?_eq_getElem hil];rfl
    rw[ef]at h dC;have hvi:=hv rs[i] (jeD hil)
    have hsplit:rs=rs.take i++rs[i]::rs.drop (i+1):=by
     rw[List.getElem_cons_drop,jfz]
    have jak:rs.take n.toNat=rs.take i++rs[i]::(rs.take n.toNat).drop (i+1):=by
     have qu:i<(rs.take n.toNat).length:=by simp;omega
     have:=(jfz i (rs.take n.toNat)).symm;rw[List.take_take,jfp (by omega),je8 qu]at this;simpa using this
    subst h;refine⟨?_,?_,?_⟩
    ·conv=>lhs;arg 2;rw[hsplit]
     rw[flat_append,flat_cons,xn];exact ux hvi dC _
    ·rw[xm hv,jak,flat_append,flat_cons,jeQ,jeQ,xn]
     exact ux hvi dC _
    ·have hv2:∀ r∈rs.take i++[nx rs[i]],vr r:=by
      intro r hr;rw[je1]at hr;rcases hr with hr | hr
      ·exact hv r (jfn hr)
      ·simp at hr
       rw[hr];exact Ta hvi dC
     have e3:=qv _ hv2;rw[flat_append]at e3;have:lq [nx rs[i]]=cW (nx rs[i]):=by simp
     rw[this]at e3;rw[e3];simp
     omega
 ·rw[jex hc]at h;cases h
 inductive PT where
 | node (op fld:Nat) (c:Cl) (ks:List PT):PT
def PT.ind{P:PT->Prop}(h:∀ op f c ks,(∀ k∈ks,P k)->P (.node op f c ks))(t:PT):P t:=by
 refine PT.rec (motive_1:=P) (motive_2:=λks=>∀ k∈ks,P k) (λop f c ks ih=>h op f c ks ih) (λk hk=>?_) (λa ks ha ih k hk=>?_) t
 ·simp at hk
 ·rcases jeL.1 hk with rfl | hk
  ·exact ha
  ·exact ih k hk
abbrev B3:=Bool×Bool×Bool
 structure Stt where
 rows:Int
 nulls:Int
 some:Bool
 high:Bool
 lo:Cl
 hi:Cl
def aD(a b:Cl):Int:=cv (a.1:Int) a.2.1 (bytesT a.2.2) (b.1:Int) b.2.1 (bytesT b.2.2)
def isM(b:Bool):Nat:=if b=true then 2 else 0
def mP(x c:Cl):Bool:=x.1==3 && c.1==3 && lk (br (lb (bytesT c.2.2))) (br (lb (bytesT x.2.2)))
def kC(op:Nat)(c x:Cl):Nat :=
 if op=1 then isM (decide (aD x (aH c)=0)) else if op=2 then isM (decide (aD x (aH c)<0)) else if op=3 then isM (decide (aD x (aH c)<=0)) else if op=4 then isM (mP x c) else 1
def mQ(op:Nat)(c x:Cl):Nat:=if op=5 then isM (decide (x.1=0)) else if x.1=0 then 1 else kC op c x
def iD(l:List Fd)(r:List Cl)(op f:Nat)(c:Cl):Nat :=
 match dV l f with
 | none=>1
 | some j=>match r[j]? with
  | none=>1
  | some x=>mQ op c x
 mutual
def aW(l:List Fd)(r:List Cl):PT->Nat
 | .node op f c ks=>if op=6 then evalAnd l r ks 2 else if op=7 then evalOr l r ks 0 else if op=8 then evalNot l r ks else iD l r op f c
def evalAnd(l:List Fd)(r:List Cl):List PT->Nat->Nat
 | [],a=>a
 | k::ks,a=>evalAnd l r ks (min a (aW l r k))
def evalOr(l:List Fd)(r:List Cl):List PT->Nat->Nat
 | [],a=>a
 | k::ks,a=>evalOr l r ks (max a (aW l r k))
def evalNot(l:List Fd)(r:List Cl):List PT->Nat
 | []=>1
 | k::_=>2-aW l r k
 end
def xo(a b:B3):B3:=((a.1 && (b.1 || b.2.1 || b.2.2)) || (a.2.1 && b.1) || (a.2.2 && b.1),(a.2.1 && (b.2.1 || b.2.2)) || (a.2.2 && b.2.1),a.2.2 && b.2.2)
def xp(a b:B3):B3:=(a.1 && b.1,(a.1 && b.2.1) || (a.2.1 && (b.1 || b.2.1)),(a.1 && b.2.2) || (a.2.1 && b.2.2) || (a.2.2 && (b.1 || b.2.1 || b.2.2)))
def Ue(a:B3):B3:=(a.2.2,a.2.1,a.1)
def iN(v:Cl):Bool:=decide ((V (lb (bytesT v.2.2))).length<4)
def kD(u:Bool)(op:Nat)(c:Cl)(st:Stt):B3 :=
 if op=1 then (!(st.high && decide (aD (aH c) (aH st.lo)=0) && decide (aD (aH c) (aH st.hi)=0) && iN (aH c)),u,decide (0<=aD (aH c) (aH st.lo)) && !(st.high && decide (0<aD (aH c) (aH st.hi))))
 else if op=2 then (!(st.high && decide (0<aD (aH c) (aH st.hi))),u,decide (0<aD (aH c) (aH st.lo)))
 else if op=3 then (!(st.high && decide (0<=aD (aH c) (aH st.hi))),u,decide (0<=aD (aH c) (aH st.lo)))
 else if op=4 then (true,u,true) else (true,true,true)
def nI(op:Nat)(c:Cl)(st:Stt):B3:=if op=5 then (st.some,false,decide (0<st.nulls)) else if st.some=true then kD (decide (0<st.nulls)) op c st else (false,decide (0<st.nulls),false)
def fD(l:List Fd)(sts:List Stt)(op f:Nat)(c:Cl):B3 :=
 match dV l f with
 | none=>(true,true,true)
 | some j=>match sts[j]? with
  | none=>(true,true,true)
  | some st=>nI op c st
 mutual
def bI(l:List Fd)(sts:List Stt):PT->B3
 | .node op f c ks=>if op=6 then mayAnd l sts ks (false,false,true) else if op=7 then mayOr l sts ks (true,false,false) else if op=8 then mayNot l sts ks else fD l sts op f c
def mayAnd(l:List Fd)(sts:List Stt):List PT->B3->B3
 | [],a=>a
 | k::ks,a=>mayAnd l sts ks (xo a (bI l sts k))
def mayOr(l:List Fd)(sts:List Stt):List PT->B3->B3
 | [],a=>a
 | k::ks,a=>mayOr l sts ks (xp a (bI l sts k))
def mayNot(l:List Fd)(sts:List Stt):List PT->B3
 | []=>(false,true,false)
 | k::_=>Ue (bI l sts k)
 end
 mutual
def Len:PT->Prop
 | .node _ _ c ks=>c.2.2.length<=300/\LenAll ks
def LenAll:List PT->Prop
 | []=>True
 | k::ks=>Len k/\LenAll ks
 end
 mutual
def Okp:PT->Prop
 | .node op f c ks=>op<256/\f<4294967296/\Okc c/\OkpAll ks
def OkpAll:List PT->Prop
 | []=>True
 | k::ks=>Okp k/\OkpAll ks
 end
def LenAll.get{ks:List PT}(h:LenAll ks):∀ k∈ks,Len k:=by
 induction ks with
 | nil=>intro k hk;simp at hk
 | cons a ks ih =>
  intro k hk;simp only[LenAll]at h;rcases jeL.1 hk with rfl | hk
  ·exact h.1
  ·exact ih h.2 k hk
def LenAll.of{ks:List PT}(h:∀ k∈ks,Len k):LenAll ks:=by
 induction ks with
 | nil=>simp[LenAll]
 | cons a ks ih=>simp only[LenAll];exact⟨h a (by simp),ih λk hk=>h k (by simp[hk])⟩
def OkpAll.get{ks:List PT}(h:OkpAll ks):∀ k∈ks,Okp k:=by
 induction ks with
 | nil=>intro k hk;simp at hk
 | cons a ks ih =>
  intro k hk;simp only[OkpAll]at h;rcases jeL.1 hk with rfl | hk
  ·exact h.1
  ·exact ih h.2 k hk
def OkpAll.of{ks:List PT}(h:∀ k∈ks,Okp k):OkpAll ks:=by
 induction ks with
 | nil=>simp[OkpAll]
 | cons a ks ih=>simp only[OkpAll];exact⟨h a (by simp),ih λk hk=>h k (by simp[hk])⟩
def Uf(b:Bool):isM b<=2:=by unfold isM;split<;>omega
def Ug(op:Nat)(c x:Cl):kC op c x<=2:=by
 unfold kC;repeat' split
 all_goals first | exact Uf _ | omega
def Uh(op:Nat)(c x:Cl):mQ op c x<=2:=by
 unfold mQ;repeat' split
 all_goals first | exact Uf _ | omega | exact Ug _ _ _
def Ew(l:List Fd)(r:List Cl)(op f:Nat)(c:Cl):iD l r op f c<=2:=by
 unfold iD;repeat' split
 all_goals first | omega | exact Uh _ _ _
def xq{l:List Fd}{r:List Cl}:∀{ks:List PT} {a:Nat},a<=2->evalAnd l r ks a<=2
 | [],a,h=>by simpa [evalAnd]using h
 | k::ks,a,h=>by simp only[evalAnd];exact xq (by omega)
def Ai{l:List Fd}{r:List Cl}:∀{ks:List PT} {a:Nat},a<=2->(∀ k∈ks,aW l r k<=2)->evalOr l r ks a<=2
 | [],a,h,_=>by simpa [evalOr]using h
 | k::ks,a,h,hk=>by simp only[evalOr];exact Ai (by have:=hk k (by simp);omega) λx hx=>hk x (by simp[hx])
def JB{l:List Fd}{r:List Cl}(ks:List PT):evalNot l r ks<=2:=by
 cases ks<;>simp only[evalNot]<;>omega
def im(l:List Fd)(r:List Cl):∀ t,aW l r t<=2:=by
 refine PT.ind λop f c ks ih=>?_
 unfold aW;repeat' split
 ·exact xq (by omega)
 ·exact Ai (by omega) ih
 ·exact JB ks
 ·exact Ew _ _ _ _ _
def rp{l:List Fd}{r:List Cl}{ks:List PT}{i:Nat}(h:i<ks.length)(a:Nat):evalAnd l r (ks.drop i) a=evalAnd l r (ks.drop (i+1)) (min a (aW l r ks[i])):=by
 rw[je8 h];simp only[evalAnd]
def uy{l:List Fd}{r:List Cl}{ks:List PT}{i:Nat}(h:i<ks.length)(a:Nat):evalOr l r (ks.drop i) a=evalOr l r (ks.drop (i+1)) (max a (aW l r ks[i])):=by
 rw[je8 h];simp only[evalOr]
def uz{l:List Fd}{r:List Stt}{ks:List PT}{i:Nat}(h:i<ks.length)(a:B3):mayAnd l r (ks.drop i) a=mayAnd l r (ks.drop (i+1)) (xo a (bI l r ks[i])):=by
 rw[je8 h];simp only[mayAnd]
def xr{l:List Fd}{r:List Stt}{ks:List PT}{i:Nat}(h:i<ks.length)(a:B3):mayOr l r (ks.drop i) a=mayOr l r (ks.drop (i+1)) (xp a (bI l r ks[i])):=by
 rw[je8 h];simp only[mayOr]
def uA{l:List Fd}{r:List Cl}{ks:List PT}(a:Nat):evalAnd l r (ks.drop ks.length) a=a:=by rw[jfg];simp only[evalAnd]
def xt{l:List Fd}{r:List Cl}{ks:List PT}(a:Nat):evalOr l r (ks.drop ks.length) a=a:=by rw[jfg];simp only[evalOr]
def xu{l:List Fd}{r:List Stt}{ks:List PT}(a:B3):mayAnd l r (ks.drop ks.length) a=a:=by rw[jfg];simp only[mayAnd]
def Aj{l:List Fd}{r:List Stt}{ks:List PT}(a:B3):mayOr l r (ks.drop ks.length) a=a:=by rw[jfg];simp only[mayOr]
def et(W:World)(b off op f:Nat)(c:Cl)(kv:Value):Prop :=
 b<W.heap.size/\W.cell? ⟨b,off,none⟩=some (.int .u8 (op:Int))/\W.cell? ⟨b,off+1,none⟩=some (.int .u32 (f:Int))/\W.cell? ⟨b,off+2,none⟩=some (.int .u8 (c.1:Int))/\W.cell? ⟨b,off+3,none⟩=some (.int .i64 c.2.1)/\W.cell? ⟨b,off+4,none⟩=some (.string (bytesT c.2.2))/\W.cell? ⟨b,off+5,none⟩=some kv
def et.kept{W W':World}{b off op f:Nat}{c:Cl}{kv:Value}(h:et W b off op f c kv)(hb:jgu W W'):et W' b off op f c kv:=by
 obtain⟨h0,h1,h2,h3,h4,h5,h6⟩:=h;have e:∀ o,W'.cell? ⟨b,o,none⟩=W.cell? ⟨b,o,none⟩:=λo=>(fA hb).1 b o h0
 exact⟨jeY h0 hb.size,by rw[e];exact h1,by rw[e];exact h2,by rw[e];exact h3,by rw[e];exact h4,by rw[e];exact h5,by rw[e];exact h6⟩
 mutual
def ew(W:World):Nat->Nat->PT->Prop
 | b,off,.node op f c ks=>∃ a cap,et W b off op f c (.slice a ks.length cap)/\ks.length<=cap/\cap<=maxLen/\(0<ks.length->∃ g o,a=some ⟨g,o,none⟩/\KidsAt W g o ks)
def KidsAt(W:World):Nat->Nat->List PT->Prop
 | _,_,[]=>True
 | g,o,k::ks=>ew W g o k/\KidsAt W g (o+6) ks
 end
def KidsAt.mono{W W':World}:∀{ks:List PT} {g o:Nat},(∀ k∈ks,∀ b off,ew W b off k->ew W' b off k)->KidsAt W g o ks->KidsAt W' g o ks
 | [],g,o,_,_=>by simp[KidsAt]
 | k::ks,g,o,hm,h=>by
  simp only[KidsAt]at h ⊢;exact⟨hm k (by simp) _ _ h.1,KidsAt.mono (λx hx=>hm x (by simp[hx])) h.2⟩
def ew.kept{W W':World}(hb:jgu W W'):∀(t:PT) (b off:Nat),ew W b off t->ew W' b off t:=by
 refine PT.ind λop f c ks ih b off h=>?_
 simp only[ew]at h ⊢;obtain⟨a,cap,h1,h2,h3,h4⟩:=h;refine⟨a,cap,h1.kept hb,h2,h3,λh0=>?_⟩;obtain⟨g,o,h5,h6⟩:=h4 h0;exact⟨g,o,h5,KidsAt.mono ih h6⟩
def KidsAt.kept{W W':World}(hb:jgu W W'){ks:List PT}{g o:Nat}(h:KidsAt W g o ks):KidsAt W' g o ks:=KidsAt.mono (λk _=>ew.kept hb k) h
def KidsAt.get{W:World}:∀{ks:List PT} {g o:Nat},KidsAt W g o ks->∀{i:Nat} (h:i<ks.length),ew W g (o+i*6) ks[i]
 | [],g,o,_,i,h=>by simp at h
 | k::ks,g,o,hk,0,h=>by simp only[KidsAt]at hk;simpa using hk.1
 | k::ks,g,o,hk,i+1,h=>by
  simp only[KidsAt]at hk;have:=KidsAt.get hk.2 (i:=i) (by simpa using h);rw[show o+(i+1)*6=o+6+i*6 by omega];simpa using this
def eF(W:World)(v:Value)(ks:List PT):Prop:=∃ a cap,v=.slice a ks.length cap/\ks.length<=cap/\cap<=maxLen/\(0<ks.length->∃ g o,a=some ⟨g,o,none⟩/\KidsAt W g o ks)
def eF.kept{W W':World}{v:Value}{ks:List PT}(h:eF W v ks)(hb:jgu W W'):eF W' v ks:=by
 obtain⟨a,cap,h1,h2,h3,h4⟩:=h;refine⟨a,cap,h1,h2,h3,λh0=>?_⟩;obtain⟨g,o,h5,h6⟩:=h4 h0;exact⟨g,o,h5,h6.kept hb⟩
def eF.form{W:World}{v:Value}{ks:List PT}(h:eF W v ks):∃ a cap,v=.slice a ks.length cap/\ks.length<=cap/\cap<=maxLen:=by
 obtain⟨a,cap,h1,h2,h3,_⟩:=h;exact⟨a,cap,h1,h2,h3⟩
def eF.at{W:World}{a:Option Addr}{n cap:Nat}{ks:List PT}(h:eF W (.slice a n cap) ks){i:Nat}(hi:i<ks.length):∃ g o,a=some ⟨g,o,none⟩/\ew W g (o+i*6) ks[i]:=by
 obtain⟨a',cap',e,_,_,h4⟩:=h;simp only[Value.slice.injEq]at e;obtain⟨rfl,_,_⟩:=e;obtain⟨g,o,rfl,h6⟩:=h4 (by omega);exact⟨g,o,rfl,h6.get hi⟩
def ew.open{W:World}{b off op f:Nat}{c:Cl}{ks:List PT}(h:ew W b off (.node op f c ks)):∃ a cap,et W b off op f c (.slice a ks.length cap)/\eF W (.slice a ks.length cap) ks:=by
 simp only[ew]at h;obtain⟨a,cap,h1,h2,h3,h4⟩:=h;exact⟨a,cap,h1,a,cap,rfl,h2,h3,h4⟩
def ew.shut{W:World}{b off op f:Nat}{c:Cl}{ks:List PT}{v:Value}(h:et W b off op f c v)(hk:eF W v ks):ew W b off (.node op f c ks):=by
 obtain⟨a,cap,rfl,h2,h3,h4⟩:=hk;simp only[ew];exact⟨a,cap,h,h2,h3,h4⟩
def eF.nil(W:World):eF W (.slice none 0 0) []:=⟨none,0,rfl,jeA _,by unfold maxLen;omega,λh=>by simp at h⟩
def Mc{c:Cl}(hf:aI c)(w:World):Calls prog 100 #[cz c] w λe w'=>e=.returned (.int .u8 (c.1:Int))/\w'=w:=Jv hf.val w
def Ui{c:Cl}(dD:Okc c)(w:World):Calls prog 217 #[.agg #[.int .u8 (c.1:Int),.int .i64 c.2.1,.string (bytesT c.2.2)]] w λe w'=>e=.returned (.tuple #[cz (aH c),.int .i64 (flt (c.1:Int) c.2.1 (bytesT c.2.2))])/\jgu w w':=by
 by_cases h:flt (c.1:Int) c.2.1 (bytesT c.2.2)=0
 ·refine(YO _ _ _ (by omega) h w).mono ?_
  rintro e w1 ⟨⟨v,rfl,hv⟩,hb⟩;have hfx:aH c=c:=jey h;have hf:aI c:=by have:=dX dD;rwa[hfx]at this
  rw[hfx,h,Dv hf hv];exact⟨rfl,hb⟩
 ·refine(jcd _ _ _ (by simpa using h) w).mono ?_
  rintro e w1 ⟨rfl,hb⟩;have hfx:aH c=nul:=jex h;rw[hfx];exact⟨rfl,hb⟩
def oy{c:Cl}(dD:Okc c)(w:World):Calls prog 219 #[.agg #[.int .u8 (c.1:Int),.int .i64 c.2.1,.string (bytesT c.2.2)]] w λe w'=>e=.returned (cz (aH c))/\jgu w w':=by
 have HO:=ae dD;have ce:=ae (aj w (.cells #[.int .u8 (c.1:Int),.int .i64 c.2.1,.string (bytesT c.2.2)] 52));obtain⟨c0,c1,c2⟩:=cO w (.int .u8 (c.1:Int)) (.int .i64 c.2.1) (.string (bytesT c.2.2)) 52;clear dD;go_enter func219,ntmps219
 go_wp2_with fail;refine(Ui HO.o _).mono ?_;rintro e w1 ⟨rfl,hb⟩;go_wp2_with fail;go_ret
 exact⟨rfl,ai ce.o hb⟩
def aI.short{c:Cl}(h:aI c):(bytesT c.2.2).size<=64:=by
 rw[be];rcases h with rfl | ⟨n,rfl,_⟩ | ⟨b,rfl,_⟩ | ⟨s,rfl,hs,_⟩
 ·simp[nul]
 ·simp
 ·simp
 ·exact hs
def Pn{c:Cl}(hf:aI c)(w:World):Calls prog 220 #[cz c] w λe w'=>e=.returned (.bool (iN c))/\jgu w w':=by
 have HF:=ae hf;clear hf;go_enter func220,ntmps220
 go_wp2_with fail;refine(ki HF.o.val _).mono ?_;rintro e w1 ⟨rfl,hb⟩;have HB:=ae hb;clear hb;obtain⟨c0,c1,c2⟩:=cO w1 (.int .u8 (c.1:Int)) (.int .i64 c.2.1) (.string (bytesT c.2.2)) 52;have aL:=ae (aj w1 (.cells #[.int .u8 (c.1:Int),.int .i64 c.2.1,.string (bytesT c.2.2)] 52));go_wp2_with fail;refine(zM _ (by have:=HF.o.short;omega) _).mono ?_;rintro e w2 ⟨rfl,hb⟩;have HN:jgt (iN c=decide ((((V (lb (bytesT c.2.2))).length:Nat):Int)<4)):=ae (by unfold iN;exact decide_eq_decide.2 (by omega));generalize (V (lb (bytesT c.2.2))).length=n at *;go_wp2_with fail;go_ret
 exact⟨da HN.o.symm,ai (ai HB.o aL.o) hb⟩
def Ex{c:Cl}(hf:aI c)(w:World):Calls prog 102 #[cz c] w λe w'=>e=.returned (.bool (!cX (lb (bytesT c.2.2))))/\jgu w w':=by
 have HF:=ae hf;clear hf;go_enter func102,ntmps102
 go_wp2_with fail;refine(ki HF.o.val _).mono ?_;rintro e w1 ⟨rfl,hb⟩;have HB:=ae hb;clear hb;obtain⟨c0,c1,c2⟩:=cO w1 (.int .u8 (c.1:Int)) (.int .i64 c.2.1) (.string (bytesT c.2.2)) 52;have aL:=ae (aj w1 (.cells #[.int .u8 (c.1:Int),.int .i64 c.2.1,.string (bytesT c.2.2)] 52));go_wp2_with fail;refine(sY _ (by have:=HF.o.short;omega) _).mono ?_;rintro e w2 ⟨rfl,hb⟩;obtain⟨n,hn⟩:∃ n,n=cX (lb (bytesT c.2.2)):=⟨_,rfl⟩;rw[<- hn];have HN:=ae hn;clear hn;go_wp2_with fail;go_ret
 exact⟨da (by rw[HN.o]),ai (ai HB.o aL.o) hb⟩
def xv{c:Cl}(hf:aI c)(w:World):Calls prog 99 #[cz c] w λe w'=>e=.returned (.bool (decide (c.1=0)))/\jgu w w':=by
 have HF:=ae hf;clear hf;go_enter func99,ntmps99
 go_wp2_with fail;refine(Mc HF.o _).mono ?_;rintro e w1 ⟨rfl,rfl⟩;go_wp2_with fail;go_ret
 refine⟨da ?_,jez _ _⟩;rw[jfK];simp
def Po{x c:Cl}(hf:aI x)(hl:c.2.2.length<=300)(w:World):Calls prog 239 #[cz x,.agg #[.int .u8 (c.1:Int),.int .i64 c.2.1,.string (bytesT c.2.2)]] w λe w'=>e=.returned (.bool (mP x c))/\jgu w w':=by
 have HF:=ae hf;have HL:=ae hl;clear hf hl;obtain⟨d0,d1,d2⟩:=cO w (.int .u8 (c.1:Int)) (.int .i64 c.2.1) (.string (bytesT c.2.2)) 52;have ce:=ae (aj w (.cells #[.int .u8 (c.1:Int),.int .i64 c.2.1,.string (bytesT c.2.2)] 52));have hq:w.heap.size<(w.alloc (.cells #[.int .u8 (c.1:Int),.int .i64 c.2.1,.string (bytesT c.2.2)] 52)).heap.size:=by rw[jeB];omega
 generalize hW:w.alloc (.cells #[.int .u8 (c.1:Int),.int .i64 c.2.1,.string (bytesT c.2.2)] 52)=W at *;go_enter func239,ntmps239
 go_wp2_with fail;try rw[hW]
 clear hW;refine(ki HF.o.val _).mono ?_;rintro e w1 ⟨rfl,hb⟩;have HB:=ae hb;have e1:=λo=>(fA hb).1 w.heap.size o hq
 have ng:=jeY hq hb.size;clear hb;obtain⟨c0,c1,c2⟩:=cO w1 (.int .u8 (x.1:Int)) (.int .i64 x.2.1) (.string (bytesT x.2.2)) 52;have az:=aj w1 (.cells #[.int .u8 (x.1:Int),.int .i64 x.2.1,.string (bytesT x.2.2)] 52);have aL:=ae az;have e2:=λo=>(fA az).1 w.heap.size o ng
 rw[<- e1,<- e2]at d0 d1 d2;clear e1 e2 az ng hq;by_cases h1:x.1=3
 ·have h1':((x.1:Int)==3)=true:=by rw[h1];rfl
  by_cases h2:c.1=3
  ·have h2':((c.1:Int)==3)=true:=by rw[h2];rfl
   have HM:jgt (mP x c=lk (br (lb (bytesT c.2.2))) (br (lb (bytesT x.2.2)))):=ae (by simp[mP,h1,h2]);clear h1 h2;go_wp2_with fail;refine(Td _ _ (by have:=HF.o.short;omega) (by have:=HL.o;rw[be];omega) _).mono ?_;rintro e w2 ⟨rfl,hb⟩;rw[<- HM.o];obtain⟨n,hn⟩:∃ n,n=mP x c:=⟨_,rfl⟩;rw[<- hn];have HN:=ae hn;clear hn;go_wp2_with fail;go_ret
   exact⟨da HN.o,ai (ai (ai ce.o HB.o) aL.o) hb⟩
  ·have h2':((c.1:Int)==3)=false:=jeF.2 (by omega)
   have HM:jgt (mP x c=false):=ae (by simp[mP,h2]);clear h1 h2;go_wp2_with fail;go_ret
   exact⟨da HM.o.symm,ai (ai ce.o HB.o) aL.o⟩
 ·have h1':((x.1:Int)==3)=false:=jeF.2 (by omega)
  have HM:jgt (mP x c=false):=ae (by simp[mP,h1]);clear h1;go_wp2_with fail;go_ret
  exact⟨da HM.o.symm,ai (ai ce.o HB.o) aL.o⟩
def rq(b:Bool)(w:World):Calls prog 221 #[.bool b] w λe w'=>e=.returned (.int .u8 (isM b:Int))/\w'=w:=by
 refine(jcf b w).mono ?_;rintro e w1 ⟨rfl,rfl⟩;refine⟨?_,rfl⟩;cases b<;>rfl
def Uj{w:World}{b off op f:Nat}{c x:Cl}{kv:Value}(hn:et w b off op f c kv)(dD:Okc c)(hl:c.2.2.length<=300)(hf:aI x):Calls prog 222 #[.pointer (some ⟨b,off,none⟩),cz x] w λe w'=>e=.returned (.int .u8 (kC op c x:Int))/\jgu w w':=by
 have HF:=ae hf;have HO:=ae dD;have HL:=ae hl;have HN:=ae hn;obtain⟨cy,x0,x1,x2,x3,x4,x5⟩:=hn;clear hf dD hl;go_enter func222,ntmps222
 go_wp2_with fail;refine(oy HO.o _).mono ?_;rintro e w1 ⟨rfl,az⟩;have aL:=ae az;clear x0 x1 x2 x3 x4 x5 cy;have me:=ae (HN.o.kept az);clear az HN;go_wp2_with fail;refine(kB HF.o.val (dX HO.o).val _).mono ?_;rintro e w2 ⟨rfl,ap⟩;have aG:=ae (ai aL.o ap);obtain⟨cy,x0,x1,x2,x3,x4,x5⟩:=me.o.kept ap;clear ap aL me;obtain⟨m,hm⟩:∃ m,m=aD x (aH c):=⟨_,rfl⟩;have vH:cv (x.1:Int) x.2.1 (bytesT x.2.2) ((aH c).1:Int) (aH c).2.1 (bytesT (aH c).2.2)=m:=hm.symm;rw[vH];have HM:=ae hm;clear hm vH;by_cases h1:op=1
 ·subst h1
  go_wp2_with fail;refine(rq _ _).mono ?_;rintro e w3 ⟨rfl,rfl⟩;go_wp2_with fail;go_ret
  refine⟨?_,aG.o⟩;rw[HM.o];rfl
 have n1:((op:Int)==1)=false:=jeF.2 (by omega);by_cases h2:op=2
 ·subst h2
  go_wp2_with fail;refine(rq _ _).mono ?_;rintro e w3 ⟨rfl,rfl⟩;go_wp2_with fail;go_ret
  refine⟨?_,aG.o⟩;rw[HM.o];rfl
 have n2:((op:Int)==2)=false:=jeF.2 (by omega);by_cases h3:op=3
 ·subst h3
  go_wp2_with fail;refine(rq _ _).mono ?_;rintro e w3 ⟨rfl,rfl⟩;go_wp2_with fail;go_ret
  refine⟨?_,aG.o⟩;rw[HM.o];rfl
 have n3:((op:Int)==3)=false:=jeF.2 (by omega);by_cases h4:op=4
 ·subst h4
  go_wp2_with fail;refine(Po HF.o HL.o _).mono ?_;rintro e w3 ⟨rfl,aJ⟩;have aY:=ae (ai aG.o aJ);clear aJ;obtain⟨q,hq⟩:∃ q,q=mP x c:=⟨_,rfl⟩;rw[<- hq];have HQ:=ae hq;clear hq;go_wp2_with fail;refine(rq _ _).mono ?_;rintro e w3 ⟨rfl,rfl⟩;go_wp2_with fail;go_ret
  refine⟨?_,aY.o⟩;rw[HQ.o];rfl
 have n4:((op:Int)==4)=false:=jeF.2 (by omega);have HE:jgt (kC op c x=1):=ae (by unfold kC;rw[jex h1,jex h2,jex h3,jex h4]);clear h1 h2 h3 h4;go_wp2_with fail;go_ret
 rw[HE.o];exact⟨rfl,aG.o⟩
end Go.Proofs.YtpljdjmpamjkhaaGreatDoor
