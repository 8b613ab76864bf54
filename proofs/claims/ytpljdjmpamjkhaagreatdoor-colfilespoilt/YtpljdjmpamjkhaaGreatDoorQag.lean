import Derived.Test.YtpljdjmpamjkhaaGreatDoorQaf
import Derived.Shelf.Bits.Mul64
import Derived.Shelf.SlicesG.Turned
import Derived.Shelf.SlicesG.Clone
import Derived.Shelf.SlicesG.CompactI
import Derived.Shelf.SlicesG.CompactS
import Derived.Shelf.SlicesG.SearchI
import Derived.Shelf.SortM.Plain
import Derived.Shelf.Spec.SearchS
import Derived.Shelf.SortM.SortNone
import Derived.Lib.OwnBridge
import Derived.Laws.EntriesVeiled
set_option linter.unusedVariables false
set_option linter.unusedSimpArgs false
set_option maxRecDepth 100000
set_option maxHeartbeats 2000000
namespace Go.Proofs.YtpljdjmpamjkhaaGreatDoor
open Go.RowKit Go.Lib
def aL(l:List Int):List Value:=l.map fun z=>Value.int .i64 z
theorem rt(a b:List Int):aL (a++b)=aL a++aL b:=jeE
theorem cy(a:List Int):(aL a).length=a.length:=jen _
theorem pb{l:List Int}{j:Nat}(h:j<l.length):(aL l)[j]?=some (.int .i64 l[j]):=by simp[aL,h]
theorem zV(l:List Int)(j:Nat)(c:Int):(aL l).set j (.int .i64 c)=aL (l.set j c):=by simp[aL,List.map_set]
def dJ(W:World)(B:Nat)(v:Value)(bs:List Nat):Prop:=W.ownsRow B 92 1 v bs.length (aF .u64 bs)
def bF(W:World)(B:Nat)(v:Value)(l:List Int):Prop:=W.ownsRow B 2 1 v l.length (aL l)
theorem dJ.nil(W:World)(B:Nat):dJ W B (.slice none 0 0) []:=jfb _ _ _ _
theorem bF.nil(W:World)(B:Nat):bF W B (.slice none 0 0) []:=jfb _ _ _ _
theorem dJ.kept{w w':World}{B:Nat}{v:Value}{bs:List Nat}(h:dJ w B v bs)(hb:Below w.heap.size w w'):dJ w' B v bs:=bJ h hb
theorem bF.kept{w w':World}{B:Nat}{v:Value}{bs:List Int}(h:bF w B v bs)(hb:Below w.heap.size w w'):bF w' B v bs:=bJ h hb
theorem dJ.sv{W:World}{B:Nat}{v:Value}{bs:List Nat}(h:dJ W B v bs):Sv W v (aF .u64 bs):=Sv.of_own h
theorem bF.sv{W:World}{B:Nat}{v:Value}{l:List Int}(h:bF W B v l):Sv W v (aL l):=Sv.of_own h
theorem im{z:Int}(hz:I64 z)(w:World):Calls Tryz.prog 174 #[.int .i64 z] w (dA w (wv z)):=by
 refine(Hy z hz.1 hz.2 w).mono ?_;rintro e w' ⟨⟨v,rfl,h⟩,hb⟩;exact⟨⟨v,rfl,by unfold aD;rw[wv,vV,mF];exact h⟩,hb⟩
theorem du{z:Int}(hz:I64 z)(w:World):Calls Tryz.prog 137 #[.int .i64 z] w (dA w (wv z)):=by
 refine(yL z hz.1 hz.2 w).mono ?_;rintro e w' ⟨⟨v,rfl,h⟩,hb⟩;exact⟨⟨v,rfl,by unfold aD;rw[wv,vV,mF];exact h⟩,hb⟩
theorem Ef(a b:List Int):gB (a++b)=gB a++gB b:=by
 induction a with
 | nil=>rfl
 | cons x t ih=>rw[jfc,gB,ih,gB,jez]
theorem zW{l:List Int}{k:Nat}(h:k<l.length):gB (l.take (k+1))=gB (l.take k)++wv l[k]:=by
 rw[jeA h,Ef];simp[gB]
theorem Is.take{l:List Int}(h:Is l)(k:Nat):Is (l.take k):=fun x hx=>h x (je2 hx)
theorem Is.get{l:List Int}(h:Is l){k:Nat}(hk:k<l.length):I64 l[k]:=h _ (jeo hk)
theorem Sv.at{W:World}{a:Option Addr}{n cap:Nat}{l:List Int}(h:Sv W (.slice a n cap) (aL l)){k:Nat}(hk:k<l.length) :
  ∃ b off,a=some ⟨b,off,none⟩/\b<W.heap.size/\W.cell? ⟨b,off+k,none⟩=some (.int .i64 l[k]):=by
 obtain⟨a',c,h1,h2,h3,h4,h5⟩:=h;simp only[Value.slice.injEq]at h1;obtain⟨rfl,_,rfl⟩:=h1;obtain⟨b,off,h6,h7,h8⟩:=h5 (by rw[cy];omega);exact⟨b,off,h6,h7,h8 k _ (pb hk)⟩
theorem Sv.form{W:World}{v:Value}{l:List Int}(h:Sv W v (aL l)):∃ a cap,v=.slice a l.length cap/\l.length<=cap/\cap<=maxLen:=by
 obtain⟨a,cap,rfl,h1,h2,_⟩:=h;rw[cy]at *;exact⟨a,cap,rfl,h1,h2⟩
theorem uj{w:World}{v:Value}{l:List Int}(hs:Sv w v (aL l))(hl:l.length<=256)(hi:Is l) :
  Calls Tryz.prog 226 #[v] w (dA w (gB l)):=by
 have HI:=ae hi;have HS:=ae hs;obtain⟨a,cap,rfl,aW,bC⟩:=hs.form;clear hs hi aW bC;go_enter Tryz.func226,Tryz.ntmps226
 go_wp2_with fail;go_loopw [3,8] (fun b i wr=>∃ k:Nat,k<=l.length/\i=.int .i64 (k:Int)/\aD wr w.heap.size b (gB (l.take k))/\Below w.heap.size w wr) (fun _ i _=>l.length-(intOf i).toNat)
 case atStart=>exact⟨0,by omega,rfl,aD.nil _ _,jej _ _⟩
 case round =>
  obtain⟨k,hk,rfl,aA,az⟩:=hrel;have HO:=ae aA;have HB:=ae az;have bH:=az.size;clear aA az;by_cases aB:k<l.length
  ·obtain⟨b,off,rfl,hb,dN⟩:=(HS.o.kept HB.o).at aB
   have HX:=ae (HI.o.get aB);have HT:=ae (zW aB);have jG:=(mb (HI.o.take k)).1;rw[jeq]at jG;have Gl:=fC (HI.o.get aB);generalize l[k]=x at *;generalize gB (l.take k)=acc at *;go_wp2_with fail;refine(im HX.o _).mono ?_;rintro e w2 ⟨⟨v2,rfl,cB⟩,aE⟩;have dz:=ae cB;have HOk:=ae (HO.o.kept aE);have aN:=ae (HB.o.trans (aE.mono bH));have bv:=aE.size;clear cB aE;go_wp2_with (first | (at_builtin;refine ax rfl _ _ rfl w.heap.size _ _ acc (wv x) rfl HOk.o rfl dz.o.sv ?c1 ?c2 ?_))
   case c1=>omega
   case c2=>omega
   intro v3 w3 o3 b3;have dd:=ae o3;have bN:=ae (aN.o.trans b3);clear o3 b3;go_wp2_with fail;go_roundw
   case rel=>exact⟨k+1,by omega,by go_num,by rw[HT.o];exact dd.o,bN.o⟩
   case measure=>simp[intOf];omega
  ·obtain rfl:k=l.length:=by omega
   rw[jes]at HO;go_wp2_with fail;go_ret
   exact⟨⟨_,rfl,HO.o⟩,HB.o⟩
open Go.Shelf
def Eg:Go.Shelf.Ren:=⟨fun | 212=>295 | 263=>305 | 264=>306 | n=>n,fun | 46=>40 | 51=>22 | 146=>327 | 53=>92 | 148=>329 | n=>n,fun | n=>n⟩
theorem XA:Go.Proofs.Lays.n212 Tryz.prog Eg:={
 mixed:=by kernel_rfl
 f212:=Tryz.func295.trans (jep some (by kernel_rfl))
 f263:=Tryz.func305.trans (jep some (by kernel_rfl))
 f264:=Tryz.func306.trans (jep some (by kernel_rfl))
 t46:=Tryz.underlying40
 a46:=Tryz.isAgg40
 z46:=Tryz.sizeOf40
 v46:=Tryz.zeroValue40
 t51:=Tryz.underlying22
 a51:=Tryz.isAgg22
 z51:=Tryz.sizeOf22
 v51:=Tryz.zeroValue22
 t53:=Tryz.underlying92
 a53:=Tryz.isAgg92
 z53:=Tryz.sizeOf92
 v53:=Tryz.zeroValue92
 t146:=Tryz.underlying327
 a146:=Tryz.isAgg327
 z146:=Tryz.sizeOf327
 v146:=Tryz.zeroValue327
 t148:=Tryz.underlying329
 a148:=Tryz.isAgg329
 z148:=Tryz.sizeOf329
 v148:=Tryz.zeroValue329 }
def qg:Go.Shelf.Ren:=⟨fun | 39=>248 | n=>n,fun | 22=>143 | 23=>2 | 3=>3 | 4=>4 | 9=>9 | 20=>20 | 0=>0 | n=>n,fun | n=>n⟩
theorem xh:Go.Proofs.SlLaysN.n39 Tryz.prog qg:={
 mixed:=by kernel_rfl
 f39:=⟨Tryz.f248.name,by decide,Tryz.func248.trans (jep some (by kernel_rfl))⟩
 t0:=Tryz.underlying0
 a0:=Tryz.isAgg0
 z0:=Tryz.sizeOf0
 v0:=Tryz.zeroValue0
 t3:=Tryz.underlying3
 a3:=Tryz.isAgg3
 z3:=Tryz.sizeOf3
 v3:=Tryz.zeroValue3
 t4:=Tryz.underlying4
 a4:=Tryz.isAgg4
 z4:=Tryz.sizeOf4
 v4:=Tryz.zeroValue4
 t9:=Tryz.underlying9
 a9:=Tryz.isAgg9
 z9:=Tryz.sizeOf9
 v9:=Tryz.zeroValue9
 t20:=Tryz.underlying20
 a20:=Tryz.isAgg20
 z20:=Tryz.sizeOf20
 v20:=Tryz.zeroValue20
 t22:=Tryz.underlying143
 a22:=Tryz.isAgg143
 z22:=Tryz.sizeOf143
 v22:=Tryz.zeroValue143
 t23:=Tryz.underlying2
 a23:=Tryz.isAgg2
 z23:=Tryz.sizeOf2
 v23:=Tryz.zeroValue2 }
def qh:Go.Shelf.Ren:=⟨fun | 41=>241 | n=>n,fun | 22=>143 | 23=>2 | 4=>4 | n=>n,fun | n=>n⟩
theorem kA:Go.Proofs.SlLaysN.n41 Tryz.prog qh:={
 mixed:=by kernel_rfl
 f41:=⟨Tryz.f241.name,by decide,Tryz.func241.trans (jep some (by kernel_rfl))⟩
 t4:=Tryz.underlying4
 a4:=Tryz.isAgg4
 z4:=Tryz.sizeOf4
 v4:=Tryz.zeroValue4
 t22:=Tryz.underlying143
 a22:=Tryz.isAgg143
 z22:=Tryz.sizeOf143
 v22:=Tryz.zeroValue143
 t23:=Tryz.underlying2
 a23:=Tryz.isAgg2
 z23:=Tryz.sizeOf2
 v23:=Tryz.zeroValue2
 i23:=by kernel_rfl }
def ru:Go.Shelf.Ren:=⟨fun | 42=>207 | n=>n,fun | 25=>144 | 26=>9 | 4=>4 | n=>n,fun | n=>n⟩
theorem lH:Go.Proofs.SlLaysN.n42 Tryz.prog ru:={
 mixed:=by kernel_rfl
 f42:=⟨Tryz.f207.name,by decide,Tryz.func207.trans (jep some (by kernel_rfl))⟩
 t4:=Tryz.underlying4
 a4:=Tryz.isAgg4
 z4:=Tryz.sizeOf4
 v4:=Tryz.zeroValue4
 t25:=Tryz.underlying144
 a25:=Tryz.isAgg144
 z25:=Tryz.sizeOf144
 v25:=Tryz.zeroValue144
 t26:=Tryz.underlying9
 a26:=Tryz.isAgg9
 z26:=Tryz.sizeOf9
 v26:=Tryz.zeroValue9
 i26:=by kernel_rfl }
def qi:Go.Shelf.Ren:=⟨fun | 43=>243 | n=>n,fun | 22=>143 | 23=>2 | 3=>3 | 4=>4 | 0=>0 | n=>n,fun | n=>n⟩
theorem nR:Go.Proofs.SlLaysN.n43 Tryz.prog qi:={
 mixed:=by kernel_rfl
 f43:=⟨Tryz.f243.name,by decide,Tryz.func243.trans (jep some (by kernel_rfl))⟩
 t0:=Tryz.underlying0
 a0:=Tryz.isAgg0
 z0:=Tryz.sizeOf0
 v0:=Tryz.zeroValue0
 t3:=Tryz.underlying3
 a3:=Tryz.isAgg3
 z3:=Tryz.sizeOf3
 v3:=Tryz.zeroValue3
 t4:=Tryz.underlying4
 a4:=Tryz.isAgg4
 z4:=Tryz.sizeOf4
 v4:=Tryz.zeroValue4
 t22:=Tryz.underlying143
 a22:=Tryz.isAgg143
 z22:=Tryz.sizeOf143
 v22:=Tryz.zeroValue143
 t23:=Tryz.underlying2
 a23:=Tryz.isAgg2
 z23:=Tryz.sizeOf2
 v23:=Tryz.zeroValue2
 i23:=by kernel_rfl }
def rx:Go.Shelf.Ren:=⟨fun | 44=>209 | n=>n,fun | 25=>144 | 26=>9 | 3=>3 | 4=>4 | 0=>0 | n=>n,fun | n=>n⟩
theorem pF:Go.Proofs.SlLaysN.n44 Tryz.prog rx:={
 mixed:=by kernel_rfl
 f44:=⟨Tryz.f209.name,by decide,Tryz.func209.trans (jep some (by kernel_rfl))⟩
 t0:=Tryz.underlying0
 a0:=Tryz.isAgg0
 z0:=Tryz.sizeOf0
 v0:=Tryz.zeroValue0
 t3:=Tryz.underlying3
 a3:=Tryz.isAgg3
 z3:=Tryz.sizeOf3
 v3:=Tryz.zeroValue3
 t4:=Tryz.underlying4
 a4:=Tryz.isAgg4
 z4:=Tryz.sizeOf4
 v4:=Tryz.zeroValue4
 t25:=Tryz.underlying144
 a25:=Tryz.isAgg144
 z25:=Tryz.sizeOf144
 v25:=Tryz.zeroValue144
 t26:=Tryz.underlying9
 a26:=Tryz.isAgg9
 z26:=Tryz.sizeOf9
 v26:=Tryz.zeroValue9
 i26:=by kernel_rfl }
def qj:Go.Shelf.Ren:=⟨fun | 49=>269 | 59=>288 | 60=>291 | 68=>186 | n=>n,fun | 22=>143 | 23=>2 | 3=>3 | 4=>4 | 51=>40 | 0=>0 | n=>n,fun | n=>n⟩
theorem xi:Go.Proofs.SlLaysN.n49 Tryz.prog qj:={
 mixed:=by kernel_rfl
 f49:=⟨Tryz.f269.name,by decide,Tryz.func269.trans (jep some (by kernel_rfl))⟩
 f59:=⟨Tryz.f288.name,by decide,Tryz.func288.trans (jep some (by kernel_rfl))⟩
 f60:=⟨Tryz.f291.name,by decide,Tryz.func291.trans (jep some (by kernel_rfl))⟩
 f68:=⟨Tryz.f186.name,by decide,Tryz.func186.trans (jep some (by kernel_rfl))⟩
 t0:=Tryz.underlying0
 a0:=Tryz.isAgg0
 z0:=Tryz.sizeOf0
 v0:=Tryz.zeroValue0
 t3:=Tryz.underlying3
 a3:=Tryz.isAgg3
 z3:=Tryz.sizeOf3
 v3:=Tryz.zeroValue3
 t4:=Tryz.underlying4
 a4:=Tryz.isAgg4
 z4:=Tryz.sizeOf4
 v4:=Tryz.zeroValue4
 t22:=Tryz.underlying143
 a22:=Tryz.isAgg143
 z22:=Tryz.sizeOf143
 v22:=Tryz.zeroValue143
 t23:=Tryz.underlying2
 a23:=Tryz.isAgg2
 z23:=Tryz.sizeOf2
 v23:=Tryz.zeroValue2
 t51:=Tryz.underlying40
 a51:=Tryz.isAgg40
 z51:=Tryz.sizeOf40
 v51:=Tryz.zeroValue40 }
def ry:Go.Shelf.Ren:=⟨fun | 5=>242 | 8=>233 | 7=>268 | 19=>259 | 20=>260 | 10=>282 | 11=>283 | 12=>284 | 13=>285 | 14=>286 | 15=>287 | 16=>288 | 17=>289 | 18=>290 | 30=>300 | 31=>271 | 32=>272 | 33=>301 | 34=>302 | 35=>186 | 40=>313 | n=>n,fun | 23=>143 | 25=>2 | 3=>3 | 32=>40 | 22=>143 | 0=>0 | 44=>22 | 46=>92 | 4=>4 | 36=>283 | 35=>282 | 41=>239 | 5=>5 | 9=>9 | 53=>295 | 57=>299 | 63=>313 | 64=>314 | n=>n,fun | n=>n⟩
theorem pG:Go.Proofs.SlLaysM.n5 Tryz.prog ry:={
 mixed:=by kernel_rfl
 f5:=⟨Tryz.f242.name,by decide,Tryz.func242.trans (jep some (by kernel_rfl))⟩
 f7:=⟨Tryz.f268.name,by decide,Tryz.func268.trans (jep some (by kernel_rfl))⟩
 f8:=Tryz.func233.trans (jep some (by kernel_rfl))
 f10:=⟨Tryz.f282.name,by decide,Tryz.func282.trans (jep some (by kernel_rfl))⟩
 f11:=⟨Tryz.f283.name,by decide,Tryz.func283.trans (jep some (by kernel_rfl))⟩
 f12:=⟨Tryz.f284.name,by decide,Tryz.func284.trans (jep some (by kernel_rfl))⟩
 f13:=⟨Tryz.f285.name,by decide,Tryz.func285.trans (jep some (by kernel_rfl))⟩
 f14:=⟨Tryz.f286.name,by decide,Tryz.func286.trans (jep some (by kernel_rfl))⟩
 f15:=⟨Tryz.f287.name,by decide,Tryz.func287.trans (jep some (by kernel_rfl))⟩
 f16:=⟨Tryz.f288.name,by decide,Tryz.func288.trans (jep some (by kernel_rfl))⟩
 f17:=⟨Tryz.f289.name,by decide,Tryz.func289.trans (jep some (by kernel_rfl))⟩
 f18:=⟨Tryz.f290.name,by decide,Tryz.func290.trans (jep some (by kernel_rfl))⟩
 f19:=Tryz.func259.trans (jep some (by kernel_rfl))
 f20:=Tryz.func260.trans (jep some (by kernel_rfl))
 f30:=⟨Tryz.f300.name,by decide,Tryz.func300.trans (jep some (by kernel_rfl))⟩
 f31:=Tryz.func271.trans (jep some (by kernel_rfl))
 f32:=Tryz.func272.trans (jep some (by kernel_rfl))
 f33:=⟨Tryz.f301.name,by decide,Tryz.func301.trans (jep some (by kernel_rfl))⟩
 f34:=⟨Tryz.f302.name,by decide,Tryz.func302.trans (jep some (by kernel_rfl))⟩
 f35:=⟨Tryz.f186.name,by decide,Tryz.func186.trans (jep some (by kernel_rfl))⟩
 f40:=⟨Tryz.f313.name,by decide,Tryz.func313.trans (jep some (by kernel_rfl))⟩
 t0:=Tryz.underlying0
 a0:=Tryz.isAgg0
 z0:=Tryz.sizeOf0
 v0:=Tryz.zeroValue0
 t3:=Tryz.underlying3
 a3:=Tryz.isAgg3
 z3:=Tryz.sizeOf3
 v3:=Tryz.zeroValue3
 t4:=Tryz.underlying4
 a4:=Tryz.isAgg4
 z4:=Tryz.sizeOf4
 v4:=Tryz.zeroValue4
 t5:=Tryz.underlying5
 a5:=Tryz.isAgg5
 z5:=Tryz.sizeOf5
 v5:=Tryz.zeroValue5
 t9:=Tryz.underlying9
 a9:=Tryz.isAgg9
 z9:=Tryz.sizeOf9
 v9:=Tryz.zeroValue9
 t22:=Tryz.underlying143
 a22:=Tryz.isAgg143
 z22:=Tryz.sizeOf143
 v22:=Tryz.zeroValue143
 t23:=Tryz.underlying143
 a23:=Tryz.isAgg143
 z23:=Tryz.sizeOf143
 v23:=Tryz.zeroValue143
 t25:=Tryz.underlying2
 a25:=Tryz.isAgg2
 z25:=Tryz.sizeOf2
 v25:=Tryz.zeroValue2
 t32:=Tryz.underlying40
 a32:=Tryz.isAgg40
 z32:=Tryz.sizeOf40
 v32:=Tryz.zeroValue40
 t35:=Tryz.underlying282
 a35:=Tryz.isAgg282
 z35:=Tryz.sizeOf282
 v35:=Tryz.zeroValue282
 t36:=Tryz.underlying283
 a36:=Tryz.isAgg283
 z36:=Tryz.sizeOf283
 v36:=Tryz.zeroValue283
 t41:=Tryz.underlying239
 a41:=Tryz.isAgg239
 z41:=Tryz.sizeOf239
 v41:=Tryz.zeroValue239
 t44:=Tryz.underlying22
 a44:=Tryz.isAgg22
 z44:=Tryz.sizeOf22
 v44:=Tryz.zeroValue22
 t46:=Tryz.underlying92
 a46:=Tryz.isAgg92
 z46:=Tryz.sizeOf92
 v46:=Tryz.zeroValue92
 t53:=Tryz.underlying295
 a53:=Tryz.isAgg295
 z53:=Tryz.sizeOf295
 v53:=Tryz.zeroValue295
 t57:=Tryz.underlying299
 a57:=Tryz.isAgg299
 z57:=Tryz.sizeOf299
 v57:=Tryz.zeroValue299
 t63:=Tryz.underlying313
 a63:=Tryz.isAgg313
 z63:=Tryz.sizeOf313
 v63:=Tryz.zeroValue313
 t64:=Tryz.underlying314
 a64:=Tryz.isAgg314
 z64:=Tryz.sizeOf314
 v64:=Tryz.zeroValue314 }
def tg:Go.Shelf.Ren:=⟨fun | 6=>208 | 8=>233 | 9=>232 | 19=>259 | 20=>260 | 21=>250 | 22=>251 | 23=>252 | 24=>253 | 25=>254 | 26=>255 | 27=>256 | 28=>257 | 29=>258 | 36=>270 | 31=>271 | 32=>272 | 37=>273 | 38=>274 | 39=>187 | 41=>292 | n=>n,fun | 27=>144 | 29=>9 | 3=>3 | 32=>40 | 26=>144 | 0=>0 | 44=>22 | 46=>92 | 4=>4 | 36=>283 | 35=>282 | 41=>239 | 5=>5 | 9=>9 | 53=>295 | 57=>299 | 63=>313 | 64=>314 | n=>n,fun | n=>n⟩
theorem rz:Go.Proofs.SlLaysM.n6 Tryz.prog tg:={
 mixed:=by kernel_rfl
 f6:=⟨Tryz.f208.name,by decide,Tryz.func208.trans (jep some (by kernel_rfl))⟩
 f8:=Tryz.func233.trans (jep some (by kernel_rfl))
 f9:=⟨Tryz.f232.name,by decide,Tryz.func232.trans (jep some (by kernel_rfl))⟩
 f19:=Tryz.func259.trans (jep some (by kernel_rfl))
 f20:=Tryz.func260.trans (jep some (by kernel_rfl))
 f21:=⟨Tryz.f250.name,by decide,Tryz.func250.trans (jep some (by kernel_rfl))⟩
 f22:=⟨Tryz.f251.name,by decide,Tryz.func251.trans (jep some (by kernel_rfl))⟩
 f23:=⟨Tryz.f252.name,by decide,Tryz.func252.trans (jep some (by kernel_rfl))⟩
 f24:=⟨Tryz.f253.name,by decide,Tryz.func253.trans (jep some (by kernel_rfl))⟩
 f25:=⟨Tryz.f254.name,by decide,Tryz.func254.trans (jep some (by kernel_rfl))⟩
 f26:=⟨Tryz.f255.name,by decide,Tryz.func255.trans (jep some (by kernel_rfl))⟩
 f27:=⟨Tryz.f256.name,by decide,Tryz.func256.trans (jep some (by kernel_rfl))⟩
 f28:=⟨Tryz.f257.name,by decide,Tryz.func257.trans (jep some (by kernel_rfl))⟩
 f29:=⟨Tryz.f258.name,by decide,Tryz.func258.trans (jep some (by kernel_rfl))⟩
 f31:=Tryz.func271.trans (jep some (by kernel_rfl))
 f32:=Tryz.func272.trans (jep some (by kernel_rfl))
 f36:=⟨Tryz.f270.name,by decide,Tryz.func270.trans (jep some (by kernel_rfl))⟩
 f37:=⟨Tryz.f273.name,by decide,Tryz.func273.trans (jep some (by kernel_rfl))⟩
 f38:=⟨Tryz.f274.name,by decide,Tryz.func274.trans (jep some (by kernel_rfl))⟩
 f39:=⟨Tryz.f187.name,by decide,Tryz.func187.trans (jep some (by kernel_rfl))⟩
 f41:=⟨Tryz.f292.name,by decide,Tryz.func292.trans (jep some (by kernel_rfl))⟩
 t0:=Tryz.underlying0
 a0:=Tryz.isAgg0
 z0:=Tryz.sizeOf0
 v0:=Tryz.zeroValue0
 t3:=Tryz.underlying3
 a3:=Tryz.isAgg3
 z3:=Tryz.sizeOf3
 v3:=Tryz.zeroValue3
 t4:=Tryz.underlying4
 a4:=Tryz.isAgg4
 z4:=Tryz.sizeOf4
 v4:=Tryz.zeroValue4
 t5:=Tryz.underlying5
 a5:=Tryz.isAgg5
 z5:=Tryz.sizeOf5
 v5:=Tryz.zeroValue5
 t9:=Tryz.underlying9
 a9:=Tryz.isAgg9
 z9:=Tryz.sizeOf9
 v9:=Tryz.zeroValue9
 t26:=Tryz.underlying144
 a26:=Tryz.isAgg144
 z26:=Tryz.sizeOf144
 v26:=Tryz.zeroValue144
 t27:=Tryz.underlying144
 a27:=Tryz.isAgg144
 z27:=Tryz.sizeOf144
 v27:=Tryz.zeroValue144
 t29:=Tryz.underlying9
 a29:=Tryz.isAgg9
 z29:=Tryz.sizeOf9
 v29:=Tryz.zeroValue9
 t32:=Tryz.underlying40
 a32:=Tryz.isAgg40
 z32:=Tryz.sizeOf40
 v32:=Tryz.zeroValue40
 t35:=Tryz.underlying282
 a35:=Tryz.isAgg282
 z35:=Tryz.sizeOf282
 v35:=Tryz.zeroValue282
 t36:=Tryz.underlying283
 a36:=Tryz.isAgg283
 z36:=Tryz.sizeOf283
 v36:=Tryz.zeroValue283
 t41:=Tryz.underlying239
 a41:=Tryz.isAgg239
 z41:=Tryz.sizeOf239
 v41:=Tryz.zeroValue239
 t44:=Tryz.underlying22
 a44:=Tryz.isAgg22
 z44:=Tryz.sizeOf22
 v44:=Tryz.zeroValue22
 t46:=Tryz.underlying92
 a46:=Tryz.isAgg92
 z46:=Tryz.sizeOf92
 v46:=Tryz.zeroValue92
 t53:=Tryz.underlying295
 a53:=Tryz.isAgg295
 z53:=Tryz.sizeOf295
 v53:=Tryz.zeroValue295
 t57:=Tryz.underlying299
 a57:=Tryz.isAgg299
 z57:=Tryz.sizeOf299
 v57:=Tryz.zeroValue299
 t63:=Tryz.underlying313
 a63:=Tryz.isAgg313
 z63:=Tryz.sizeOf313
 v63:=Tryz.zeroValue313
 t64:=Tryz.underlying314
 a64:=Tryz.isAgg314
 z64:=Tryz.sizeOf314
 v64:=Tryz.zeroValue314 }
def BM:Go.Shelf.Ren:=⟨fun | 26=>234 | 33=>256 | 34=>261 | 38=>187 | n=>n,fun | 24=>144 | 9=>9 | 3=>3 | 4=>4 | 40=>40 | 0=>0 | n=>n,fun | n=>n⟩
theorem SO:Go.Proofs.Lays2.n26 Tryz.prog BM:={
 mixed:=by kernel_rfl
 f26:=Tryz.func234.trans (jep some (by kernel_rfl))
 f33:=Tryz.func256.trans (jep some (by kernel_rfl))
 f34:=Tryz.func261.trans (jep some (by kernel_rfl))
 f38:=Tryz.func187.trans (jep some (by kernel_rfl))
 t0:=Tryz.underlying0
 a0:=Tryz.isAgg0
 z0:=Tryz.sizeOf0
 v0:=Tryz.zeroValue0
 t3:=Tryz.underlying3
 a3:=Tryz.isAgg3
 z3:=Tryz.sizeOf3
 v3:=Tryz.zeroValue3
 t4:=Tryz.underlying4
 a4:=Tryz.isAgg4
 z4:=Tryz.sizeOf4
 v4:=Tryz.zeroValue4
 t9:=Tryz.underlying9
 a9:=Tryz.isAgg9
 z9:=Tryz.sizeOf9
 v9:=Tryz.zeroValue9
 t24:=Tryz.underlying144
 a24:=Tryz.isAgg144
 z24:=Tryz.sizeOf144
 v24:=Tryz.zeroValue144
 t40:=Tryz.underlying40
 a40:=Tryz.isAgg40
 z40:=Tryz.sizeOf40
 v40:=Tryz.zeroValue40 }
theorem Sv.cells{W:World}{b off n cap:Nat}{l:List Int}(h:Sv W (.slice (some ⟨b,off,none⟩) n cap) (aL l)):∀ j,j<l.length->W.cell? ⟨b,off+j,none⟩=some (.int .i64 (l.getD j 0)):=by
 intro j hj;obtain⟨b',off',h1,_,h2⟩:=h.at hj;cases h1
 rw[h2];simp[List.getD_eq_getElem?_getD,hj]
theorem Ja{w:World}{v:Value}{l:List Int}(hs:Sv w v (aL l))(hl:l.length<=256) :
  Calls Tryz.prog 241 #[v] w fun e w'=>(∃ v',e=.returned v'/\bF w' w.heap.size v' l)/\Below w.heap.size w w':=by
 have zg:=hs;obtain⟨a,cap,rfl,h1,h2,h3,h4⟩:=hs;rw[cy]at *;cases a with
 | none =>
  have hc:=h3 rfl;have qC:l=[]:=jeI (by omega);subst qC;refine Calls.mono (AnyG.slices_Clone_int_nil kA _ _ w) ?_;rintro e w' ⟨rfl,rfl⟩;exact⟨⟨_,rfl,bF.nil _ _⟩,jej _ _⟩
 | some a =>
  rcases jfa l.length with h0 | h0
  ·have qC:l=[]:=jeI h0
   subst qC;refine Calls.mono (AnyG.slices_Clone_int_zero kA a cap w) ?_;rintro e w' ⟨v',rfl,ho,_,hb⟩;exact⟨⟨_,rfl,ho⟩,hb⟩
  ·obtain⟨b,off,h5,h6,h7⟩:=h4 h0
   cases h5
   refine Calls.mono (AnyG.slices_Clone_int kA b off l.length cap l w (jek _) (by omega) zg.cells) ?_;rintro e w' ⟨v',rfl,ho,_,hb⟩;rw[jes]at ho;exact⟨⟨_,rfl,ho⟩,hb⟩
def srt(l:List Int):List Int:=l.mergeSort fun x y=>decide (x<=y)
theorem mO(l:List Int):(srt l).length=l.length:=List.length_mergeSort l
theorem kB{B:Nat}{w:World}(os:Array Obj)(hB:B<=w.heap.size):Below B w (Sort.grow w os) :=
 ⟨rfl,rfl,rfl,by simp,fun k hk=>Sort.heap_grow_old _ _ (by omega)⟩
theorem SP{w:World}{B:Nat}{v:Value}{l:List Int}(h:bF w B v l)(hl:l.length<=256)(hB:B<=w.heap.size) :
  Calls Tryz.prog 242 #[v] w fun e w'=>e=.returned (.tuple #[])/\bF w' B v (srt l)/\Below B w w':=by
 by_cases hv:v=.slice none 0 0
 ·subst hv
  have qC:l=[]:=by
   have h1:=h.1;rcases h.2 with ⟨_,h2⟩ | ⟨g,cap,cur,h2,_⟩
   ·exact jeI h2
   ·cases h2
  subst qC;refine Calls.mono (AnyM.slices_Sort_int_none pG none 0 w) ?_;rintro e w' ⟨rfl,rfl⟩;exact⟨rfl,(by unfold srt;rw[List.mergeSort_nil];exact h),jej _ _⟩
 ·obtain⟨g,cap,rfl,hb,hg,hc,hm,bR,hH⟩:=holds_of_ownsRow (enc:=Value.int .i64) h hv
  refine Calls.mono (AnyM.slices_Sort_int pG g 0 cap l w hH hg (by omega)) ?_;rintro e w' ⟨rfl,n,os,rfl⟩;have h1:=ownsRow_putRow (enc:=Value.int .i64) (q:=n) (k:=l.length) (ys:=srt l) h (mO l) (jek _);have aH:=below_putRow (enc:=Value.int .i64) (q:=n) (d:=(srt l).toArray) (jej B w) hb;refine⟨rfl,?_,aH.trans (kB os (by have:=aH.size;omega))⟩;unfold bF;rw[mO];rw[je4 (by rw[mO];omega)]at h1;exact bJ h1 (kB os (jek _))
theorem Eh{w:World}{B:Nat}{v:Value}{l:List Int}(h:bF w B v l)(hl:l.length<=256)(hB:B<=w.heap.size) :
  Calls Tryz.prog 243 #[v] w fun e w'=>(∃ v',e=.returned v'/\bF w' B v' (Lib.compact l))/\Below B w w':=by
 by_cases hv:v=.slice none 0 0
 ·subst hv
  have qC:l=[]:=by
   have h1:=h.1;rcases h.2 with ⟨_,h2⟩ | ⟨g,cap,cur,h2,_⟩
   ·exact jeI h2
   ·cases h2
  subst qC;refine Calls.mono (AnyG.slices_Compact_int_empty nR none 0 w) ?_;rintro e w' ⟨rfl,rfl⟩;exact⟨⟨_,rfl,h⟩,jej _ _⟩
 ·obtain⟨g,cap,rfl,hb,hg,hc,hm,bR,hH⟩:=holds_of_ownsRow (enc:=Value.int .i64) h hv
  have pt:=Lib.compact_length_le l;refine Calls.mono (AnyG.slices_Compact_int nR g 0 cap l w hH (by omega) (by omega)) ?_;rintro e w' ⟨rfl,q,rfl⟩;have h1:=ownsRow_putRow (enc:=Value.int .i64) (q:=q) (k:=(Lib.compact l).length) (ys:=Lib.compact l++List.replicate (l.length-(Lib.compact l).length) 0) h (by simp;omega) (by omega);rw[jfh]at h1;exact⟨⟨_,rfl,h1⟩,below_putRow (enc:=Value.int .i64) (jej B w) hb⟩
theorem Jb{w:World}{v:Value}{u:List Int}(hs:Sv w v (aL u))(hu:0<u.length)(hl:u.length<=256)(hr:dV u)(x:Int) :
  Calls Tryz.prog 269 #[v,.int .i64 x] w fun e w'=>(∃ r,e=.returned (.tuple #[.int .i64 (u.countP (· < x):Nat),r]))/\Below w.heap.size w w':=by
 have zg:=hs;obtain⟨a,cap,rfl,h1,h2,h3,h4⟩:=hs;rw[cy]at *;obtain⟨b,off,rfl,h6,h7⟩:=h4 hu;refine Calls.mono (AnyG.slices_BinarySearch_int xi b off u.length cap u x w (jek _) (by omega) zg.cells (by rw[jes];exact hr.imp Int.le_of_lt)) ?_;rintro e w' ⟨rfl,q,rfl⟩;rw[jes];exact⟨⟨_,rfl⟩,ar (jej _ _) q⟩
theorem XB{w:World}{v:Value}{l:List Int}(hs:Sv w v (aL l))(hp:0<l.length)(hl:l.length<=256) :
  Calls Tryz.prog 248 #[v] w fun e w'=>e=.returned (.int .i64 (Lib.minOf l))/\w'=w:=by
 have zg:=hs;obtain⟨a,cap,rfl,h1,h2,h3,h4⟩:=hs;rw[cy]at *;obtain⟨b,off,rfl,h6,h7⟩:=h4 hp;have:=AnyG.slices_Min_int xh b off l.length cap l w hp (jek _) (by omega) zg.cells;rw[jes]at this;exact this
theorem zX{x:Int}:∀{u:List Int},dV u->x∈u->u.countP (· < x)=pl u x
 | y::t,hr,hx=>by
  have h1:(∀ z∈t,y<z)/\dV t:=jfn.1 hr;unfold pl;split
  ·next e =>
   subst e;rw[List.countP_eq_zero];intro z hz;rcases jeC.1 hz with rfl | hz
   ·simp
   ·have:=h1.1 z hz
    simp;omega
  ·next fJ =>
   have ht:x∈t:=by
    rcases jeC.1 hx with rfl | h
    ·exact absurd rfl fJ
    ·exact h
   have aB:=h1.1 x ht;rw[List.countP_cons_of_pos (by simpa using aB),zX h1.2 ht]
theorem xk:∀{a b:List Int},dV a->dV b->(∀ z,z∈a↔z∈b)->a=b
 | [],[],_,_,_=>rfl
 | [],y::t,_,_,h=>by have:=(h y).2 (by simp);simp at this
 | x::s,[],_,_,h=>by have:=(h x).1 (by simp);simp at this
 | x::s,y::t,ha,hb,h=>by
  have h1:(∀ z∈s,x<z)/\dV s:=jfn.1 ha;have h2:(∀ z∈t,y<z)/\dV t:=jfn.1 hb
  have Di:x=y:=by
   rcases jeC.1 ((h x).1 (by simp))with e | e
   ·exact e
   ·rcases jeC.1 ((h y).2 (by simp))with e' | e'
    ·exact e'.symm
    ·have:=h1.1 y e'
     have:=h2.1 x e;omega
  subst Di;congr 1
  refine xk h1.2 h2.2 (fun z=>?_);have h3:=h z;constructor
  ·intro hz
   rcases jeC.1 (h3.1 (by simp[hz]))with rfl | e
   ·have:=h1.1 z hz;omega
   ·exact e
  ·intro hz
   rcases jeC.1 (h3.2 (by simp[hz]))with rfl | e
   ·have:=h2.1 z hz;omega
   ·exact e
theorem jN{l:List Int}:∀ m,m<=l.length->∀ z,z∈compactUpTo l.toArray m↔z∈l.take m
 | 0,_,z=>by simp[compactUpTo]
 | m+1,hm,z=>by
  have ih:=jN (l:=l) m (by omega);have hg:l.toArray[m]! = l[m]:=by simp[show m<l.length by omega]
  rw[compactUpTo_succ,jeN,ih z,jeA (by omega),jeN,hg];by_cases hk:keeps l.toArray m=true
  ·rw[jei hk]
  ·rw[jeh hk]
   constructor
   ·rintro(h | h)
    ·exact Or.inl h
    ·simp at h
   ·rintro(h | h)
    ·exact Or.inl h
    ·left
     have h':z=l[m]:=by simpa using h
     unfold keeps at hk;simp only[je7]at hk;have eZ:l.toArray[m-1]! = l[m-1]:=by simp[show m-1<l.length by omega]
     rw[hg,eZ]at hk;have hm0:m≠0:=fun e=>hk (Or.inl e)
     have he:l[m]=l[m-1]:=Decidable.byContradiction fun e=>hk (Or.inr e)
     rw[h',he];exact jge.2 ⟨m-1,by omega,rfl⟩
theorem kC{l:List Int}(hs:l.Pairwise (·<=·)):∀ m,m<=l.length->dV (compactUpTo l.toArray m)
 | 0,_=>by simp[compactUpTo,dV]
 | m+1,hm=>by
  have ih:=kC hs m (by omega);have hg:l.toArray[m]! = l[m]:=by simp[show m<l.length by omega]
  rw[compactUpTo_succ,hg];by_cases hk:keeps l.toArray m=true
  ·rw[jei hk]
   refine List.pairwise_append.2 ⟨ih,by simp,fun a ha b hb=>?_⟩;have hb':b=l[m]:=by simpa using hb
   subst hb';have h1:=(jN m (by omega) a).1 ha;obtain⟨j,hj,rfl⟩:=jge.1 h1;have hjm:j<m:=(by omega);unfold keeps at hk;simp only[je7]at hk;have eZ:l.toArray[m-1]! = l[m-1]:=by simp[show m-1<l.length by omega]
   rw[hg,eZ]at hk
   have h2:l[m]≠l[m-1]:=by
    rcases hk with h | h
    ·omega
    ·exact h
   have h3:l[m-1]<=l[m]:=jfW.1 hs (m-1) m (by omega) (by omega) (by omega)
   have h4:l[j]<=l[m-1]:=by
    rcases jeM j (m-1)with h | h
    ·exact jfW.1 hs j (m-1) (by omega) (by omega) h
    ·have:j=m-1:=by omega
     subst this;exact Int.le_refl _
   omega
  ·rw[jeh hk,jeG]
   exact ih
theorem Ei(l:List Int):Lib.compact (srt l)=cI l:=by
 have hs:(srt l).Pairwise (·<=·):=by
  have:=List.pairwise_mergeSort (le:=fun x y:Int=>decide (x<=y)) (fun a b c h1 h2=>by simp at *;omega) (fun a b=>by simp;omega) l;exact this.imp (fun h=>by simpa using h)
 refine xk (kC hs _ (jek _)) (ib l) (fun z=>?_);rw[gC];have:=jN (l:=srt l) (srt l).length (jek _) z;rw[jes]at this;unfold Lib.compact;rw[this];exact List.mem_mergeSort
theorem Ej{l:List Int}(h:0<l.length):Lib.minOf l=ic l:=by
 have key:∀(t:List Int) (a:Int),t.foldl min a<=a/\(∀ x∈t,t.foldl min a<=x)/\(t.foldl min a=a∨t.foldl min a∈t):=by
  intro t;induction t with
  | nil=>intro a;simp
  | cons y t ih =>
   intro a;obtain⟨i1,i2,i3⟩:=ih (min a y);simp only[List.foldl_cons];refine⟨by omega,fun x hx=>?_,?_⟩
   ·rcases jeC.1 hx with rfl | hx
    ·omega
    ·exact i2 x hx
   ·rcases i3 with i3 | i3
    ·rw[i3]
     rcases Int.le_total a y with h | h
     ·left;omega
     ·right;simp;left;omega
    ·right;simp[i3]
 have h1:Lib.minOf l∈l/\∀ x∈l,Lib.minOf l<=x:=by
  cases l with
  | nil=>simp at h
  | cons a t =>
   have:=key (a::t) a;unfold Lib.minOf;rw[List.headD_cons];refine⟨?_,this.2.1⟩;rcases this.2.2 with e | e
   ·rw[e];simp
   ·exact e
 have h2:=ie h;have h3:=h1.2 _ h2;have h4:=nN _ h1.1;omega
def ahd(l:List Int)(k:Nat):Int:=if k=0 then 0 else l.getD (k-1) 0
theorem Ek{l:List Int}{k:Nat}(h:k<l.length):ahd l (k+1)=l[k]:=by
 unfold ahd;simp[List.getD_eq_getElem?_getD,h]
theorem uk:∀(a:List Int) (last x:Int),iP last (a++[x])=iP last a++wv (w64 (x-(a.getLast?.getD last)))
 | [],last,x=>by simp[iP]
 | y::t,last,x=>by
  rw[jfc,iP,uk t y x,iP,jez];cases t with
  | nil=>rfl
  | cons z s=>rw[show (y::z::s).getLast?=(z::s).getLast? from by simp[List.getLast?_cons_cons]];simp[List.getLast?_eq_some_getLast]
theorem SQ{l:List Int}{k:Nat}(h:k<=l.length):(l.take k).getLast?.getD 0=ahd l k:=by
 unfold ahd;cases k with
 | zero=>simp
 | succ k =>
  rw[jeh (by omega),List.getLast?_take,List.getD_eq_getElem?_getD];simp[show k<l.length by omega]
theorem zY{l:List Int}{k:Nat}(h:k<l.length):iP 0 (l.take (k+1))=iP 0 (l.take k)++wv (w64 (l[k]-ahd l k)):=by
 rw[jeA h,uk,SQ (by omega)]
theorem rB(x:Int):IntKind.i64.wrap x=w64 x:=by rw[jeV];unfold w64;omega
theorem rC{w:World}{v:Value}{l:List Int}(hs:Sv w v (aL l))(hl:l.length<=256)(hi:Is l) :
  Calls Tryz.prog 227 #[v] w (dA w (iP 0 l)):=by
 have HI:=ae hi;have HS:=ae hs;obtain⟨a,cap,rfl,aW,bC⟩:=hs.form;clear hs hi aW bC;go_enter Tryz.func227,Tryz.ntmps227
 go_wp2_with fail;go_loopw [3,4,9] (fun b ah i wr=>∃ k:Nat,k<=l.length/\i=.int .i64 (k:Int)/\ah=.int .i64 (ahd l k)/\aD wr w.heap.size b (iP 0 (l.take k))/\Below w.heap.size w wr) (fun _ _ i _=>l.length-(intOf i).toNat)
 case atStart=>exact⟨0,by omega,rfl,rfl,aD.nil _ _,jej _ _⟩
 case round =>
  obtain⟨k,hk,rfl,rfl,aA,az⟩:=hrel;have HO:=ae aA;have HB:=ae az;have bH:=az.size;clear aA az;by_cases aB:k<l.length
  ·obtain⟨b,off,rfl,hb,dN⟩:=(HS.o.kept HB.o).at aB
   have HX:=ae (jq (l[k]-ahd l k));have KW:=rB (l[k]-ahd l k);have HT:=ae (zY aB);have HA:=ae (Ek aB);have jG:=(oS (l:=l.take k) (last:=0)).1;rw[jeq]at jG;have Gl:=fC (jq (l[k]-ahd l k));generalize l[k]=x at *;generalize ahd l k=y at *;generalize iP 0 (l.take k)=acc at *;generalize w64 (x-y)=d at *;go_wp2_with fail;try rw[KW]
   refine(im HX.o _).mono ?_;rintro e w2 ⟨⟨v2,rfl,cB⟩,aE⟩;have dz:=ae cB;have HOk:=ae (HO.o.kept aE);have aN:=ae (HB.o.trans (aE.mono bH));have bv:=aE.size;clear cB aE;go_wp2_with (first | (at_builtin;refine ax rfl _ _ rfl w.heap.size _ _ acc (wv d) rfl HOk.o rfl dz.o.sv ?c1 ?c2 ?_))
   case c1=>omega
   case c2=>omega
   intro v3 w3 o3 b3;have dd:=ae o3;have bN:=ae (aN.o.trans b3);clear o3 b3;go_wp2_with fail;go_roundw
   case rel=>exact⟨k+1,by omega,by go_num,by rw[HA.o],by rw[HT.o];exact dd.o,bN.o⟩
   case measure=>simp[intOf];omega
  ·obtain rfl:k=l.length:=by omega
   rw[jes]at HO;go_wp2_with fail;go_ret
   exact⟨⟨_,rfl,HO.o⟩,HB.o⟩
def iQ(x:Int):List Int->Nat
 | []=>0
 | y::t=>if y=x then iQ x t+1 else 0
theorem LX(x:Int):∀ l,iQ x l<=l.length
 | []=>by simp[iQ]
 | y::t=>by
  have:=LX x t;unfold iQ;split<;>simp<;>omega
theorem zZ{x:Int}:∀{l:List Int} {k:Nat},(∀ j (h:j<k) (hl:j<l.length),l[j]=x)->(h:k<l.length)->l[k]≠x->iQ x l=k
 | y::t,0,_,_,h=>by
  unfold iQ;rw[jeh (by simpa using h)]
 | y::t,k+1,ha,hk,h=>by
  have h0:=ha 0 (by omega) (by simp);unfold iQ;rw[jei (by simpa using h0),zZ (l:=t) (k:=k) (fun j hj hl=>by have:=ha (j+1) (by omega) (by simpa using hl);simpa using this) (by simpa using hk) (by simpa using h)]
theorem El{x:Int}:∀{l:List Int},(∀ j (h:j<l.length),l[j]=x)->iQ x l=l.length
 | [],_=>rfl
 | y::t,ha=>by
  have h0:=ha 0 (by simp);unfold iQ;rw[jei (by simpa using h0),El (l:=t) (fun j hj=>by have:=ha (j+1) (by simpa using hj);simpa using this)];simp
theorem Aa(x:Int):∀(t:List Int) (c:Nat),fM x c t=wv x++uv (c+iQ x t)++iA (t.drop (iQ x t))
 | [],c=>by simp[fM,iQ,iA]
 | y::t,c=>by
  unfold fM iQ;split
  ·next h =>
   rw[Aa x t (c+1)];rw[show c+1+iQ x t=c+(iQ x t+1) by omega,List.drop_succ_cons]
  ·simp[iA]
theorem SR{l:List Int}(h:0<l.length):iA l=wv l[0]++uv (iQ l[0] l)++iA (l.drop (iQ l[0] l)):=by
 cases l with
 | nil=>simp at h
 | cons x t =>
  show fM x 1 t=wv x++uv (iQ x (x::t))++iA ((x::t).drop (iQ x (x::t)))
  rw[Aa x t 1];have e:iQ x (x::t)=iQ x t+1:=by rw[iQ,jei rfl]
  rw[e,List.drop_succ_cons,Nat.add_comm 1]
theorem SS{l:List Int}(h:0<l.length):0<iQ l[0] l:=by
 cases l with
 | nil=>simp at h
 | cons x t =>
  show 0<iQ x (x::t)
  rw[iQ,jei rfl];omega
theorem yM{w:World}{v:Value}{l:List Int}(hs:Sv w v (aL l))(hl:l.length<=256)(hp:0<l.length) :
  Calls Tryz.prog 240 #[v] w fun e w'=>e=.returned (.int .i64 (iQ l[0] l:Int))/\w'=w:=by
 have HS:=ae hs;obtain⟨a,cap,rfl,aW,bC⟩:=hs.form;obtain⟨b,off,rfl,hb,oE⟩:=hs.at hp;clear hs aW bC;rw[je9]at oE;have HE:jgf (∀ k,(∀ j (h:j<k) (hl:j<l.length),l[j]=l[0])->(h:k<l.length)->l[k]≠l[0]->iQ l[0] l=k):=fun k h1 h2 h3=>zZ h1 h2 h3
 have HA:=ae (El (x:=l[0]) (l:=l));generalize l[0]=x at *;go_enter Tryz.func240,Tryz.ntmps240
 go_wp2_with fail;go_loopw [7] (fun i wr=>wr=w/\∃ k:Nat,k<=l.length/\i=.int .i64 (k:Int)/\∀ j (h:j<k) (hl:j<l.length),l[j]=x) (fun i _=>l.length-(intOf i).toNat)
 case atStart=>exact⟨rfl,0,by omega,rfl,fun j h=>by omega⟩
 case round =>
  obtain⟨rfl,k,hk,rfl,cZ⟩:=hrel;have HL:=ae cZ;clear cZ;by_cases aB:k<l.length
  ·obtain⟨b',off',AQ,_,dN⟩:=HS.o.at aB
   cases AQ
   have HX:=ae (HE.o k HL.o aB);have HY:jgf (∀ j (h:j<k+1) (hl:j<l.length),l[j]=x->l[j]=x):=fun _ _ _ h=>h
   by_cases he:(l[k]==x)=true
   ·have fJ:(l[k] != x)=false:=by simpa using he
    have HN:jgf (∀ j (h:j<k+1) (hl:j<l.length),l[j]=x):=by
     intro j hj hl;rcases jeM j k with h | h
     ·exact HL.o j h hl
     ·have:j=k:=by omega
      subst this;simpa using he
    clear HX;generalize l[k]=y at *;go_wp2_with fail;go_roundw
    case rel=>exact⟨trivial,k+1,by omega,by go_num,HN.o⟩
    case measure=>simp[intOf];omega
   ·have fJ:(l[k] != x)=true:=by simpa using he
    have HR:=ae (HX.o (by simpa using he));clear HX;generalize l[k]=y at *;go_wp2_with fail;go_ret
    rw[HR.o];exact⟨rfl,rfl⟩
  ·obtain rfl:k=l.length:=by omega
   have HR:=ae (HA.o (fun j hj=>HL.o j hj hj));go_wp2_with fail;go_ret
   rw[HR.o];exact⟨rfl,rfl⟩
theorem BN{W:World}{b off n cap:Nat}{xs:List Value}(h:Sv W (.slice (some ⟨b,off,none⟩) n cap) xs){k:Nat}(hk:k<=xs.length) :
  ∃ A,(if cap=k then (some ⟨b,off,none⟩:Option Addr) else some ⟨b,off+k,none⟩)=A/\Sv W (.slice A (n-k) (cap-k)) (xs.drop k):=by
 refine⟨_,rfl,?_⟩;have:=h.drop hk rfl;split at this
 ·next e=>rw[jei e];exact this
 ·next e=>rw[jeh e];exact this
theorem Jc(l:List Int)(k:Nat):aL (l.drop k)=(aL l).drop k:=by simp[aL,List.map_drop]
theorem Is.drop{l:List Int}(h:Is l)(k:Nat):Is (l.drop k):=fun x hx=>h x (jfS hx)
theorem Ab{l:List Int}(h:Is l)(hl:l.length<=256):(iA l).length<=5120:=by
 have:=eI 2 h hl;cases l with
 | nil=>simp[iA]
 | cons x t =>
  have:=(mK (t:=t) (x:=x) (c:=1) (fun z hz=>h z (by simp[hz])) (h x (by simp)) (by simp at hl;omega)).1;simp at hl
  rw[iA];omega
theorem um{w:World}{v:Value}{l:List Int}(hs:Sv w v (aL l))(hl:l.length<=256)(hi:Is l) :
  Calls Tryz.prog 228 #[v] w (dA w (iA l)):=by
 have HI:=ae hi;have HS:=ae hs;have jG:=Ab hi hl;obtain⟨a,cap,rfl,aW,bC⟩:=hs.form;clear hs hi;go_enter Tryz.func228,Tryz.ntmps228
 go_wp2_with fail;go_loopw [0,3] (fun v b wr=>∃(m:List Int) (acc:List Nat),Sv w v (aL m)/\m.length<=256/\Is m/\acc++iA m=iA l/\aD wr w.heap.size b acc/\Below w.heap.size w wr) (fun v _ _=>(match v with | .slice _ n _=>n | _=>0))
 case atStart=>exact⟨l,[],HS.o,hl,HI.o,rfl,aD.nil _ _,jej _ _⟩
 case round =>
  obtain⟨m,acc,WD,hml,him,KP,aA,az⟩:=hrel;have WH:=ae WD;have HIM:=ae him;have HA:=ae KP;have HO:=ae aA;have HB:=ae az;have bH:=az.size;have bR:=jep List.length KP;rw[jem]at bR;obtain⟨a2,cap2,rfl,Vs,zh⟩:=WD.form;have jb5:cap2<=9223372036854775807:=by unfold maxLen at zh;omega
  clear WD him KP aA az zh HS aW bC;by_cases hp:0<m.length
  ·have Gm:=ae (WH.o.kept HB.o)
   obtain⟨b,off,rfl,hb,oE⟩:=Gm.o.at hp;rw[je9]at oE;have HX:=ae (HIM.o.get hp);have hE:=SR hp;have Vt:=ae (yM Gm.o hml hp);have nD:=LX m[0] m;have hrp:=SS hp;have nB:=fC (HIM.o.get hp);generalize m[0]=x at *;generalize iQ x m=r at *;obtain⟨A,hA,hSA⟩:=BN WH.o (k:=r) (by rw[cy];omega);rw[← Jc]at hSA;have lN:=ae hSA;have HE:=ae hE;have hlE:=jep List.length hE;rw[jem,jem]at hlE;clear hSA hE;go_wp2_with fail;refine Vt.o.mono ?_;rintro e w1 ⟨rfl,rfl⟩;go_wp2_with fail;refine(im HX.o _).mono ?_;rintro e w2 ⟨⟨v2,rfl,cB⟩,aE⟩;have dz:=ae cB;have HOk:=ae (HO.o.kept aE);have aN:=ae (HB.o.trans (aE.mono bH));have bv:=aE.size;clear cB aE;go_wp2_with (first | (at_builtin;refine ax rfl _ _ rfl w.heap.size _ _ acc (wv x) rfl HOk.o rfl dz.o.sv ?c1 ?c2 ?_))
   case c1=>omega
   case c2=>omega
   intro v3 w3 o3 b3;have dd:=ae o3;have bN:=ae (aN.o.trans b3);have iN:=b3.size;clear o3 b3;go_wp2_with fail;refine(dQ r (by omega) _).mono ?_;rintro e w4 ⟨⟨v4,rfl,uS⟩,bG⟩;have eY:=ae uS;have HOk4:=ae (dd.o.kept bG);have cp:=ae (bN.o.trans (bG.mono (by omega)));have KR:=bG.size;clear uS bG;go_wp2_with (first | (at_builtin;refine ax rfl _ _ rfl w.heap.size _ _ (acc++wv x) (uv r) rfl HOk4.o rfl eY.o.sv ?c1 ?c2 ?_))
   case c1=>simp;omega
   case c2=>omega
   intro v5 w5 o5 b5;have df:=ae o5;have aQ:=ae (cp.o.trans b5);clear o5 b5;go_wp2_with fail;go_roundw
   case rel=>exact⟨m.drop r,acc++(wv x++uv r),lN.o,by rw[jeR];omega,HIM.o.drop r,by rw[← HA.o,HE.o];simp,df.o,aQ.o⟩
   case measure=>simp;omega
  ·obtain rfl:m=[]:=jeI (by omega)
   go_wp2_with fail;go_ret
   refine⟨⟨_,rfl,?_⟩,HB.o⟩;have e:=HA.o;rw[show iA []=[] from rfl,jeG]at e;rw[← e];exact HO.o
theorem BO(a b:Int)(ha:I64 a)(hb:I64 b)(w:World):Calls Tryz.prog 249 #[.int .i64 a,.int .i64 b] w fun e w'=>e=.returned (.int .u64 ((b-a) % 18446744073709551616))/\w'=w:=by
 have HE:jgf (IntKind.u64.wrap (IntKind.u64.wrap b-IntKind.u64.wrap a)=(b-a) % 18446744073709551616):=by
  show _=_
  rw[jeP,jeP,jeP];omega
 clear ha hb;go_enter Tryz.func249,Tryz.ntmps249
 go_wp2_with fail;go_ret
 rw[← HE.o];exact⟨rfl,rfl⟩
theorem nS{a b:Int}(ha:I64 a)(hb:I64 b)(Vu:a<=b)(w:World):Calls Tryz.prog 249 #[.int .i64 a,.int .i64 b] w fun e w'=>e=.returned (.int .u64 ((b-a).toNat:Int))/\w'=w:=by
 have:=BO a b ha hb w;unfold I64 at ha hb;rwa[show (b-a) % 18446744073709551616=((b-a).toNat:Int) by omega]at this
theorem Ac{w:World}{v:Value}{l:List Nat}(hs:Sx .u64 w v l)(kU:∀ x∈l,x<18446744073709551616)(x:Int) :
  Calls Tryz.prog 245 #[v,.int .i64 x] w (dA w (bm l x)):=by
 have HP:=ae (zU hs kU x);clear hs kU;go_enter Tryz.func245,Tryz.ntmps245
 go_wp2_with fail;refine HP.o.mono ?_;rintro e w1 ⟨v1,rfl,aA,hb⟩;have HO:=ae aA;clear aA;go_wp2_with fail;go_ret
 exact⟨⟨_,rfl,HO.o⟩,hb⟩
theorem jbm(n:Nat):wd [n]=cX n:=by
 have h1:wd [n]<=cX n:=qX.2 (fun x hx=>by
  have:x=n:=by simpa using hx
  subst this;exact eR.1 (jek _))
 have h2:cX n<=wd [n]:=eR.2 (qX.1 (jek _) n (by simp));omega
theorem nT(n:Nat)(hn:n<=256)(w:World):Calls Tryz.prog 247 #[.int .i64 (n:Int)] w fun e w'=>e=.returned (.int .i64 (cX (n-1):Int))/\Below w.heap.size w w':=by
 by_cases h0:((n:Int)==0)=true
 ·have h0':n=0:=by simpa using h0
  subst h0';go_enter Tryz.func247,Tryz.ntmps247
  go_wp2_with fail;go_ret
  exact⟨rfl,jej _ _⟩
 ·have h0f:((n:Int)==0)=false:=by simpa using h0
  have qI:n≠0:=by simpa using h0
  obtain⟨m,rfl⟩:∃ m,n=m+1:=⟨n-1,by omega⟩
  have HW:=ae (fun w=>te (Sx.lit (k:=.u64) w [m] 92 (by unfold maxLen;simp)) (fun x hx=>by
   have:x=m:=by simpa using hx
   omega))
  have HB:=ae (fun w:World=>(jej w.heap.size w).alloc (jek _) (.cells (aF .u64 [m]).toArray 92));have he:((m+1:Nat):Int)-1=(m:Int):=by omega
  rw[jbm]at HW;clear h0;go_enter Tryz.func247,Tryz.ntmps247
  go_wp2_with fail;refine(HW.o w).mono ?_;rintro e w1 ⟨rfl,rfl⟩;have aP:=ae (HB.o w);go_wp2_with fail;go_ret
  exact⟨rfl,aP.o⟩
theorem uo:∀(t:List Int) (last x:Int),qb last (t++[x])=qb last t++uv (x-(t.getLast?.getD last)).toNat
 | [],last,x=>by simp[qb]
 | y::t,last,x=>by
  rw[jfc,qb,uo t y x,qb,jez];cases t with
  | nil=>rfl
  | cons z s=>rw[show (y::z::s).getLast?=(z::s).getLast? from by simp[List.getLast?_cons_cons]];simp[List.getLast?_eq_some_getLast]
theorem Em{u:List Int}(h:0<u.length):iu (u.take 1)=iu (u.take 0)++wv u[0]:=by
 cases u with
 | nil=>simp at h
 | cons x t=>simp[iu,qb]
theorem Ad{u:List Int}{k:Nat}(h:k+1<u.length):iu (u.take (k+1+1))=iu (u.take (k+1))++uv (u[k+1]-u[k]).toNat:=by
 cases u with
 | nil=>simp at h
 | cons x t =>
  have hk:k<t.length:=by simpa using h
  rw[jf3,jf3,jeA hk,iu,iu,uo,jez];congr 3
  cases k with
  | zero=>simp
  | succ k =>
   rw[List.getLast?_take];simp[show k<t.length by omega]
theorem yN{w:World}{v:Value}{l:List Int}(hs:Sv w v (aL l))(hl:l.length<=256)(hi:Is l)(hr:dV l) :
  Calls Tryz.prog 244 #[v] w (dA w (iu l)):=by
 have HI:=ae hi;have HS:=ae hs;have HR:=ae hr;obtain⟨a,cap,rfl,aW,bC⟩:=hs.form;clear hs hi aW bC hr;go_enter Tryz.func244,Tryz.ntmps244
 go_wp2_with fail;go_loopw [3,8] (fun b i wr=>∃ k:Nat,k<=l.length/\i=.int .i64 (k:Int)/\aD wr w.heap.size b (iu (l.take k))/\Below w.heap.size w wr) (fun _ i _=>l.length-(intOf i).toNat)
 case atStart=>exact⟨0,by omega,rfl,aD.nil _ _,jej _ _⟩
 case round =>
  obtain⟨k,hk,rfl,aA,az⟩:=hrel;have HO:=ae aA;have HB:=ae az;have bH:=az.size;clear aA az;by_cases aB:k<l.length
  ·obtain⟨b,off,rfl,hb,dN⟩:=(HS.o.kept HB.o).at aB
   have HX:=ae (HI.o.get aB);have jG:=(mc (HI.o.take k)).1;rw[jeq]at jG;have Gl:=fC (HI.o.get aB);cases k with
   | zero =>
    have HT:=ae (Em aB);rw[je9]at dN;generalize iu (l.take 0)=acc at *;generalize l[0]=x at *;go_wp2_with fail;refine(im HX.o _).mono ?_;rintro e w2 ⟨⟨v2,rfl,cB⟩,aE⟩;have dz:=ae cB;have HOk:=ae (HO.o.kept aE);have aN:=ae (HB.o.trans (aE.mono bH));have bv:=aE.size;clear cB aE;go_wp2_with (first | (at_builtin;refine ax rfl _ _ rfl w.heap.size _ _ acc (wv x) rfl HOk.o rfl dz.o.sv ?c1 ?c2 ?_))
    case c1=>omega
    case c2=>omega
    intro v3 w3 o3 b3;have dd:=ae o3;have bN:=ae (aN.o.trans b3);clear o3 b3;go_wp2_with fail;go_roundw
    case rel=>exact⟨1,by omega,by go_num,by rw[HT.o];exact dd.o,bN.o⟩
    case measure=>simp[intOf];omega
   | succ k =>
    obtain⟨b',off',AQ,_,YR⟩:=(HS.o.kept HB.o).at (show k<l.length by omega);cases AQ
    have zi:=ae (HI.o.get (show k<l.length by omega));have jT:l[k]<l[k+1]:=jfW.1 HR.o k (k+1) (by omega) aB (by omega);have HT:=ae (Ad aB)
    have hd:(l[k+1]-l[k]).toNat<18446744073709551616:=by
     have h1:=HX.o;have h2:=zi.o;unfold I64 at h1 h2;omega
    have Vv:=bO hd;have HD:=ae (fun W=>nS (a:=l[k]) (b:=l[k+1]) zi.o HX.o (by omega) W);have qB:(((k+1:Nat):Int)==0)=false:=by simp;omega
    have qA:((k+1:Nat):Int)-1=(k:Int):=(by omega);have AR:((k+1:Nat):Int)=(k:Int)+1:=(by omega);generalize l[k+1]=x at *;generalize l[k]=y at *;generalize iu (l.take (k+1))=acc at *;generalize (x-y).toNat=d at *;have kY:jgf (d<18446744073709551616):=hd;clear hd;go_wp2_with fail;refine(HD.o _).mono ?_;rintro e w1 ⟨rfl,rfl⟩;go_wp2_with fail;refine(dQ d kY.o _).mono ?_;rintro e w2 ⟨⟨v2,rfl,cB⟩,aE⟩;have dz:=ae cB;have HOk:=ae (HO.o.kept aE);have aN:=ae (HB.o.trans (aE.mono bH));have bv:=aE.size;clear cB aE;go_wp2_with (first | (at_builtin;refine ax rfl _ _ rfl w.heap.size _ _ acc (uv d) rfl HOk.o rfl dz.o.sv ?c1 ?c2 ?_))
    case c1=>omega
    case c2=>omega
    intro v3 w3 o3 b3;have dd:=ae o3;have bN:=ae (aN.o.trans b3);clear o3 b3;go_wp2_with fail;go_roundw
    case rel=>exact⟨k+1+1,by omega,by go_num,by rw[HT.o];exact dd.o,bN.o⟩
    case measure=>simp[intOf];omega
  ·obtain rfl:k=l.length:=by omega
   rw[jes]at HO;go_wp2_with fail;go_ret
   exact⟨⟨_,rfl,HO.o⟩,HB.o⟩
theorem aD.low{W:World}{B B':Nat}{v:Value}{bs:List Nat}(h:aD W B' v bs)(hb:B<=B'):aD W B v bs:=by
 obtain⟨h1,h2⟩:=h;refine⟨h1,?_⟩;rcases h2 with h | ⟨g,cap,cur,e1,e2,e3⟩
 ·exact Or.inl h
 ·exact Or.inr ⟨g,cap,cur,e1,jet hb e2,e3⟩
theorem uZ{w:World}{vu v:Value}{u l:List Int}(hu:Sv w vu (aL u))(hs:Sv w v (aL l))(hl:l.length<=256)(vK:u.length<=256)(hr:dV u)(hm:∀ x∈l,x∈u) :
  Calls Tryz.prog 246 #[vu,v] w fun e w'=>(∃ v',e=.returned v'/\dJ w' w.heap.size v' (l.map (pl u)))/\Below w.heap.size w w':=by
 obtain⟨i0,hi,ch,hz1',bv⟩:=jeD pZ;have HU:=ae hu;have HS:=ae hs;have HR:=ae hr;have HM:=ae hm;obtain⟨a,cap,rfl,aW,bC⟩:=hs.form;clear hs hu aW bC hr hm;obtain⟨D,hD⟩:∃ D,l.map (pl u)=D:=⟨_,rfl⟩;have hDl:D.length=l.length:=by rw[← hD,jen]
 have HG:jgf (∀ k (h:k<l.length),D[k]?=some (pl u l[k])):=ae (fun k h=>by rw[← hD];simp[h]);rw[hD];have kY:=ae hDl;clear hD hDl;go_enter Tryz.func246,Tryz.ntmps246
 go_wp2_with (first | (refine jfo _ rfl _ _ 142 rfl w.heap.size 92 i0 (.int .u64 0) 1 Tryz.underlying142 hi ch hz1' .i64 .i64 _ _ l.length rfl rfl ?m1 ?m2 ?m3 ?m4 ?m5 ?_))
 case m1=>rfl
 case m2=>rfl
 case m3=>rw[bv];omega
 case m4=>unfold maxLen;omega
 case m5=>omega
 intro w4 gQ iZ;have bG:Below w.heap.size w w4:=(jej _ _).grown iZ (jek _) (fun k hk=>by cases hk)
 have ho4':w4.ownsRow w.heap.size 92 1 (.slice (some ⟨w.heap.size,0,none⟩) l.length l.length) l.length (aF .u64 (fill D 0)):=by
  rw[oY,kY.o,← ko];simpa using gQ
 have eY:=ae ho4';have cp:=ae bG;clear gQ iZ bG ho4';go_wp2_with fail;go_loopw [15] (fun i wr=>∃ k:Nat,i=.int .i64 (k:Int)/\k<=l.length/\wr.ownsRow w.heap.size 92 1 (.slice (some ⟨w.heap.size,0,none⟩) l.length l.length) l.length (aF .u64 (fill D k))/\Below w.heap.size w wr) (fun i _=>l.length-(intOf i).toNat)
 case atStart=>exact⟨0,rfl,by omega,eY.o,cp.o⟩
 case round =>
  obtain⟨k,rfl,hk,how,az⟩:=hrel;have HB:=ae az;have HO:=ae how;have bH:=az.size;clear az how;by_cases aB:k<l.length
  ·have hkD:k<D.length:=by rw[kY.o];exact aB
   have hval:D[k]=pl u l[k]:=by
    have:=HG.o k aB;rw[List.getElem?_eq_getElem hkD]at this;exact Option.some.inj this
   obtain⟨b,off,rfl,hb,dN⟩:=(HS.o.kept HB.o).at aB;have hmem:=HM.o l[k] (jeo aB);have hSr:=Jb (HU.o.kept HB.o) (List.length_pos_of_mem hmem) vK HR.o l[k];rw[zX HR.o hmem,← hval]at hSr;have HSr:=ae hSr;have hplt:=(wQ hmem).1;rw[← hval]at hplt;have jH:k<(fill D k).length:=by rw[lm (by omega)];exact hkD
   have tT:=ae (rp hkD);clear hSr hval hmem;generalize l[k]=x at *;generalize (fill D k)[k]=y at *;generalize D[k]=z at *;go_wp2_with fail;refine HSr.o.mono ?_;rintro e w5 ⟨⟨r,rfl⟩,bD⟩;have fD:=bJ HO.o bD;have aQ:=ae (HB.o.trans (bD.mono bH));have Gn:=(fD.cellAt k (by omega)).trans (bU jH);have Gp:=fD.frozenAt k;have hST:=fD.stored k (.int .u64 (z:Int));rw[ku,tT.o]at hST;have cP:=ae hST;have Mx:=(fD.lt w.heap.size rfl).2;clear hST bD fD;go_wp2_with fail;go_roundw
   case rel=>exact⟨k+1,by go_num,by omega,cP.o.1,cT aQ.o (jek _) _⟩
   case measure=>simp[intOf];omega
  ·obtain rfl:k=l.length:=by omega
   have e:fill D l.length=D:=by
    have:=ro D;rwa[kY.o]at this
   have HO':jgf (dJ wr w.heap.size (.slice (some ⟨w.heap.size,0,none⟩) l.length l.length) D):=by
    show dJ _ _ _ _
    have:=HO.o;rw[e]at this;unfold dJ;rw[kY.o];exact this
   clear HO e;go_wp2_with fail;go_ret
   exact⟨⟨_,rfl,HO'.o⟩,HB.o⟩
theorem aD.len{W:World}{B:Nat}{v:Value}{l:List Nat}(h:aD W B v l):∃ a cap,v=.slice a l.length cap:=BK h
theorem bF.len{W:World}{B:Nat}{v:Value}{l:List Int}(h:bF W B v l):∃ a cap,v=.slice a l.length cap:=BK h
theorem dJ.len{W:World}{B:Nat}{v:Value}{l:List Nat}(h:dJ W B v l):∃ a cap,v=.slice a l.length cap:=BK h
theorem xl{l:List Int}(hl:l.length<=256):∀ x∈places l,x<18446744073709551616:=by
 intro x hx;have:=oQ x hx;have:=fN l;omega
theorem NG{l:List Int}(hl:l.length<=256):qc l=uv (cI l).length++iu (cI l)++bm (places l) (cX ((cI l).length-1):Int):=by
 unfold qc;rw[jez];rcases jfa l.length with h0 | h0
 ·obtain rfl:l=[]:=jeI h0
  rfl
 ·rw[zJ h0]
theorem ln{p:List Nat}{x:Int}(hl:p.length<=256):(bm p x).length<=2048:=by
 unfold bm;split
 ·next h =>
  unfold can at h;simp only[je7]at h;rw[dU];have:p.length*x.toNat<=256*64:=jfT hl (by omega);unfold by8;omega
 ·simp
theorem pH{w:World}{v:Value}{l:List Int}(hs:Sv w v (aL l))(hl:l.length<=256)(hi:Is l) :
  Calls Tryz.prog 229 #[v] w (dA w (qc l)):=by
 have HI:=ae (lX hi);have HS:=ae hs;have HC:=ae (Ja hs hl);have HF:=ae (NG hl);have HUR:=ae (ib l);have HSU:=ae (mc (lX hi)).1;have HCS:=ae (Ei l);have KX:jgf (∀ x∈l,x∈cI l):=fun x hx=>gC.2 hx
 have Vw:=ae (xl hl);have sL:jgf (l.map (pl (cI l))=places l):=rfl;have kV:=lF l;have vK:=fN l;have eN:=mO l;have hps:=ln (p:=places l) (x:=(cX ((cI l).length-1):Int)) (by omega);obtain⟨a,cap,rfl,aW,bC⟩:=hs.form;clear hs hi aW bC;generalize places l=P at *;generalize cI l=u at *;go_enter Tryz.func229,Tryz.ntmps229
 go_wp2_with fail;refine HC.o.mono ?_;rintro e w1 ⟨⟨v1,rfl,ei⟩,aH⟩;have eO:=ae ei;have aP:=ae aH;have cK:=aH.size;clear ei aH;go_wp2_with fail;refine(SP eO.o hl cK).mono ?_;rintro e w2 ⟨rfl,ft,aE⟩;have dz:=ae ft;have aN:=ae (aP.o.trans aE);have bv:=aN.o.size;clear ft aE;go_wp2_with fail;refine(Eh dz.o (by omega) bv).mono ?_;rintro e w3 ⟨⟨v3,rfl,fW⟩,aS⟩;rw[HCS.o]at fW;have dd:=ae fW;have bN:=ae (aN.o.trans aS);have iN:=bN.o.size;obtain⟨a3,c3,rfl⟩:=fW.len;clear fW aS;go_wp2_with fail;refine(dQ u.length (by omega) _).mono ?_;rintro e w4 ⟨⟨v4,rfl,gQ⟩,bG⟩;have eY:=ae gQ;have cp:=ae bG;have KR:=bG.size;clear gQ bG;go_wp2_with fail;refine(yN (dd.o.sv.kept cp.o) (by omega) HI.o HUR.o).mono ?_;rintro e w5 ⟨⟨v5,rfl,fD⟩,bD⟩;have df:=ae fD;have HO45:=ae (eY.o.kept bD);have aQ:=ae (cp.o.trans (bD.mono KR));have tU:=bD.size;clear fD bD;have nB:=bO (n:=u.length) (by omega);have hsu:=HSU.o;go_wp2_with (first | (at_builtin;refine ax rfl _ _ rfl w3.heap.size _ _ (uv u.length) (iu u) rfl HO45.o rfl df.o.sv ?c1 ?c2 ?_))
 case c1=>omega
 case c2=>omega
 intro v6 w6 o6 b6;have my:=ae o6;have gW:=ae (aQ.o.trans b6);have Gq:=gW.o.size;clear o6 b6;go_wp2_with fail;refine(uZ (dd.o.sv.kept gW.o) (HS.o.kept (bN.o.trans (gW.o.mono iN))) hl (by omega) HUR.o KX.o).mono ?_;rintro e w7 ⟨⟨v7,rfl,YS⟩,iR⟩;rw[sL.o]at YS;have iI:=ae YS;have jb7:=ae (my.o.kept iR);have ir:=ae (gW.o.trans (iR.mono Gq));have hz7:=iR.size;clear YS iR;go_wp2_with fail;refine(nT u.length (by omega) _).mono ?_;rintro e w8 ⟨rfl,kR⟩;have HO78:=ae (iI.o.kept kR);have HO68:=ae (jb7.o.kept kR);have qD:=ae (ir.o.trans (kR.mono (by omega)));have hz8:=kR.size;clear kR;go_wp2_with fail;refine(Ac HO78.o.sv.sx Vw.o _).mono ?_;rintro e w9 ⟨⟨v9,rfl,YT⟩,pS⟩;have Vx:=ae YT;have HO69:=ae (HO68.o.kept pS);have ny:=ae (qD.o.trans (pS.mono (by omega)));have YU:=pS.size;clear YT pS;go_wp2_with (first | (at_builtin;refine ax rfl _ _ rfl w3.heap.size _ _ (uv u.length++iu u) _ rfl HO69.o rfl Vx.o.sv ?c3 ?c4 ?_))
 case c3=>simp;omega
 case c4=>omega
 intro vA wA oA bA;have nE:=ae oA;have fx:=ae (bN.o.trans ((ny.o.trans bA).mono iN));clear oA bA;go_wp2_with fail;go_ret
 refine⟨⟨_,rfl,?_⟩,fx.o⟩;rw[HF.o];have:=nE.o.low iN;simpa using this
theorem uq{l:List Int}(h:0<l.length):lZ l=wv (ic l)++uv (wd (dr l))++bm (dr l) (wd (dr l):Int):=by
 unfold lZ;rw[jeh (by omega),jez]
theorem ve{w:World}{v:Value}(hs:Sv w v (aL [])):Calls Tryz.prog 230 #[v] w (dA w (lZ [])):=by
 obtain⟨a,cap,rfl,aW,bC⟩:=hs.form;clear hs aW bC;go_enter Tryz.func230,Tryz.ntmps230
 go_wp2_with fail;go_ret
 exact⟨⟨_,rfl,aD.nil _ _⟩,jej _ _⟩
theorem vk{w:World}{v:Value}{l:List Int}(hs:Sv w v (aL l))(hl:l.length<=256)(hi:Is l)(hp:0<l.length) :
  Calls Tryz.prog 230 #[v] w (dA w (lZ l)):=by
 obtain⟨i0,ju,ch,hz1',bv⟩:=jeD pZ;have HS:=ae hs;have HI:=ae hi;have HMin:=ae (XB hs hp hl);have HML:=ae (Ej hp);have HE:=ae (uq hp);have sD:=ae (hi _ (ie hp));have vJ:=ae (nN (l:=l));have CJ:=ae (lY hi);have nB:=fC (hi _ (ie hp));have Mu:=Hh (lY hi);have hps:=ln (p:=dr l) (x:=(wd (dr l):Int)) (by rw[ge];omega);have hDl:=ge l;have HG:jgf (∀ k (h:k<l.length),(dr l)[k]?=some (l[k]-ic l).toNat):=ae (fun k h=>by simp[dr,h]);obtain⟨a,cap,rfl,aW,bC⟩:=hs.form;clear hs hi aW bC;rw[HML.o]at HMin;generalize dr l=D at *;generalize ic l=lo at *;have hlen0:((l.length:Int)==0)=false:=jev.2 (by omega);go_enter Tryz.func230,Tryz.ntmps230
 go_wp2_with fail;refine HMin.o.mono ?_;rintro e w1 ⟨rfl,rfl⟩;go_wp2_with (first | (refine jfo _ rfl _ _ 142 rfl w1.heap.size 92 i0 (.int .u64 0) 1 Tryz.underlying142 ju ch hz1' .i64 .i64 _ _ l.length rfl rfl ?m1 ?m2 ?m3 ?m4 ?m5 ?_))
 case m1=>rfl
 case m2=>rfl
 case m3=>rw[bv];omega
 case m4=>unfold maxLen;omega
 case m5=>omega
 intro w4 gQ iZ;have bG:Below w1.heap.size w1 w4:=(jej _ _).grown iZ (jek _) (fun k hk=>by cases hk)
 have ho4':w4.ownsRow w1.heap.size 92 1 (.slice (some ⟨w1.heap.size,0,none⟩) l.length l.length) l.length (aF .u64 (fill D 0)):=by
  rw[oY,hDl,← ko];simpa using gQ
 have eY:=ae ho4';have cp:=ae bG;have kY:=ae hDl;clear gQ iZ bG ho4' hDl;go_wp2_with fail;go_loopw [19] (fun i wr=>∃ k:Nat,i=.int .i64 (k:Int)/\k<=l.length/\wr.ownsRow w1.heap.size 92 1 (.slice (some ⟨w1.heap.size,0,none⟩) l.length l.length) l.length (aF .u64 (fill D k))/\Below w1.heap.size w1 wr) (fun i _=>l.length-(intOf i).toNat)
 case atStart=>exact⟨0,rfl,by omega,eY.o,cp.o⟩
 case round =>
  obtain⟨k,rfl,hk,how,az⟩:=hrel;have HB:=ae az;have HO:=ae how;have bH:=az.size;clear az how;by_cases aB:k<l.length
  ·have hkD:k<D.length:=by rw[kY.o];exact aB
   have hval:D[k]=(l[k]-lo).toNat:=by
    have:=HG.o k aB;rw[List.getElem?_eq_getElem hkD]at this;exact Option.some.inj this
   obtain⟨b,off,rfl,hb,dN⟩:=(HS.o.kept HB.o).at aB;have hd:=fun W=>nS (w:=W) sD.o (HI.o.get aB) (vJ.o _ (jeo aB))
   rw[← hval]at hd;have HD:=ae hd;have jH:k<(fill D k).length:=by rw[lm (by omega)];exact hkD
   have Gn:=(HO.o.cellAt k (by omega)).trans (bU jH);have Gp:=HO.o.frozenAt k;have hST:=HO.o.stored k (.int .u64 ((D[k]:Nat):Int));rw[ku,rp hkD]at hST;have cP:=ae hST;have Mx:=(HO.o.lt w1.heap.size rfl).2;clear hd hval hST;generalize l[k]=x at *;generalize (fill D k)[k]=y at *;generalize D[k]=z at *;go_wp2_with fail;refine(HD.o _).mono ?_;rintro e w5 ⟨rfl,rfl⟩;go_wp2_with fail;go_roundw
   case rel=>exact⟨k+1,by go_num,by omega,cP.o.1,cT HB.o (jek _) _⟩
   case measure=>simp[intOf];omega
  ·obtain rfl:k=l.length:=by omega
   have e:fill D l.length=D:=by
    have:=ro D;rwa[kY.o]at this
   have HO':jgf (dJ wr w1.heap.size (.slice (some ⟨w1.heap.size,0,none⟩) l.length l.length) D):=by
    show dJ _ _ _ _
    have:=HO.o;rw[e]at this;unfold dJ;rw[kY.o];exact this
   have HWd:=ae (te HO'.o.sv.sx CJ.o);clear HO e;generalize wd D=wdt at *;go_wp2_with fail;refine HWd.o.mono ?_;rintro e w5 ⟨rfl,rfl⟩;go_wp2_with fail;refine(im sD.o _).mono ?_;rintro e w6 ⟨⟨v6,rfl,AU⟩,dW⟩;have my:=ae AU;have gW:=ae dW;have Gq:=dW.size;clear AU dW;go_wp2_with fail;refine(dQ wdt (by omega) _).mono ?_;rintro e w7 ⟨⟨v7,rfl,YS⟩,iR⟩;have iI:=ae YS;have jb7:=ae (my.o.kept iR);have ir:=ae (gW.o.trans (iR.mono Gq));have hz7:=iR.size;have h102:=bO (n:=wdt) (by omega);clear YS iR;go_wp2_with (first | (at_builtin;refine ax rfl _ _ rfl w5.heap.size _ _ (wv lo) (uv wdt) rfl jb7.o rfl iI.o.sv ?c1 ?c2 ?_))
   case c1=>omega
   case c2=>omega
   intro v8 w8 o8 b8;have Qv:=ae o8;have qD:=ae (ir.o.trans b8);have hz8:=qD.o.size;clear o8 b8;have HOD:=ae (HO'.o.kept qD.o);go_wp2_with fail;refine(Ac HOD.o.sv.sx CJ.o _).mono ?_;rintro e w9 ⟨⟨v9,rfl,YT⟩,pS⟩;have Vx:=ae YT;have HO89:=ae (Qv.o.kept pS);have ny:=ae (qD.o.trans (pS.mono hz8));have YU:=pS.size;clear YT pS;go_wp2_with (first | (at_builtin;refine ax rfl _ _ rfl w5.heap.size _ _ (wv lo++uv wdt) _ rfl HO89.o rfl Vx.o.sv ?c3 ?c4 ?_))
   case c3=>simp;omega
   case c4=>omega
   intro vA wA oA bA;have nE:=ae oA;have fx:=ae (HB.o.trans ((ny.o.trans bA).mono bH));clear oA bA;go_wp2_with fail;go_ret
   refine⟨⟨_,rfl,?_⟩,fx.o⟩;rw[HE.o];have:=nE.o.low bH;simpa using this
theorem nU{w:World}{v:Value}{l:List Int}(hs:Sv w v (aL l))(hl:l.length<=256)(hi:Is l):Calls Tryz.prog 230 #[v] w (dA w (lZ l)):=by
 rcases jfa l.length with h0 | h0
 ·obtain rfl:l=[]:=jeI h0
  exact ve hs
 ·exact vk hs hl hi h0
theorem gg(w:World):Calls Tryz.prog 200 #[] w fun e w'=>e=.returned (.agg #[.func (.func 226) #[] #[],.func (.func 227) #[] #[],.func (.func 228) #[] #[],.func (.func 229) #[] #[],.func (.func 230) #[] #[]])/\Below w.heap.size w w':=by
 go_enter Tryz.func200,Tryz.ntmps200
 go_wp2_with fail;exact bodyPost_ret (v:=.agg #[.func (.func 226) #[] #[],.func (.func 227) #[] #[],.func (.func 228) #[] #[],.func (.func 229) #[] #[],.func (.func 230) #[] #[]]) (by simp[results,Tryz.results200,go_sem]) rfl ⟨rfl,(jej _ _).alloc (jek _) _⟩
def En(c:Nat)(l:List Int):List Nat:=if c<=4/\l.length<=256 then iv c l else []
theorem SU{w:World}{v:Value}{l:List Int}(hs:Sv w v (aL l))(hl:l.length<=256)(hi:Is l) :
  Calls Tryz.prog 319 #[.int .u8 0,v] w fun e w'=>(∃ v',e=.returned (.tuple #[v',.bool true])/\aD w' w.heap.size v' (gB l))/\Below w.heap.size w w':=by
 have HS:=ae hs;have HI:=ae hi;obtain⟨a,cap,rfl,aW,bC⟩:=hs.form;have vZ:¬ (l.length:Int) > 256:=by omega
 clear hs aW bC hi;go_enter Tryz.func319,Tryz.ntmps319
 go_wp2_with fail;refine(gg _).mono ?_;rintro e w1 ⟨rfl,aH⟩;have aP:=ae aH;have cK:=aH.size;clear aH;go_wp2_with fail;have aN:=ae (aP.o.alloc cK (.cells #[.func (.func 226) #[] #[],.func (.func 227) #[] #[],.func (.func 228) #[] #[],.func (.func 229) #[] #[],.func (.func 230) #[] #[]] 246));have bv:=aN.o.size;refine(uj (HS.o.kept aN.o) hl HI.o).mono ?_;rintro e w3 ⟨⟨v3,rfl,fW⟩,aS⟩;have dd:=ae (fW.low bv);have bN:=ae (aN.o.trans (aS.mono bv));clear fW aS;go_wp2_with fail;go_ret2
 exact⟨⟨_,rfl,dd.o⟩,bN.o⟩
theorem SV{w:World}{v:Value}{l:List Int}(hs:Sv w v (aL l))(hl:l.length<=256)(hi:Is l) :
  Calls Tryz.prog 319 #[.int .u8 1,v] w fun e w'=>(∃ v',e=.returned (.tuple #[v',.bool true])/\aD w' w.heap.size v' (iP 0 l))/\Below w.heap.size w w':=by
 have HS:=ae hs;have HI:=ae hi;obtain⟨a,cap,rfl,aW,bC⟩:=hs.form;have vZ:¬ (l.length:Int) > 256:=by omega
 clear hs aW bC hi;go_enter Tryz.func319,Tryz.ntmps319
 go_wp2_with fail;refine(gg _).mono ?_;rintro e w1 ⟨rfl,aH⟩;have aP:=ae aH;have cK:=aH.size;clear aH;go_wp2_with fail;have aN:=ae (aP.o.alloc cK (.cells #[.func (.func 226) #[] #[],.func (.func 227) #[] #[],.func (.func 228) #[] #[],.func (.func 229) #[] #[],.func (.func 230) #[] #[]] 246));have bv:=aN.o.size;refine(rC (HS.o.kept aN.o) hl HI.o).mono ?_;rintro e w3 ⟨⟨v3,rfl,fW⟩,aS⟩;have dd:=ae (fW.low bv);have bN:=ae (aN.o.trans (aS.mono bv));clear fW aS;go_wp2_with fail;go_ret2
 exact⟨⟨_,rfl,dd.o⟩,bN.o⟩
theorem SW{w:World}{v:Value}{l:List Int}(hs:Sv w v (aL l))(hl:l.length<=256)(hi:Is l) :
  Calls Tryz.prog 319 #[.int .u8 2,v] w fun e w'=>(∃ v',e=.returned (.tuple #[v',.bool true])/\aD w' w.heap.size v' (iA l))/\Below w.heap.size w w':=by
 have HS:=ae hs;have HI:=ae hi;obtain⟨a,cap,rfl,aW,bC⟩:=hs.form;have vZ:¬ (l.length:Int) > 256:=by omega
 clear hs aW bC hi;go_enter Tryz.func319,Tryz.ntmps319
 go_wp2_with fail;refine(gg _).mono ?_;rintro e w1 ⟨rfl,aH⟩;have aP:=ae aH;have cK:=aH.size;clear aH;go_wp2_with fail;have aN:=ae (aP.o.alloc cK (.cells #[.func (.func 226) #[] #[],.func (.func 227) #[] #[],.func (.func 228) #[] #[],.func (.func 229) #[] #[],.func (.func 230) #[] #[]] 246));have bv:=aN.o.size;refine(um (HS.o.kept aN.o) hl HI.o).mono ?_;rintro e w3 ⟨⟨v3,rfl,fW⟩,aS⟩;have dd:=ae (fW.low bv);have bN:=ae (aN.o.trans (aS.mono bv));clear fW aS;go_wp2_with fail;go_ret2
 exact⟨⟨_,rfl,dd.o⟩,bN.o⟩
theorem SX{w:World}{v:Value}{l:List Int}(hs:Sv w v (aL l))(hl:l.length<=256)(hi:Is l) :
  Calls Tryz.prog 319 #[.int .u8 3,v] w fun e w'=>(∃ v',e=.returned (.tuple #[v',.bool true])/\aD w' w.heap.size v' (qc l))/\Below w.heap.size w w':=by
 have HS:=ae hs;have HI:=ae hi;obtain⟨a,cap,rfl,aW,bC⟩:=hs.form;have vZ:¬ (l.length:Int) > 256:=by omega
 clear hs aW bC hi;go_enter Tryz.func319,Tryz.ntmps319
 go_wp2_with fail;refine(gg _).mono ?_;rintro e w1 ⟨rfl,aH⟩;have aP:=ae aH;have cK:=aH.size;clear aH;go_wp2_with fail;have aN:=ae (aP.o.alloc cK (.cells #[.func (.func 226) #[] #[],.func (.func 227) #[] #[],.func (.func 228) #[] #[],.func (.func 229) #[] #[],.func (.func 230) #[] #[]] 246));have bv:=aN.o.size;refine(pH (HS.o.kept aN.o) hl HI.o).mono ?_;rintro e w3 ⟨⟨v3,rfl,fW⟩,aS⟩;have dd:=ae (fW.low bv);have bN:=ae (aN.o.trans (aS.mono bv));clear fW aS;go_wp2_with fail;go_ret2
 exact⟨⟨_,rfl,dd.o⟩,bN.o⟩
theorem SY{w:World}{v:Value}{l:List Int}(hs:Sv w v (aL l))(hl:l.length<=256)(hi:Is l) :
  Calls Tryz.prog 319 #[.int .u8 4,v] w fun e w'=>(∃ v',e=.returned (.tuple #[v',.bool true])/\aD w' w.heap.size v' (lZ l))/\Below w.heap.size w w':=by
 have HS:=ae hs;have HI:=ae hi;obtain⟨a,cap,rfl,aW,bC⟩:=hs.form;have vZ:¬ (l.length:Int) > 256:=by omega
 clear hs aW bC hi;go_enter Tryz.func319,Tryz.ntmps319
 go_wp2_with fail;refine(gg _).mono ?_;rintro e w1 ⟨rfl,aH⟩;have aP:=ae aH;have cK:=aH.size;clear aH;go_wp2_with fail;have aN:=ae (aP.o.alloc cK (.cells #[.func (.func 226) #[] #[],.func (.func 227) #[] #[],.func (.func 228) #[] #[],.func (.func 229) #[] #[],.func (.func 230) #[] #[]] 246));have bv:=aN.o.size;refine(nU (HS.o.kept aN.o) hl HI.o).mono ?_;rintro e w3 ⟨⟨v3,rfl,fW⟩,aS⟩;have dd:=ae (fW.low bv);have bN:=ae (aN.o.trans (aS.mono bv));clear fW aS;go_wp2_with fail;go_ret2
 exact⟨⟨_,rfl,dd.o⟩,bN.o⟩
theorem NH{w:World}{v:Value}{l:List Int}(hs:Sv w v (aL l))(c:Nat)(hc:c<256)(hno:¬ (c<=4/\l.length<=256)) :
  Calls Tryz.prog 319 #[.int .u8 (c:Int),v] w fun e w'=>(∃ v',e=.returned (.tuple #[v',.bool false])/\aD w' w.heap.size v' [])/\Below w.heap.size w w':=by
 obtain⟨a,cap,rfl,aW,bC⟩:=hs.form;have hm:l.length<=9223372036854775807:=by unfold maxLen at bC;omega
 clear hs aW bC;by_cases h5:(c:Int)>=5
 ·go_enter Tryz.func319,Tryz.ntmps319
  go_wp2_with fail;go_ret2
  exact⟨⟨_,rfl,aD.nil _ _⟩,jej _ _⟩
 ·have vZ:(l.length:Int) > 256:=by omega
  go_enter Tryz.func319,Tryz.ntmps319
  go_wp2_with fail;go_ret2
  exact⟨⟨_,rfl,aD.nil _ _⟩,jej _ _⟩
theorem Jd{w:World}{v:Value}{l:List Int}(hs:Sv w v (aL l))(hi:Is l)(c:Nat)(hc:c<256) :
  Calls Tryz.prog 319 #[.int .u8 (c:Int),v] w fun e w'=>(∃ v',e=.returned (.tuple #[v',.bool (decide (c<=4/\l.length<=256))])/\aD w' w.heap.size v' (En c l))/\Below w.heap.size w w':=by
 by_cases h:c<=4/\l.length<=256
 ·rw[jeB h]
  unfold En;rw[jei h];obtain⟨h4,hl⟩:=h;match c,h4 with
  | 0,_=>exact SU hs hl hi
  | 1,_=>exact SV hs hl hi
  | 2,_=>exact SW hs hl hi
  | 3,_=>exact SX hs hl hi
  | 4,_=>exact SY hs hl hi
 ·rw[jeu h]
  unfold En;rw[jeh h];exact NH hs c hc h
end Go.Proofs.YtpljdjmpamjkhaaGreatDoor
