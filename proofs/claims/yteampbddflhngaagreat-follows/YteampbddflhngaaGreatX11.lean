import Derived.Deep.Cut
import Derived.Test.YteampbddflhngaaGreatX10
namespace Go.Proofs.YteampbddflhngaaGreat
set_option linter.all false
set_option maxRecDepth 100000
set_option maxHeartbeats 2000000
open Go.Proofs.Tryz Go.RowKit
section
variable {lo:Nat}
def JT(o:Option zc)(w:World)(e:Ending)(g:World):Prop:=
 Below w.heap.size w g/\match o with
  |none=>∃b p k n f d j a,e=.returned (.tuple #[.agg #[.bool b,.string p,.slice k n f,.slice d j a],.bool false])
  |some c=>∃h i,e=.returned (.tuple #[.agg #[.bool c.head.neg,.string c.head.pred,h,i],.bool true])/\P7 w.heap.size g h c.head.args/\PX w.heap.size g i c.body
theorem NL(w:World)(v:Value)(l:List ByteArray)(d:SV w v l)(a:∀y∈l,0<y.size)(g:l.length<=500)(h:yD l (l.length+1) 0 0 0=none):
  Calls prog 153 #[v] w fun e c=>e=.returned (.tuple #[.slice none 0 0,.bool false])/\Below w.heap.size w c:=by
 refine(Al w v l d a g).mono ?_;rintro e c ⟨f,b⟩;rw[h] at b;exact⟨b,f⟩
theorem FL(w:World)(v:Value)(l:List ByteArray)(i:List zj)(j:SV w v l)(d:∀y∈l,0<y.size)(m:l.length<=500)(h:yD l (l.length+1) 0 0 0=some i):
  Calls prog 153 #[v] w fun e f=>∃c,e=.returned (.tuple #[c,.bool true])/\PX w.heap.size f c i/\Below w.heap.size w f:=by
 refine(Al w v l j d m).mono ?_;rintro e f ⟨k,g⟩;rw[h] at g;obtain⟨c,a,b⟩:=g;exact⟨c,a,b,k⟩
theorem Bw(w:World)(v:Value)(l:List ByteArray)(T:SV w v l)(am:∀y∈l,0<y.size)(hl:l.length<=500):
  Calls prog 107 #[v] w fun e w'=>JT (jL l) w e w':=by
 obtain⟨i1,M,_,_,_⟩:=info_parts Po;obtain⟨ao,a3,rfl⟩:=T.qx;have hW:Below w.heap.size w ((w.alloc (.cells #[.bool false,.string {data:=#[]},.slice none 0 0,.slice none 0 0] 93)).alloc (.cells #[.bool false,.string {data:=#[]},.slice none 0 0,.slice none 0 0] 93)):=(by go_grown);have aa:Py ((w.alloc (.cells #[.bool false,.string {data:=#[]},.slice none 0 0,.slice none 0 0] 93)).alloc (.cells #[.bool false,.string {data:=#[]},.slice none 0 0,.slice none 0 0] 93)) w.heap.size #[.bool false,.string {data:=#[]},.slice none 0 0,.slice none 0 0] 93:=(Py.new w _ _).below zQ;have aj:Py ((w.alloc (.cells #[.bool false,.string {data:=#[]},.slice none 0 0,.slice none 0 0] 93)).alloc (.cells #[.bool false,.string {data:=#[]},.slice none 0 0,.slice none 0 0] 93)) (w.heap.size+1) #[.bool false,.string {data:=#[]},.slice none 0 0,.slice none 0 0] 93:=Py.newAt _ _ _ _ (by simp);go_enter func107,ntmps107;go_wp2;go_loop [5] (fun i=>∃k:Nat,k<=l.length/\i=.int .i64 k/\Hid (xB l=k+xB (l.drop k))) (fun i=>l.length-(intOf i).toNat)
 case atStart=>exact⟨0,zx _,rfl,by simp[Hid]⟩
 case round=>
  obtain⟨k,hk,rfl,H⟩:=hrel;by_cases L:k<l.length
  case' pos=>
   obtain⟨b,o,rfl,a2,ax⟩:=T.cell k L;rw[xu L] at ax;cases hI:((gB l k).toList == [58,45])
   ·have H2:Hid (xB l=(k+1)+xB (l.drop (k+1))):=by rw[Hid,H.out,MD L hI];omega
    clear H;generalize gB l k=x at *;go_wp2;go_round
    case rel=>exact⟨k+1,by omega,by go_num,H2⟩
    case measure=>simp[intOf];omega
   have U:Hid (xB l=k):=by rw[Hid,H.out,NN L hI];rfl
   generalize gB l k=x at *
  case' neg=>
   have U:Hid (xB l=k):=by rw[Hid,H.out,ug (by omega)];rfl
  all_goals
   clear H;have ae:Hid (∀y∈l.take k,0<y.size):=fun y hy=>am y (fU hy);cases hL:jw (l.take k) true
   ·have S:=Px hL;have Q:Hid (jL l=none):=by unfold Hid jL;rw[U.out,hL]
    clear hL;go_upto_region 7 with (first|(refine qS _ w rfl (.tmp 24) 30 9 none (some (.tmp 25)) rfl underlying30 i1 M ON _ l rfl T 0 k (zg ⟨rfl,rfl⟩) (ze rfl) (by omega) (by omega) k rfl ?_;intro az X B;rw[gW] at B)|(go_at_call 152;refine(eU _ _ (l.take k) true (by exact B.below hW) ae.out (by simp;omega) S).mono ?_;rintro e K ⟨J,I,d,G,c,rfl,m⟩;have f:=aa.below m;have g:=aj.below m;obtain⟨E,F⟩:=f.rules;obtain⟨s,q,ay⟩:=g.boxed;have V:=f.lt;have R:=P3 hW m))
    have C:Py ((((K.setCell ⟨w.heap.size+1,0,none⟩ (.bool J)).setCell ⟨w.heap.size+1,1,none⟩ (.string I)).setCell ⟨w.heap.size+1,2,none⟩ (.slice d G c)).alloc (.cells #[.bool J,.string I,.slice d G c] 90)) (w.heap.size+1) #[.bool J,.string I,.slice d G c,.slice none 0 0] 93:=(((g.set 0 _).set 1 _).set 2 _).below zQ;have h:Py ((((K.setCell ⟨w.heap.size+1,0,none⟩ (.bool J)).setCell ⟨w.heap.size+1,1,none⟩ (.string I)).setCell ⟨w.heap.size+1,2,none⟩ (.slice d G c)).alloc (.cells #[.bool J,.string I,.slice d G c] 90)) w.heap.size #[.bool false,.string {data:=#[]},.slice none 0 0,.slice none 0 0] 93:=(((f.set_ne (by omega) _ _).set_ne (by omega) _ _).set_ne (by omega) _ _).below zQ;have u:Below w.heap.size w ((((K.setCell ⟨w.heap.size+1,0,none⟩ (.bool J)).setCell ⟨w.heap.size+1,1,none⟩ (.string I)).setCell ⟨w.heap.size+1,2,none⟩ (.slice d G c)).alloc (.cells #[.bool J,.string I,.slice d G c] 90)):=by have hq:=R.size;exact(by go_grown)
    generalize ((((K.setCell ⟨w.heap.size+1,0,none⟩ (.bool J)).setCell ⟨w.heap.size+1,1,none⟩ (.string I)).setCell ⟨w.heap.size+1,2,none⟩ (.slice d G c)).alloc (.cells #[.bool J,.string I,.slice d G c] 90))=w2 at *;clear f g E F s q;obtain⟨D,ab⟩:=h.rules;obtain⟨ag,Y,au⟩:=C.boxed;have W:=h.lt;go_wp2;rw[Q.out];exact zK (v:=.tuple #[.agg #[.bool J,.string I,.slice d G c,.slice none 0 0],.bool false]) (by simp[results,results107,go_sem,D]) rfl ⟨(by go_grown),_,_,_,_,_,_,_,_,rfl⟩
   rename_i a;have S:=Px hL;clear hL;go_upto_region 7 with (first|(refine qS _ w rfl (.tmp 24) 30 9 none (some (.tmp 25)) rfl underlying30 i1 M ON _ l rfl T 0 k (zg ⟨rfl,rfl⟩) (ze rfl) (by omega) (by omega) k rfl ?_;intro az X B;rw[gW] at B)|(go_at_call 152;refine(eG _ _ (l.take k) true a (by exact B.below hW) ae.out (by simp;omega) S).mono ?_;rintro e K ⟨va,rfl,ad,m⟩;obtain⟨d,c,rfl⟩:=ad.qx;have f:=aa.below m;have g:=aj.below m;obtain⟨E,F⟩:=f.rules;obtain⟨s,q,ay⟩:=g.boxed;have V:=f.lt;have R:=P3 hW m))
   have C:Py ((((K.setCell ⟨w.heap.size+1,0,none⟩ (.bool a.neg)).setCell ⟨w.heap.size+1,1,none⟩ (.string a.pred)).setCell ⟨w.heap.size+1,2,none⟩ (.slice d a.args.length c)).alloc (.cells #[.bool a.neg,.string a.pred,.slice d a.args.length c] 90)) (w.heap.size+1) #[.bool a.neg,.string a.pred,.slice d a.args.length c,.slice none 0 0] 93:=(((g.set 0 _).set 1 _).set 2 _).below zQ;have h:Py ((((K.setCell ⟨w.heap.size+1,0,none⟩ (.bool a.neg)).setCell ⟨w.heap.size+1,1,none⟩ (.string a.pred)).setCell ⟨w.heap.size+1,2,none⟩ (.slice d a.args.length c)).alloc (.cells #[.bool a.neg,.string a.pred,.slice d a.args.length c] 90)) w.heap.size #[.bool false,.string {data:=#[]},.slice none 0 0,.slice none 0 0] 93:=(((f.set_ne (by omega) _ _).set_ne (by omega) _ _).set_ne (by omega) _ _).below zQ;have u:Below w.heap.size w ((((K.setCell ⟨w.heap.size+1,0,none⟩ (.bool a.neg)).setCell ⟨w.heap.size+1,1,none⟩ (.string a.pred)).setCell ⟨w.heap.size+1,2,none⟩ (.slice d a.args.length c)).alloc (.cells #[.bool a.neg,.string a.pred,.slice d a.args.length c] 90)):=by have hq:=R.size;exact(by go_grown)
   have ai:P7 w.heap.size ((((K.setCell ⟨w.heap.size+1,0,none⟩ (.bool a.neg)).setCell ⟨w.heap.size+1,1,none⟩ (.string a.pred)).setCell ⟨w.heap.size+1,2,none⟩ (.slice d a.args.length c)).alloc (.cells #[.bool a.neg,.string a.pred,.slice d a.args.length c] 90)) (.slice d a.args.length c) a.args:=((ad.low (by simp only[World.size_alloc];omega)).but (r:=w.heap.size+1) ((((PB.refl _ _).setCell _ _).setCell _ _).setCell _ _) g (by decide)).below zQ;generalize ((((K.setCell ⟨w.heap.size+1,0,none⟩ (.bool a.neg)).setCell ⟨w.heap.size+1,1,none⟩ (.string a.pred)).setCell ⟨w.heap.size+1,2,none⟩ (.slice d a.args.length c)).alloc (.cells #[.bool a.neg,.string a.pred,.slice d a.args.length c] 90))=w2 at *;clear f g E F s q;obtain⟨D,ab⟩:=h.rules;obtain⟨ag,Y,au⟩:=C.boxed;have W:=h.lt
  ·have ap:Hid (k=l.length):=by unfold Hid;omega
   have Q:Hid (jL l=some ⟨a,[]⟩):=by unfold Hid jL;rw[U.out,S.out];simp only[];rw[zb ap.out]
   have ar:((k:Int) == (l.length:Int))=true:=by rw[beq_iff_eq];have:=ap.out;omega
   go_wp2;rw[Q.out];exact zK (v:=.tuple #[.agg #[.bool a.neg,.string a.pred,.slice d a.args.length c,.slice none 0 0],.bool true]) (by simp[results,results107,go_sem,D]) rfl ⟨(by go_grown),_,_,rfl,ai.but (r:=w.heap.size) (by repeat'(first|with_reducible(first|apply xR|assumption|apply xN|apply xA|apply xD|apply xS|apply xT)|go_size)) h (by decide),PX.nil _⟩
  ·have N:Hid (∀y∈l.drop (k+1),0<y.size):=fun y hy=>am y (gZ hy);have ar:((k:Int) == (l.length:Int))=false:=by rw[beq_eq_false_iff_ne];omega
   cases p:yD (l.drop (k+1)) ((l.drop (k+1)).length+1) 0 0 0 with
   |none=>
    have P:=Px p;have Q:Hid (jL l=none):=by unfold Hid jL;rw[U.out,S.out];simp only[];rw[za (by omega),p]
    clear p;go_wp2_with (first|(refine qS _ w rfl (.tmp 43) 30 9 (some (.tmp 45)) none rfl underlying30 i1 M ON _ l rfl T (k+1) l.length (ze rfl) (zg ⟨rfl,rfl⟩) (by omega) (by omega) (l.length-(k+1)) rfl ?_;intro a1 ah z;rw[xi (by simp)] at z)|(go_at_call 153;refine(NL _ _ (l.drop (k+1)) (by exact z.below u) N.out (by simp;omega) P).mono ?_;rintro e w3 ⟨rfl,j⟩;have n:=h.below j;have t:=C.below j;obtain⟨A,an⟩:=n.rules;obtain⟨Z,ak,aw⟩:=t.boxed;have ac:=n.lt;have O:=P3 u j;have aq:=O.size))
    rw[Q.out];exact zK (v:=.tuple #[.agg #[.bool a.neg,.string a.pred,.slice d a.args.length c,.slice none 0 0],.bool false]) (by simp[results,results107,go_sem,A]) rfl ⟨(by go_grown),_,_,_,_,_,_,_,_,rfl⟩
   |some bd=>
    have P:=Px p;have Q:Hid (jL l=some ⟨a,bd⟩):=by unfold Hid jL;rw[U.out,S.out];simp only[];rw[za (by omega),p]
    clear p;go_wp2_with (first|(refine qS _ w rfl (.tmp 43) 30 9 (some (.tmp 45)) none rfl underlying30 i1 M ON _ l rfl T (k+1) l.length (ze rfl) (zg ⟨rfl,rfl⟩) (by omega) (by omega) (l.length-(k+1)) rfl ?_;intro a1 ah z;rw[xi (by simp)] at z)|(go_at_call 153;refine(FL _ _ (l.drop (k+1)) bd (by exact z.below u) N.out (by simp;omega) P).mono ?_;rintro e w3 ⟨vb,rfl,af,j⟩;obtain⟨av,al,rfl⟩:=af.qx;have n:=h.below j;have t:=C.below j;obtain⟨A,an⟩:=n.rules;obtain⟨Z,ak,aw⟩:=t.boxed;have ac:=n.lt;have O:=P3 u j;have aq:=O.size))
    rw[Q.out];have a0:=ai.below j;exact zK (v:=.tuple #[.agg #[.bool a.neg,.string a.pred,.slice d a.args.length c,.slice av bd.length al],.bool true]) (by simp[results,results107,go_sem,A]) rfl ⟨(by go_grown),_,_,rfl,(a0.but (r:=w.heap.size+1) ((PB.refl _ _).setCell _ _) t (by decide)).but (r:=w.heap.size) (by repeat'(first|with_reducible(first|apply xR|assumption|apply xN|apply xA|apply xD|apply xS|apply xT)|go_size)) (n.set_ne (by omega) _ _) (by decide),((af.low (by omega)).but (r:=w.heap.size+1) ((PB.refl _ _).setCell _ _) t (by decide) (by decide)).but (r:=w.heap.size) (by repeat'(first|with_reducible(first|apply xR|assumption|apply xN|apply xA|apply xD|apply xS|apply xT)|go_size)) (n.set_ne (by omega) _ _) (by decide) (by decide)⟩
end
section
variable {lo:Nat}{o:Option (List zc)}
theorem GZ(w:World)(v:Value)(l:List ByteArray)(m:SV w v l)(g:∀y∈l,0<y.size)(r:l.length<=500)(h:jL l=none):
  Calls prog 107 #[v] w fun e k=>∃b p i n d c f a,e=.returned (.tuple #[.agg #[.bool b,.string p,.slice i n d,.slice c f a],.bool false])/\Below w.heap.size w k:=by
 refine(Bw w v l m g r).mono ?_;rintro e k ⟨q,j⟩;rw[h] at j;obtain⟨b,p,i,n,d,c,f,a,s⟩:=j;exact⟨b,p,i,n,d,c,f,a,s,q⟩
theorem ML(w:World)(v:Value)(l:List ByteArray)(c:zc)(k:SV w v l)(i:∀y∈l,0<y.size)(n:l.length<=500)(h:jL l=some c):
  Calls prog 107 #[v] w fun e g=>∃d f,e=.returned (.tuple #[.agg #[.bool c.head.neg,.string c.head.pred,d,f],.bool true])/\P7 w.heap.size g d c.head.args/\PX w.heap.size g f c.body/\Below w.heap.size w g:=by
 refine(Bw w v l k i n).mono ?_;rintro e g ⟨m,j⟩;rw[h] at j;obtain⟨d,f,a,b,c⟩:=j;exact⟨d,f,a,b,c,m⟩
theorem Pm:(prog.info? 93).map (fun i=>(i.zero,i.size,i.bytes))=some (some (.agg #[.bool false,.string ByteArray.empty,.slice none 0 0,.slice none 0 0]),4,72):=by kernel_rfl
def eL(o:Option (List zc))(w:World)(e:Ending)(b:World):Prop:=
 Below w.heap.size w b/\match o with
  |none=>∃d n a,e=.returned (.tuple #[.slice d n a,.bool false])
  |some c=>∃v,e=.returned (.tuple #[v,.bool true])/\Qa w.heap.size 93 b v c
theorem Db{w a:World}{b:Option Addr}{n cap:Nat}(h:Hid (o=none))(c:Below w.heap.size w a):eL o w (.returned (.tuple #[.slice b n cap,.bool false])) a:=by
 have d:o=none:=h;subst d;exact⟨c,b,n,cap,rfl⟩
theorem Ge{w a:World}{v:Value}{cs:List zc}(h:Hid (o=some cs))(c:Below w.heap.size w a)(hs:Qa w.heap.size 93 a v cs):eL o w (.returned (.tuple #[v,.bool true])) a:=by
 have b:o=some cs:=h;subst b;exact⟨c,v,rfl,hs⟩
theorem e6(w:World)(v:Value)(l:List ByteArray)(R:SV w v l)(X:∀y∈l,0<y.size)(hl:l.length<=500):
  Calls prog 66 #[v] w fun e w'=>eL (uT l) w e w':=by
 obtain⟨i0,hi,V,Z,af⟩:=info_parts Pm;obtain⟨i1,O,_,_,_⟩:=info_parts Po;obtain⟨ao,aq,rfl⟩:=R.qx;go_enter func66,ntmps66;go_wp2;go_loopw [4,5,6] (fun v4 v5 v6 wr=>∃(f:List zc) (d k m:Nat) (Q:List Value),v5=.int .i64 d/\v6=.int .i64 k/\d<=k/\m+k=l.length/\f.length<=k/\Below w.heap.size w wr/\wr.ownsRow w.heap.size 93 4 v4 f.length Q/\vV w.heap.size wr f Q/\Hid (uT l=(vT l m d k).map (f++·))) (fun _ _ i _=>l.length-(intOf i).toNat)
 case atStart=>exact⟨[],0,0,l.length,[],rfl,rfl,zf _,rfl,by simp,zo _ _,yI _ _ _ _,rfl,(by simp[Hid,uT])⟩
 case round=>
  obtain⟨f,d,k,m,Q,rfl,rfl,am,al,ah,a,g,u,H⟩:=hrel;have ag:=a.size;by_cases J:k<l.length
  ·obtain⟨m,rfl⟩:∃m',m=m'+1:=⟨m-1,by omega⟩;obtain⟨b,o,rfl,C,P⟩:=R.cell k J;have W:=zm a C P;have ap:b<wr.heap.size:=by omega
   rw[xu J] at W;clear P;cases z:((gB l k).toList == [46]) with
   |false=>
    have H2:Hid (uT l=(vT l m d (k+1)).map (f++·)):=by rw[Hid,H.out,vT,z];rfl
    clear H;generalize gB l k=x at *;go_wp2;go_roundw
    case rel=>exact⟨f,d,k+1,m,Q,rfl,by go_num,by omega,by omega,by omega,a,g,u,H2⟩
    case measure=>simp[intOf];omega
   |true=>
    have N:Hid (∀y∈(l.drop d).take (k-d),0<y.size):=fun y hy=>X y (gZ (fU hy));cases A:jL ((l.drop d).take (k-d)) with
    |none=>
     have T:=Px A;have B:Hid (uT l=none):=by rw[Hid,H.out,vT,z,zb rfl,A];rfl
     clear H A;generalize gB l k=x at *;go_wp2_with (first|(refine qS _ w rfl (.tmp 21) 30 9 (some (.tmp 22)) (some (.tmp 23)) rfl underlying30 i1 O ON _ l rfl R d k (ze rfl) (ze rfl) (by omega) (by omega) (k-d) rfl ?_;intro aa K t)|(go_at_call 107;refine(GZ _ _ ((l.drop d).take (k-d)) (by exact t.below a) N.out (by simp;omega) T).mono ?_;rintro e w1 ⟨b1,p1,an,n1,ak,s,n3,n,rfl,h⟩;have r:=P3 a h;have F:=r.size))
     go_ret2
     exact Db B (by go_grown)
    |some c=>
     have T:=Px A;have H2:Hid (uT l=(vT l m (k+1) (k+1)).map ((f++[c])++·)):=by rw[Hid,H.out,vT,z,zb rfl,A];simp only[];rw[rm]
     clear H A;generalize gB l k=x at *;go_wp2_with (first|(refine qS _ w rfl (.tmp 21) 30 9 (some (.tmp 22)) (some (.tmp 23)) rfl underlying30 i1 O ON _ l rfl R d k (ze rfl) (ze rfl) (by omega) (by omega) (k-d) rfl ?_;intro aa K t)|(go_at_call 107;refine(ML _ _ ((l.drop d).take (k-d)) c (by exact t.below a) N.out (by simp;omega) T).mono ?_;rintro e w1 ⟨va,vb,rfl,M,D,h⟩;obtain⟨s,n,rfl⟩:=M.qx;obtain⟨ar,aj,rfl⟩:=D.qx;have r:=P3 a h;have F:=r.size;have j:=zC g h;have G:=u.mono (fun _ _ q=>q.below h) (fun _ _ q=>q.below h))|(at_builtin;refine jS w1 _ _ _ rfl (.tmp 30) (.tmp 32) 43 rfl w.heap.size 93 i0 _ 4 72 underlying43 hi V Z af rfl (by decide) _ _ _ rfl j zQ _ _ rfl (by simp) rfl (by simp[Value.oneCell']) (by omega) (by omega) F ?_;intro v' w2 U ac ab ae p ai;clear ab ae;have S:P7 w.heap.size w2 (Value.slice s c.head.args.length n) c.head.args:=yq (gs j (by decide) M p) a.size;have ad:=(D.push j (by decide) (by decide) p).low a.size;have L:=G.mono (fun _ _ q=>gs j (by decide) q p) (fun _ _ q=>q.push j (by decide) (by decide) p)))
     go_roundw
     case rel=>exact⟨f++[c],k+1,k+1,m,_,by go_num,by go_num,zf _,by omega,by simp;omega,r.trans ac,by rw[yv];exact U,L.snoc S ad,H2⟩
     case measure=>simp[intOf];omega
  ·have I:m=0:=by omega
   obtain⟨s,n,rfl⟩:=zs g;by_cases E:d=l.length
   ·have B:Hid (uT l=some f):=by rw[Hid,H.out,I,vT,zb E];simp
    have Y:((d:Int) == (l.length:Int))=true:=by rw[beq_iff_eq];omega
    clear H;go_wp2;go_ret2
    exact Ge B a ⟨_,g,u⟩
   ·have B:Hid (uT l=none):=by rw[Hid,H.out,I,vT,za E];rfl
    have Y:((d:Int) == (l.length:Int))=false:=by rw[beq_eq_false_iff_ne];omega
    clear H;go_wp2;go_ret2
    exact Db B a
end
end Go.Proofs.YteampbddflhngaaGreat
