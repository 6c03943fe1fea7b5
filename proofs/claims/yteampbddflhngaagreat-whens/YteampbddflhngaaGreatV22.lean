import Derived.Deep.Cut
import Derived.Test.YteampbddflhngaaGreatV20
namespace Go.Proofs.YteampbddflhngaaGreat
set_option linter.all false
set_option maxRecDepth 100000
set_option maxHeartbeats 2000000
open Go.Proofs.Tryz Go.RowKit
section
variable {lo:Nat}
def Jc(o:Option zc)(w:World)(e:Ending)(g:World):Prop:=
 Below w.heap.size w g/\match o with
  |none=>∃b p k n f d j a,e=.returned (.tuple #[.agg #[.bool b,.string p,.slice k n f,.slice d j a],.bool false])
  |some c=>∃i h,e=.returned (.tuple #[.agg #[.bool c.head.neg,.string c.head.pred,i,h],.bool true])/\Pg w.heap.size g i c.head.args/\PB w.heap.size g h c.body
theorem KN(w:World)(v:Value)(l:List ByteArray)(d:SV w v l)(a:∀y∈l,0<y.size)(g:l.length<=500)(h:yD l (l.length+1) 0 0 0=none):
  Calls prog 153 #[v] w fun e c=>e=.returned (.tuple #[.slice none 0 0,.bool false])/\Below w.heap.size w c:=by
 refine(B5 w v l d a g).mono ?_;rintro e c ⟨f,b⟩;rw[h] at b;exact⟨b,f⟩
theorem Gh(w:World)(v:Value)(l:List ByteArray)(g:List zj)(j:SV w v l)(d:∀y∈l,0<y.size)(m:l.length<=500)(h:yD l (l.length+1) 0 0 0=some g):
  Calls prog 153 #[v] w fun e f=>∃c,e=.returned (.tuple #[c,.bool true])/\PB w.heap.size f c g/\Below w.heap.size w f:=by
 refine(B5 w v l j d m).mono ?_;rintro e f ⟨k,i⟩;rw[h] at i;obtain⟨c,a,b⟩:=i;exact⟨c,a,b,k⟩
theorem Ej(w:World)(v:Value)(l:List ByteArray)(T:SV w v l)(aa:∀y∈l,0<y.size)(hl:l.length<=500):
  Calls prog 107 #[v] w fun e w'=>Jc (jD l) w e w':=by
 obtain⟨i1,L,_,_,_⟩:=info_parts O4;obtain⟨ao,a2,rfl⟩:=T.qw;have hW:Below w.heap.size w ((w.alloc (.cells #[.bool false,.string {data:=#[]},.slice none 0 0,.slice none 0 0] 93)).alloc (.cells #[.bool false,.string {data:=#[]},.slice none 0 0,.slice none 0 0] 93)):=(by go_grown);have ab:OZ ((w.alloc (.cells #[.bool false,.string {data:=#[]},.slice none 0 0,.slice none 0 0] 93)).alloc (.cells #[.bool false,.string {data:=#[]},.slice none 0 0,.slice none 0 0] 93)) w.heap.size #[.bool false,.string {data:=#[]},.slice none 0 0,.slice none 0 0] 93:=(OZ.new w _ _).below zO;have ad:OZ ((w.alloc (.cells #[.bool false,.string {data:=#[]},.slice none 0 0,.slice none 0 0] 93)).alloc (.cells #[.bool false,.string {data:=#[]},.slice none 0 0,.slice none 0 0] 93)) (w.heap.size+1) #[.bool false,.string {data:=#[]},.slice none 0 0,.slice none 0 0] 93:=OZ.newAt _ _ _ _ (by simp);go_enter func107,ntmps107;go_wp2;go_loop [5] (fun i=>∃k:Nat,k<=l.length/\i=.int .i64 k/\Hid (xH l=k+xH (l.drop k))) (fun i=>l.length-(intOf i).toNat)
 case atStart=>exact⟨0,zv _,rfl,by simp[Hid]⟩
 case round=>
  obtain⟨k,hk,rfl,H⟩:=hrel;by_cases M:k<l.length
  case' pos=>
   obtain⟨b,o,rfl,a1,aw⟩:=T.cell k M;rw[xt M] at aw;cases hI:((gB l k).toList == [58,45])
   ·have H2:Hid (xH l=(k+1)+xH (l.drop (k+1))):=by rw[Hid,H.out,Ke M hI];omega
    clear H;generalize gB l k=x at *;go_wp2;go_round
    case rel=>exact⟨k+1,by omega,by go_num,H2⟩
    case measure=>simp[intOf];omega
   have HK:Hid (xH l=k):=by rw[Hid,H.out,IM M hI];rfl
   generalize gB l k=x at *
  case' neg=>
   have HK:Hid (xH l=k):=by rw[Hid,H.out,ui (by omega)];rfl
  all_goals
   clear H;have aj:Hid (∀y∈l.take k,0<y.size):=fun y hy=>aa y (fD hy);cases hL:jp (l.take k) true
   ·have S:=OY hL;have R:Hid (jD l=none):=by unfold Hid jD;rw[HK.out,hL]
    clear hL;go_upto_region 7 with (first|(refine qN _ w rfl (.tmp 24) 30 9 none (some (.tmp 25)) rfl underlying30 i1 L OC _ l rfl T 0 k (zf ⟨rfl,rfl⟩) (ze rfl) (by omega) (by omega) k rfl ?_;intro aq V F;rw[gI] at F)|(go_at_call 152;refine(ig _ _ (l.take k) true (by exact F.below hW) aj.out (by simp;omega) S).mono ?_;rintro e K ⟨J,I,d,G,c,rfl,n⟩;have f:=ab.below n;have g:=ad.below n;obtain⟨D,z⟩:=f.rules;obtain⟨t,q,au⟩:=g.boxed;have Z:=f.lt;have O:=Pc hW n))
    have u:OZ ((((K.setCell ⟨w.heap.size+1,0,none⟩ (.bool J)).setCell ⟨w.heap.size+1,1,none⟩ (.string I)).setCell ⟨w.heap.size+1,2,none⟩ (.slice d G c)).alloc (.cells #[.bool J,.string I,.slice d G c] 90)) (w.heap.size+1) #[.bool J,.string I,.slice d G c,.slice none 0 0] 93:=(((g.set 0 _).set 1 _).set 2 _).below zO;have h:OZ ((((K.setCell ⟨w.heap.size+1,0,none⟩ (.bool J)).setCell ⟨w.heap.size+1,1,none⟩ (.string I)).setCell ⟨w.heap.size+1,2,none⟩ (.slice d G c)).alloc (.cells #[.bool J,.string I,.slice d G c] 90)) w.heap.size #[.bool false,.string {data:=#[]},.slice none 0 0,.slice none 0 0] 93:=(((f.set_ne (by omega) _ _).set_ne (by omega) _ _).set_ne (by omega) _ _).below zO;have E:Below w.heap.size w ((((K.setCell ⟨w.heap.size+1,0,none⟩ (.bool J)).setCell ⟨w.heap.size+1,1,none⟩ (.string I)).setCell ⟨w.heap.size+1,2,none⟩ (.slice d G c)).alloc (.cells #[.bool J,.string I,.slice d G c] 90)):=by have hq:=O.size;exact(by go_grown)
    generalize ((((K.setCell ⟨w.heap.size+1,0,none⟩ (.bool J)).setCell ⟨w.heap.size+1,1,none⟩ (.string I)).setCell ⟨w.heap.size+1,2,none⟩ (.slice d G c)).alloc (.cells #[.bool J,.string I,.slice d G c] 90))=w2 at *;clear f g D z t q;obtain⟨B,W⟩:=h.rules;obtain⟨ap,am,az⟩:=u.boxed;have U:=h.lt;go_wp2;rw[R.out];exact zJ (v:=.tuple #[.agg #[.bool J,.string I,.slice d G c,.slice none 0 0],.bool false]) (by simp[results,results107,go_sem,B]) rfl ⟨(by go_grown),_,_,_,_,_,_,_,_,rfl⟩
   rename_i a;have S:=OY hL;clear hL;go_upto_region 7 with (first|(refine qN _ w rfl (.tmp 24) 30 9 none (some (.tmp 25)) rfl underlying30 i1 L OC _ l rfl T 0 k (zf ⟨rfl,rfl⟩) (ze rfl) (by omega) (by omega) k rfl ?_;intro aq V F;rw[gI] at F)|(go_at_call 152;refine(ir _ _ (l.take k) true a (by exact F.below hW) aj.out (by simp;omega) S).mono ?_;rintro e K ⟨va,rfl,ag,n⟩;obtain⟨d,c,rfl⟩:=ag.qw;have f:=ab.below n;have g:=ad.below n;obtain⟨D,z⟩:=f.rules;obtain⟨t,q,au⟩:=g.boxed;have Z:=f.lt;have O:=Pc hW n))
   have u:OZ ((((K.setCell ⟨w.heap.size+1,0,none⟩ (.bool a.neg)).setCell ⟨w.heap.size+1,1,none⟩ (.string a.pred)).setCell ⟨w.heap.size+1,2,none⟩ (.slice d a.args.length c)).alloc (.cells #[.bool a.neg,.string a.pred,.slice d a.args.length c] 90)) (w.heap.size+1) #[.bool a.neg,.string a.pred,.slice d a.args.length c,.slice none 0 0] 93:=(((g.set 0 _).set 1 _).set 2 _).below zO;have h:OZ ((((K.setCell ⟨w.heap.size+1,0,none⟩ (.bool a.neg)).setCell ⟨w.heap.size+1,1,none⟩ (.string a.pred)).setCell ⟨w.heap.size+1,2,none⟩ (.slice d a.args.length c)).alloc (.cells #[.bool a.neg,.string a.pred,.slice d a.args.length c] 90)) w.heap.size #[.bool false,.string {data:=#[]},.slice none 0 0,.slice none 0 0] 93:=(((f.set_ne (by omega) _ _).set_ne (by omega) _ _).set_ne (by omega) _ _).below zO;have E:Below w.heap.size w ((((K.setCell ⟨w.heap.size+1,0,none⟩ (.bool a.neg)).setCell ⟨w.heap.size+1,1,none⟩ (.string a.pred)).setCell ⟨w.heap.size+1,2,none⟩ (.slice d a.args.length c)).alloc (.cells #[.bool a.neg,.string a.pred,.slice d a.args.length c] 90)):=by have hq:=O.size;exact(by go_grown)
   have ak:Pg w.heap.size ((((K.setCell ⟨w.heap.size+1,0,none⟩ (.bool a.neg)).setCell ⟨w.heap.size+1,1,none⟩ (.string a.pred)).setCell ⟨w.heap.size+1,2,none⟩ (.slice d a.args.length c)).alloc (.cells #[.bool a.neg,.string a.pred,.slice d a.args.length c] 90)) (.slice d a.args.length c) a.args:=((ag.low (by simp only[World.size_alloc];omega)).but (r:=w.heap.size+1) ((((Pm.refl _ _).setCell _ _).setCell _ _).setCell _ _) g (by decide)).below zO;generalize ((((K.setCell ⟨w.heap.size+1,0,none⟩ (.bool a.neg)).setCell ⟨w.heap.size+1,1,none⟩ (.string a.pred)).setCell ⟨w.heap.size+1,2,none⟩ (.slice d a.args.length c)).alloc (.cells #[.bool a.neg,.string a.pred,.slice d a.args.length c] 90))=w2 at *;clear f g D z t q;obtain⟨B,W⟩:=h.rules;obtain⟨ap,am,az⟩:=u.boxed;have U:=h.lt
  ·have af:Hid (k=l.length):=by unfold Hid;omega
   have R:Hid (jD l=some ⟨a,[]⟩):=by unfold Hid jD;rw[HK.out,S.out];simp only[];rw[zb af.out]
   have ax:((k:Int) == (l.length:Int))=true:=by rw[beq_iff_eq];have:=af.out;omega
   go_wp2;rw[R.out];exact zJ (v:=.tuple #[.agg #[.bool a.neg,.string a.pred,.slice d a.args.length c,.slice none 0 0],.bool true]) (by simp[results,results107,go_sem,B]) rfl ⟨(by go_grown),_,_,rfl,ak.but (r:=w.heap.size) (by repeat'(first|with_reducible(first|apply xR|assumption|apply xN|apply xA|apply xD|apply xS|apply xT)|go_size)) h (by decide),PB.nil _⟩
  ·have N:Hid (∀y∈l.drop (k+1),0<y.size):=fun y hy=>aa y (g4 hy);have ax:((k:Int) == (l.length:Int))=false:=by rw[beq_eq_false_iff_ne];omega
   cases p:yD (l.drop (k+1)) ((l.drop (k+1)).length+1) 0 0 0 with
   |none=>
    have P:=OY p;have R:Hid (jD l=none):=by unfold Hid jD;rw[HK.out,S.out];simp only[];rw[za (by omega),p]
    clear p;go_wp2_with (first|(refine qN _ w rfl (.tmp 43) 30 9 (some (.tmp 45)) none rfl underlying30 i1 L OC _ l rfl T (k+1) l.length (ze rfl) (zf ⟨rfl,rfl⟩) (by omega) (by omega) (l.length-(k+1)) rfl ?_;intro ay ah A;rw[xk (by simp)] at A)|(go_at_call 153;refine(KN _ _ (l.drop (k+1)) (by exact A.below E) N.out (by simp;omega) P).mono ?_;rintro e w3 ⟨rfl,j⟩;have m:=h.below j;have s:=u.below j;obtain⟨C,al⟩:=m.rules;obtain⟨an,Y,a0⟩:=s.boxed;have ai:=m.lt;have Q:=Pc E j;have ae:=Q.size))
    rw[R.out];exact zJ (v:=.tuple #[.agg #[.bool a.neg,.string a.pred,.slice d a.args.length c,.slice none 0 0],.bool false]) (by simp[results,results107,go_sem,C]) rfl ⟨(by go_grown),_,_,_,_,_,_,_,_,rfl⟩
   |some bd=>
    have P:=OY p;have R:Hid (jD l=some ⟨a,bd⟩):=by unfold Hid jD;rw[HK.out,S.out];simp only[];rw[za (by omega),p]
    clear p;go_wp2_with (first|(refine qN _ w rfl (.tmp 43) 30 9 (some (.tmp 45)) none rfl underlying30 i1 L OC _ l rfl T (k+1) l.length (ze rfl) (zf ⟨rfl,rfl⟩) (by omega) (by omega) (l.length-(k+1)) rfl ?_;intro ay ah A;rw[xk (by simp)] at A)|(go_at_call 153;refine(Gh _ _ (l.drop (k+1)) bd (by exact A.below E) N.out (by simp;omega) P).mono ?_;rintro e w3 ⟨vb,rfl,ac,j⟩;obtain⟨ar,X,rfl⟩:=ac.qw;have m:=h.below j;have s:=u.below j;obtain⟨C,al⟩:=m.rules;obtain⟨an,Y,a0⟩:=s.boxed;have ai:=m.lt;have Q:=Pc E j;have ae:=Q.size))
    rw[R.out];have av:=ak.below j;exact zJ (v:=.tuple #[.agg #[.bool a.neg,.string a.pred,.slice d a.args.length c,.slice ar bd.length X],.bool true]) (by simp[results,results107,go_sem,C]) rfl ⟨(by go_grown),_,_,rfl,(av.but (r:=w.heap.size+1) ((Pm.refl _ _).setCell _ _) s (by decide)).but (r:=w.heap.size) (by repeat'(first|with_reducible(first|apply xR|assumption|apply xN|apply xA|apply xD|apply xS|apply xT)|go_size)) (m.set_ne (by omega) _ _) (by decide),((ac.low (by omega)).but (r:=w.heap.size+1) ((Pm.refl _ _).setCell _ _) s (by decide) (by decide)).but (r:=w.heap.size) (by repeat'(first|with_reducible(first|apply xR|assumption|apply xN|apply xA|apply xD|apply xS|apply xT)|go_size)) (m.set_ne (by omega) _ _) (by decide) (by decide)⟩
end
end Go.Proofs.YteampbddflhngaaGreat
