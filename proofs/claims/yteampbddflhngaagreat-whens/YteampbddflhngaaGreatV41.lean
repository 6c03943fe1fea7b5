import Derived.Test.YteampbddflhngaaGreatV34
import Derived.Test.YteampbddflhngaaGreatV40
namespace Go.Proofs.YteampbddflhngaaGreat
set_option linter.all false
set_option maxRecDepth 100000
set_option maxHeartbeats 4000000
open Go.RowKit
section
variable {lo:Nat}{k wd t5 t3:Nat}{w w' w0:World}{own' own0:Nat->zn}{r:zr}{P:yU}{vs:List yL}
def ff(k:Nat):TypeId->zn->Prop:=fun t ρ=>dY k t ρ∨(t=301/\ρ=(0,0,5))
theorem FE{i:Nat}{t:TypeId}{ρ:zn}(h:fj k i (0,0,5) t ρ):ff k t ρ:=by
 rcases h with⟨b,j,a⟩|h
 ·exact zf (zf ⟨b,i,j,a⟩)
 ·exact ze h
theorem mN{t:TypeId}(h:PU t)(a:t≠301):∀ρ,¬ff k t ρ:=fun ρ q=>by
 rcases q with q|q
 ·exact l5 h a ρ q
 ·exact a q.1
theorem e9{t:TypeId}{a b c:Nat}(h:a≠k+1)(d:c≠5):¬ff k t (a,b,c):=fun q=>by
 rcases q with q|⟨_,q⟩
 ·exact nB h q
 ·simp at q;omega
theorem GJ{t:TypeId}{ρ:zn}(h:ff k t ρ):uG t ρ:=by
 rcases h with h|⟨rfl,_⟩
 ·exact oO h
 ·exact ze (by decide)
theorem zU.make{own:Nat->zn}{a:Nat}{R:zx}{mr mx:Nat}{Q:ua}(h:zU lo w own a R wd mr mx Q)(m:Pe lo (ff k) w own w' own'):zU lo w' own' a R wd mr mx Q:=
 h.mod m (mN (by decide) (by decide)) (mN (by decide) (by decide)) (mN (by decide) (by decide)) (fun _=>e9 (by omega) (by omega)) (fun _ _ _=>e9 (by omega) (by omega))
theorem Pe.newer{ok:TypeId->zn->Prop}{w wr w':World}{own a:Nat->zn}{M:List Nat}(h:Pe lo ok w own wr a)(g:zd M wr w')(c:∀b∈M,w.heap.size<=b):Pe lo ok w own w' a:=by
 obtain⟨f,N,e,i⟩:=h;exact⟨f,N,e.newer g fun x d=>ze (c x d),i⟩
theorem Pe.qo{ok:TypeId->zn->Prop}{own:Nat->zn}(c:Below w.heap.size w w')(a:∀b,b<w.heap.size->own' b=own b):Pe lo ok w own w' own':=⟨a,[],zd.of c,by simp⟩
structure qW (lo:Nat) (w0 w:World) (own0 own:Nat->zn) (k wd t5 t3:Nat) (r:zr) (P:yU) (vs:List yL):Prop where
 low:w0.heap.size<=t5
 low0:lo<=w0.heap.size
 box:OZ w t5 (qR r P).toArray 292
 rbox:OZ w t3 #[.int .i64 r.qh,.int .i64 r.vars,.int .i64 r.head.pred,P.tv,P.pv,P.nv] 207
 rule:uP lo w P.tv P.pv P.nv r
 qm:w.ownsRow lo 301 6 P.vv vs.length (vP wd vs P.vps)
 vlen:P.vps.length=vs.length
 view:∀i (_:i<vs.length) (_:i<P.vps.length),vn lo w own k i vs[i] P.vps[i]
 vrole:∀b,P.vv.ownBlock=some b->own b=(k+1,0,9)
 qp:w.ownsRow lo 162 1 P.ntv P.nbs.length (Pu P.nbs)
 mod:Pe lo (ff k) w0 own0 w own
theorem qW.step{own:Nat->zn}(h:qW lo w0 w own0 own k wd t5 t3 r P vs)(m:Pe lo (fj k vs.length (0,0,5)) w own w' own'):qW lo w0 w' own0 own' k wd t5 t3 r P vs:=by
 refine⟨h.low,h.low0,h.box.mod m (kH (by decide) (by decide) _),h.rbox.mod m (kH (by decide) (by decide) _),h.rule.mod m (kH (by decide) (by decide)) (kH (by decide) (by decide)),pz h.qm m (fun b c q=>?_),h.vlen,fun i a b=>(h.view i a b).mod m (fun j t d q=>?_) (kH (by decide) (by decide)),fun b c=>(m.old b (yO h.qm c)).trans (h.vrole b c),vd h.qp m (kH (by decide) (by decide)),h.mod.trans (m.more fun _ _ q=>FE q)⟩
 ·rw[h.vrole b c] at q;rcases q with q|q
  ·exact q.1 (by decide)
  ·simp at q
 ·rcases q with⟨_,f,q⟩|⟨e,_⟩
  ·simp at q;omega
  ·subst e;exact d (by decide)
theorem qW.below{own:Nat->zn}(h:qW lo w0 w own0 own k wd t5 t3 r P vs)(a:Below w.heap.size w w'):qW lo w0 w' own0 own k wd t5 t3 r P vs:=h.step (Pe.of own a)
theorem EP(wd:Nat):∀(vs:List yL) (ps:List jr),ps.length=vs.length->∀(V:yL) (p:jr),vP wd (vs++[V]) (ps++[p])=vP wd vs ps++kI wd V p:=fun vs ps h V p=>by
 simp[vP,List.zipWith_append (h.symm)]
theorem qW.pushV{own:Nat->zn}{V:yL}{p:jr}{v':Value}(h:qW lo w0 w own0 own k wd t5 t3 r P vs)(E:vn lo w own k vs.length V p)(A:w'.ownsRow lo 301 6 v' (vs.length+1) (vP wd vs P.vps++kI wd V p))(C:zd P.vv.ownBlock.toList w w')(y:v'.ownBlock=P.vv.ownBlock∨∃g,v'.ownBlock=some g/\w.heap.size<=g):
  qW lo w0 (w'.setCell ⟨t5,6,none⟩ v') own0 (ext own w.heap.size (k+1,0,9)) k wd t5 t3 r ⟨P.tv,P.pv,P.nv,v',P.ntv,P.vps++[p],P.nbs⟩ (vs++[V]):=by
 have d:Pe lo (fun t ρ=>t=301/\ρ=(k+1,0,9)) w own w' (ext own w.heap.size (k+1,0,9)):=⟨fun b f=>g5 _ _ _ b f,_,C,fun b f=>by
  have l:P.vv.ownBlock=some b:=by simpa using f
  obtain⟨c,B⟩:=qr h.qm l;exact⟨yW h.qm l,yO h.qm l,c,_,B,rfl,h.vrole b l⟩⟩
 have o:∀t,t≠301->∀ρ,¬(t=301/\ρ=(k+1,0,9)):=fun t x ρ q=>x q.1;have m:=h.box.mod d (o _ (by decide) _);have n:=h.rbox.mod d (o _ (by decide) _);have e:zd [t5] w' (w'.setCell ⟨t5,6,none⟩ v'):=zd.set _ _ _ _;have u:=Px.box m;have v:=fun i V p (q:vn lo w own k i V p)=>(q.mod d (fun j t x q=>by obtain⟨rfl,_⟩:=q;exact x (by decide)) (o _ (by decide))).saveT e u (by decide) (by decide);refine⟨h.low,h.low0,?_,n.saveT e u (by decide),(h.rule.mod d (o _ (by decide)) (o _ (by decide))).saveT e u (by decide) (by decide),?_,by simp[h.vlen],fun i a b=>?_,fun b f=>?_,yE (vd h.qp d (o _ (by decide))) e u (by decide),(h.mod.trans (d.more fun _ _ q=>zf (ze q))).newer e fun b f=>by simp at f;rw[f];exact h.low⟩
 ·have q:=m.set 6 v';simpa [qR] using q
 ·rw[EP wd vs P.vps h.vlen,yz];exact yE A e u (by decide)
 ·simp only[yz,yZ,jH] at a b;by_cases z:i<vs.length
  ·have s:i<P.vps.length:=by rw[h.vlen];exact z
   rw[uT z,uT s];exact v i _ _ (h.view i z s)
  ·obtain rfl:i=vs.length:=by omega
   have F:(vs++[V])[vs.length]=V:=by simp
   have G:(P.vps++[p])[vs.length]=p:=by simp[←h.vlen]
   rw[F,G];exact v _ _ _ E
 ·rcases y with y|⟨g,H,D⟩
  ·rw[y] at f;rw[g5 _ _ _ b (yO h.qm f)];exact h.vrole b f
  ·rw[H] at f;simp at f;subst f;simp[ext,Nat.not_lt.2 D]
theorem qW.pushN{own:Nat->zn}{tb:Nat}{v':Value}(h:qW lo w0 w own0 own k wd t5 t3 r P vs)(j:∀b,P.ntv.ownBlock=some b->w0.heap.size<=b)(n:w'.ownsRow lo 162 1 v' (P.nbs.length+1) (Pu P.nbs++[.pointer (some ⟨tb,0,none⟩)]))(g:zd P.ntv.ownBlock.toList w w'):
  qW lo w0 (w'.setCell ⟨t5,7,none⟩ v') own0 own k wd t5 t3 r ⟨P.tv,P.pv,P.nv,P.vv,v',P.vps,P.nbs++[tb]⟩ vs:=by
 have d:=Px.own h.qp;have f:=h.box.saveT g d (by decide);have c:zd [t5] w' (w'.setCell ⟨t5,7,none⟩ v'):=zd.set _ _ _ _;have l:=Px.box f;refine⟨h.low,h.low0,?_,(h.rbox.saveT g d (by decide)).saveT c l (by decide),(h.rule.saveT g d (by decide) (by decide)).saveT c l (by decide) (by decide),yE (yE h.qm g d (by decide)) c l (by decide),h.vlen,fun i a b=>((h.view i a b).saveT g d (by decide) (by decide)).saveT c l (by decide) (by decide),h.vrole,?_,(h.mod.newer g fun b m=>j b (by simpa using m)).newer c fun b m=>by simp at m;rw[m];exact h.low⟩
 ·have q:=f.set 7 v';simpa [qR] using q
 ·have e:Pu (P.nbs++[tb])=Pu P.nbs++[.pointer (some ⟨tb,0,none⟩)]:=by simp[Pu,pt]
  rw[e,yz];exact yE n c l (by decide)
theorem Bc{f wd:Nat}{R:zx}:∀{c:List zt} {vs:List yL},li f wd R c=some vs->vs.length=c.length/\∀i (e:i<c.length) (d:i<vs.length),∃a,rowsG f (fT wd R c[i].pred)=some a/\fL f wd (kh wd c[i]) a=some vs[i]
 |[],vs,h=>by
  simp[li] at h;subst h;exact⟨rfl,fun i h=>by simp at h⟩
 |l::c,vs,h=>by
  unfold li at h;split at h
  ·cases h
  ·rename_i a b;split at h
   ·rename_i v m j g;simp at h;subst h;obtain⟨o,n⟩:=Bc g;refine⟨by simp[o],fun i e d=>?_⟩;match i,e,d with
    |0,_,_=>exact⟨a,b,j⟩
    |i+1,e,d=>
     simp only[mC];exact n i (by simpa using e) (by simpa using d)
   ·cases h
end
section
open Go.Proofs.Tryz
variable {lo:Nat}{ownk own1:Nat->zn}{wd:Nat}
def NA(lo:Nat)(w:World)(own:Nat->zn)(k wd:Nat)(r:zr)(vs:List yL)(b:List Nat)(n:Nat)(e:Ending)(c:World):Prop:=∃P a,e=.returned (.agg (qR r P).toArray)/\ug lo c a k wd ⟨r,vs⟩ P/\gy b n r P.nbs/\Pe lo (ff k) w own c a
def z8:List Value:=[.int .i64 0,.int .i64 0,.int .i64 0,.slice none 0 0,.slice none 0 0,.slice none 0 0,.slice none 0 0,.slice none 0 0]
theorem O1:(prog.info? 301).map (fun i=>(i.zero,i.size,i.bytes))=some (some (.agg #[.int .i64 0,.slice none 0 0,.int .i64 0,.pointer none,.pointer none,.pointer none]),6,64):=by kernel_rfl
def QX(c wd:Nat)(tv:Value)(b d a:Nat):Array Value:=#[.int .i64 c,tv,.int .i64 wd,.pointer (some ⟨b,0,none⟩),.pointer (some ⟨d,0,none⟩),.pointer (some ⟨a,0,none⟩)]
structure QL (lo:Nat) (wr W3:World) (ownk own2:Nat->zn) (k m wd g8:Nat) (l:zt) (tv:Value) (bb fb ab:Nat):Prop where
 view:vn lo W3 own2 k m (kh wd l) ⟨tv,bb,fb,ab⟩
 role:own2 g8=(0,0,5)
 old:∀b,b<wr.heap.size->own2 b=ownk b
 box:OZ W3 g8 (QX l.pred wd tv bb fb ab) 301
 lbox:OZ W3 wr.heap.size #[.int .i64 l.pred,tv] 204
 below:Below wr.heap.size wr W3
 ge:wr.heap.size<=g8
theorem QL.one{wr e a:World}{k m:Nat}{l:zt}{tv:Value}{g h f:Nat}(d:Below wr.heap.size wr e)(i:OZ e wr.heap.size #[.int .i64 l.pred,tv] 204)(c:Below e.heap.size e a)(o:vn lo a own1 k m (kh wd l) ⟨tv,g,h,f⟩)(n:∀b,b<e.heap.size->own1 b=ext ownk wr.heap.size (0,0,5) b):QL lo wr (a.alloc (.cells (QX l.pred wd tv g h f) 301)) ownk (ext own1 a.heap.size (0,0,5)) k m wd a.heap.size l tv g h f:=by
 have j:Below a.heap.size a (a.alloc (.cells (QX l.pred wd tv g h f) 301)):=(zo _ _).alloc (zh _) _;have r:=d.size;have q:=c.size;refine⟨o.mod (Pe.extNew (ok:=fun _ _=>False) own1 (0,0,5) j) (fun _ _ _=>id) (fun _=>id),by simp[ext],fun b p=>?_,OZ.new _ _ _,(i.below c).below j,Pc (Pc d c) j,by omega⟩;rw[g5 _ _ _ b (by omega),n b (by omega),g5 _ _ _ b p]
theorem QL.two{wr a e:World}{k m:Nat}{l:zt}{tv:Value}{c d g:Nat}{z:Array Value}(h:Below wr.heap.size wr a)(p:OZ a wr.heap.size #[.int .i64 l.pred,tv] 204)(j:Below (a.alloc (.cells z 301)).heap.size (a.alloc (.cells z 301)) e)(r:OZ e a.heap.size #[.int .i64 0,.slice none 0 0,.int .i64 0,.pointer none,.pointer none,.pointer none] 301)(w:vn lo e own1 k m (kh wd l) ⟨tv,c,d,g⟩)(q:∀b,b<(a.alloc (.cells z 301)).heap.size->own1 b=ext ownk wr.heap.size (0,0,5) b):QL lo wr ((((((e.setCell ⟨a.heap.size,0,none⟩ (.int .i64 l.pred)).setCell ⟨a.heap.size,1,none⟩ tv).setCell ⟨a.heap.size,2,none⟩ (.int .i64 wd)).setCell ⟨a.heap.size,3,none⟩ (.pointer (some ⟨c,0,none⟩))).setCell ⟨a.heap.size,4,none⟩ (.pointer (some ⟨d,0,none⟩))).setCell ⟨a.heap.size,5,none⟩ (.pointer (some ⟨g,0,none⟩))) ownk own1 k m wd a.heap.size l tv c d g:=by
 have s:=h.size;have t:Below a.heap.size a (a.alloc (.cells z 301)):=(zo _ _).alloc (zh _) _;have o:=zd.sets a.heap.size [.int .i64 l.pred,tv,.int .i64 wd,.pointer (some ⟨c,0,none⟩),.pointer (some ⟨d,0,none⟩),.pointer (some ⟨g,0,none⟩)] 0 e;have n:=(((((r.set 0 (.int .i64 l.pred)).set 1 tv).set 2 (.int .i64 wd)).set 3 (.pointer (some ⟨c,0,none⟩))).set 4 (.pointer (some ⟨d,0,none⟩))).set 5 (.pointer (some ⟨g,0,none⟩));have u:=Px.box r;have f:=Pc (Pc h t) j;have i:=(p.below t).below j;have y:(a.alloc (.cells z 301)).heap.size=a.heap.size+1:=by simp
 refine⟨w.saveT o u (by decide) (by decide),?_,fun b A=>?_,by simpa [QX] using n,i.saveT o u (by decide),?_,s⟩
 ·rw[q _ (by omega)];simp[ext,Nat.not_lt.2 s]
 ·rw[q b (by omega),g5 _ _ _ b A]
 ·exact f.trans (o.below (fun x v=>by simp at v;omega) (by have:=f.size;omega))
theorem qW.done{f w g:World}{c own:Nat->zn}{k n o l:Nat}{p:Array Value}{r:zr}{P:yU}{vs:List yL}(h:qW lo f w c own k wd n o r P vs)(j:OZ w l p 292)(t:f.heap.size<=l)(d:zd [l] w g)(m:P.nbs.length=r.qp.length)(s:vs.length<=1000):ug lo g own k wd ⟨r,vs⟩ P/\Pe lo (ff k) f c g own:=by
 have e:=Px.box j;have q:=yE h.qp d e (by decide);rw[m] at q;exact⟨⟨h.rule.saveT d e (by decide) (by decide),yE h.qm d e (by decide),h.vlen,fun i a b=>(h.view i a b).saveT d e (by decide) (by decide),h.vrole,q,m,s⟩,h.mod.newer d fun b j=>by simp at j;omega⟩
theorem MR{f:Nat}{T:zi}{a:List zk}(h:rowsG f T=some a):a.length<=1048577:=by
 unfold rowsG at h;split at h
 ·cases h
 ·split at h
  ·simp at h;subst h;omega
  ·cases h
theorem Gk(w:World)(own:Nat->zn)(rb k:Nat)(R:zx)(r:zr)(tv pv nv:Value)(vs:List yL)(wd mr mx:Nat)(Q:ua)(aq:Nat)(h:zU lo w own rb R wd mr mx Q)(hr:uP lo w tv pv nv r)(aP:lo<=w.heap.size)(bb:∀l∈r.qc,l.pred<R.rows.length)(bu:∀l∈r.qp,l.pred<R.rows.length/\l.pred≠r.head.pred)(hv:li aq wd R r.qc=some vs):
  Calls prog 192 #[.pointer (some ⟨rb,0,none⟩),kj r tv pv nv] w fun e I=>NA lo w own k wd r vs Q.tbs R.rows.length e I:=by
 obtain⟨i0,hi,bF,bD,bT⟩:=info_parts O1;obtain⟨i1,bC,bv,aS,bf⟩:=info_parts O2;obtain⟨br,aN⟩:=Bc hv;have aK:=OY br;have bW:=OY aN;have HH:=OY h;have bM:=OY hr;have aE:=OY aP;have bx:=OY bb;have bB:=OY bu;obtain⟨o,d,bG⟩:=hr.head.qw;obtain⟨u,j,bS⟩:=hr.qc.qw;obtain⟨s,f,bP⟩:=hr.qp.qw;have b2:r.qc.length<=1000:=by obtain⟨_,_,_,q,_⟩:=hr.qc;exact q
 have cd:r.qp.length<=1000:=by obtain⟨_,_,_,q,_⟩:=hr.qp;exact q
 subst bG bS bP;clear h hr aP bb bu hv br aN;simp only[kj];go_enter func192,ntmps192;go_upto_region 3 with fail
 have N:Below w.heap.size w (((w.alloc (.cells #[.int .i64 r.qh,.int .i64 r.vars,.int .i64 r.head.pred,.slice o r.head.qg.length d,.slice u r.qc.length j,.slice s r.qp.length f] 207)).alloc (.cells #[.int .i64 0,.int .i64 0,.int .i64 0,.slice none 0 0,.slice none 0 0,.slice none 0 0,.slice none 0 0,.slice none 0 0] 292)).alloc (.cells #[.int .i64 r.qh,.int .i64 r.vars,.int .i64 r.head.pred,.slice o r.head.qg.length d,.slice u r.qc.length j,.slice s r.qp.length f,.slice none 0 0,.slice none 0 0] 292)):=(by go_grown);have an:=((OZ.new w #[.int .i64 r.qh,.int .i64 r.vars,.int .i64 r.head.pred,.slice o r.head.qg.length d,.slice u r.qc.length j,.slice s r.qp.length f] 207).up (.cells #[.int .i64 0,.int .i64 0,.int .i64 0,.slice none 0 0,.slice none 0 0,.slice none 0 0,.slice none 0 0,.slice none 0 0] 292)).up (.cells #[.int .i64 r.qh,.int .i64 r.vars,.int .i64 r.head.pred,.slice o r.head.qg.length d,.slice u r.qc.length j,.slice s r.qp.length f,.slice none 0 0,.slice none 0 0] 292);have az:=((OZ.new (w.alloc (.cells #[.int .i64 r.qh,.int .i64 r.vars,.int .i64 r.head.pred,.slice o r.head.qg.length d,.slice u r.qc.length j,.slice s r.qp.length f] 207)) z8.toArray 292).up (.cells #[.int .i64 r.qh,.int .i64 r.vars,.int .i64 r.head.pred,.slice o r.head.qg.length d,.slice u r.qc.length j,.slice s r.qp.length f,.slice none 0 0,.slice none 0 0] 292)).at' (b':=w.heap.size+1) (by simp);have bq:=(OZ.new ((w.alloc (.cells #[.int .i64 r.qh,.int .i64 r.vars,.int .i64 r.head.pred,.slice o r.head.qg.length d,.slice u r.qc.length j,.slice s r.qp.length f] 207)).alloc (.cells z8.toArray 292)) #[.int .i64 r.qh,.int .i64 r.vars,.int .i64 r.head.pred,.slice o r.head.qg.length d,.slice u r.qc.length j,.slice s r.qp.length f,.slice none 0 0,.slice none 0 0] 292).at' (b':=w.heap.size+1+1) (by simp);have x:qW lo w (((w.alloc (.cells #[.int .i64 r.qh,.int .i64 r.vars,.int .i64 r.head.pred,.slice o r.head.qg.length d,.slice u r.qc.length j,.slice s r.qp.length f] 207)).alloc (.cells #[.int .i64 0,.int .i64 0,.int .i64 0,.slice none 0 0,.slice none 0 0,.slice none 0 0,.slice none 0 0,.slice none 0 0] 292)).alloc (.cells #[.int .i64 r.qh,.int .i64 r.vars,.int .i64 r.head.pred,.slice o r.head.qg.length d,.slice u r.qc.length j,.slice s r.qp.length f,.slice none 0 0,.slice none 0 0] 292)) own own k wd (w.heap.size+1+1) w.heap.size r ⟨.slice o r.head.qg.length d,.slice u r.qc.length j,.slice s r.qp.length f,.slice none 0 0,.slice none 0 0,[],[]⟩ []:=⟨by omega,aE.out,bq,an,bM.out.below N,yK _ _ _ _,rfl,(fun i a=>by simp at a),(fun b J=>by cases J),yK _ _ _ _,Pe.of own N⟩;have P:Hid (OZ (((w.alloc (.cells #[.int .i64 r.qh,.int .i64 r.vars,.int .i64 r.head.pred,.slice o r.head.qg.length d,.slice u r.qc.length j,.slice s r.qp.length f] 207)).alloc (.cells #[.int .i64 0,.int .i64 0,.int .i64 0,.slice none 0 0,.slice none 0 0,.slice none 0 0,.slice none 0 0,.slice none 0 0] 292)).alloc (.cells #[.int .i64 r.qh,.int .i64 r.vars,.int .i64 r.head.pred,.slice o r.head.qg.length d,.slice u r.qc.length j,.slice s r.qp.length f,.slice none 0 0,.slice none 0 0] 292)) (w.heap.size+1) z8.toArray 292):=az;have a3:=OY x;clear x an az bq N;generalize b6:((w.alloc (.cells #[.int .i64 r.qh,.int .i64 r.vars,.int .i64 r.head.pred,.slice o r.head.qg.length d,.slice u r.qc.length j,.slice s r.qp.length f] 207)).alloc (.cells #[.int .i64 0,.int .i64 0,.int .i64 0,.slice none 0 0,.slice none 0 0,.slice none 0 0,.slice none 0 0,.slice none 0 0] 292)).alloc (.cells #[.int .i64 r.qh,.int .i64 r.vars,.int .i64 r.head.pred,.slice o r.head.qg.length d,.slice u r.qc.length j,.slice s r.qp.length f,.slice none 0 0,.slice none 0 0] 292)=w1 at *;clear b6;generalize h5:w.heap.size+1+1=t5 at *;generalize h4:w.heap.size+1=t4 at *;have aB:t4≠t5:=by omega
 have cl:w.heap.size<t4:=by omega
 clear h5 h4;go_loopw [18] (fun bR wr=>∃m:Nat,m<=r.qc.length/\bR=.int .i64 m/\∃ownk vv am,Hid (qW lo w wr own ownk k wd t5 w.heap.size r ⟨.slice o r.head.qg.length d,.slice u r.qc.length j,.slice s r.qp.length f,vv,.slice none 0 0,am,[]⟩ (vs.take m))/\Hid (OZ wr t4 z8.toArray 292)) (fun i _=>r.qc.length-(intOf i).toNat)
 case atStart=>exact⟨0,zv _,rfl,own,_,[],a3,P⟩
 case round=>
  clear a3 P;obtain⟨m,hm,rfl,ownk,vv,am,x,P⟩:=hrel;have ah:=x.out.mod.size;have ak:=zT aE.out ah;by_cases ag:m<r.qc.length
  ·obtain⟨g,n,c,aF,hg,q0,q1,aU⟩:=x.out.rule.qc.cell m ag;subst aF;have bm:m<vs.length:=by rw[aK.out];exact ag
   obtain⟨T,af,ap⟩:=bW.out m ag bm;have aa:=OY (HH.out.make x.out.mod);have W:r.qc[m].pred<R.rows.length:=bx.out _ (zu _);have au:r.qc[m].pred<Q.tbs.length:=by rw[aa.out.tlen];exact W
   have bk:Hid (∀F,Below wr.heap.size wr F->Calls prog 204 #[.agg #[.int .i64 (r.qc[m].pred:Nat),.slice n r.qc[m].qg.length c],.int .i64 wd] F fun e I=>∃K fb L own1,e=.returned (.agg #[.int .i64 (r.qc[m].pred:Nat),.slice n r.qc[m].qg.length c,.int .i64 wd,.pointer (some ⟨K,0,none⟩),.pointer (some ⟨fb,0,none⟩),.pointer (some ⟨L,0,none⟩)])/\Hid (vn lo I own1 k m (kh wd r.qc[m]) ⟨.slice n r.qc[m].qg.length c,K,fb,L⟩/\∀b,b<F.heap.size->own1 b=ext ownk wr.heap.size (0,0,5) b)/\Below F.heap.size F I):=fun F J=>by
    refine(Fj F (ext ownk wr.heap.size (0,0,5)) k m r.qc[m] (.slice n r.qc[m].qg.length c) wd (aU.below J) (zT ak J.size) aa.out.small.1).mono ?_;rintro e I ⟨⟨cb,K,fb,L⟩,own1,rfl,rfl,b5,bh,O⟩;exact⟨K,fb,L,own1,rfl,⟨b5,bh⟩,O⟩
   obtain⟨hl,hf,d0,d1,d2,d3,d4,d5,d6,d7⟩:=aa.out.at;have bg:(m:Int)<(r.qc.length:Int):=by omega
   clear d0 d1 d2 d3 d5 d6 d7;go_upto_region 5 with fail
   have N:Below wr.heap.size wr (wr.alloc (.cells #[.int .i64 (r.qc[m].pred:Nat),.slice n r.qc[m].qg.length c] 204)):=(by go_grown);have al:=OZ.new wr #[.int .i64 (r.qc[m].pred:Nat),.slice n r.qc[m].qg.length c] 204;have aR:wr.heap.size<(wr.alloc (.cells #[.int .i64 (r.qc[m].pred:Nat),.slice n r.qc[m].qg.length c] 204)).heap.size:=by simp
   generalize bz:wr.alloc (.cells #[.int .i64 (r.qc[m].pred:Nat),.slice n r.qc[m].qg.length c] 204)=Y at *;clear bz;have x4:=zl N hl d4;have x0:Y.cell? ⟨wr.heap.size,0,none⟩=some (.int .i64 (r.qc[m].pred:Nat)):=by rw[al.rules.1];rfl
   have x1:Y.cell? ⟨wr.heap.size,1,none⟩=some (.slice n r.qc[m].qg.length c):=by rw[al.rules.1];rfl
   have ao:Hid (∀F,Below Y.heap.size Y F->Calls prog 204 #[.agg #[.int .i64 (r.qc[m].pred:Nat),.slice n r.qc[m].qg.length c],.int .i64 wd] F fun e I=>∃K fb L own1,e=.returned (.agg #[.int .i64 (r.qc[m].pred:Nat),.slice n r.qc[m].qg.length c,.int .i64 wd,.pointer (some ⟨K,0,none⟩),.pointer (some ⟨fb,0,none⟩),.pointer (some ⟨L,0,none⟩)])/\Hid (vn lo I own1 k m (kh wd r.qc[m]) ⟨.slice n r.qc[m].qg.length c,K,fb,L⟩/\∀b,b<F.heap.size->own1 b=ext ownk wr.heap.size (0,0,5) b)/\Below F.heap.size F I/\I.cell? ⟨rb,4,none⟩=some (.int .i64 wd)/\I.cell? ⟨wr.heap.size,0,none⟩=some (.int .i64 (r.qc[m].pred:Nat))/\I.cell? ⟨wr.heap.size,1,none⟩=some (.slice n r.qc[m].qg.length c)):=fun F J=>by
    refine(bk.out F (Pc N J)).mono ?_;rintro e I ⟨K,fb,L,own1,rfl,HX,O⟩;have an:=Pc J O;exact⟨K,fb,L,own1,rfl,HX,O,(an.cell (by show rb<_;omega)).trans x4,(an.cell (by show wr.heap.size<_;omega)).trans x0,(an.cell (by show wr.heap.size<_;omega)).trans x1⟩
   clear bk;clear q0 q1 d4;go_region_held3 (fun I=>I.cell? ⟨rb,4,none⟩=some (.int .i64 wd)/\I.cell? ⟨wr.heap.size,0,none⟩=some (.int .i64 (r.qc[m].pred:Nat))/\I.cell? ⟨wr.heap.size,1,none⟩=some (.slice n r.qc[m].qg.length c)) (first|go_keep|(go_simp;done)) (first|(go_at_call 204;refine(ao.out _ (by exact(by go_grown))).mono ?_;rintro e w2 ⟨K,fb,L,own1,rfl,HX,O,y4,y0,y1⟩;(try (with_reducible refine OZ.carry (OZ.drew (OZ.new Y #[.int .i64 0,.slice none 0 0,.int .i64 0,.pointer none,.pointer none,.pointer none] 301)) O ?_;intro a8;obtain⟨aQ,aW,aZ⟩:=a8.boxed))))
   obtain⟨M,HP⟩:∃M,Hid (QL lo wr (w2.alloc (.cells #[.int .i64 (r.qc[m].pred:Nat),.slice n r.qc[m].qg.length c,.int .i64 wd,.pointer (some ⟨K,0,none⟩),.pointer (some ⟨fb,0,none⟩),.pointer (some ⟨L,0,none⟩)] 301)) ownk M k m wd w2.heap.size r.qc[m] (.slice n r.qc[m].qg.length c) K fb L):=⟨_,QL.one N al (Pc (zI (zo _ _) 1) O) HX.out.1 HX.out.2⟩;clear HX O y4 y0 y1 x4 x0 x1 N al aR ao;generalize w2.alloc (.cells #[.int .i64 (r.qc[m].pred:Nat),.slice n r.qc[m].qg.length c,.int .i64 wd,.pointer (some ⟨K,0,none⟩),.pointer (some ⟨fb,0,none⟩),.pointer (some ⟨L,0,none⟩)] 301)=W3 at *;generalize w2.heap.size=g8 at *;rotate_left
   obtain⟨M,HP⟩:∃M,Hid (QL lo wr ((((((w2.setCell ⟨Y.heap.size,0,none⟩ (.int .i64 (r.qc[m].pred:Nat))).setCell ⟨Y.heap.size,1,none⟩ (.slice n r.qc[m].qg.length c)).setCell ⟨Y.heap.size,2,none⟩ (.int .i64 wd)).setCell ⟨Y.heap.size,3,none⟩ (.pointer (some ⟨K,0,none⟩))).setCell ⟨Y.heap.size,4,none⟩ (.pointer (some ⟨fb,0,none⟩))).setCell ⟨Y.heap.size,5,none⟩ (.pointer (some ⟨L,0,none⟩))) ownk M k m wd Y.heap.size r.qc[m] (.slice n r.qc[m].qg.length c) K fb L):=⟨_,QL.two (z:=#[.int .i64 0,.slice none 0 0,.int .i64 0,.pointer none,.pointer none,.pointer none]) N al (Pc (zI (zo _ _) 1) O) a8 HX.out.1 HX.out.2⟩;clear HX O y4 y0 y1 x4 x0 x1 N al aR ao a8 aQ aW aZ;generalize ((((((w2.setCell ⟨Y.heap.size,0,none⟩ (.int .i64 (r.qc[m].pred:Nat))).setCell ⟨Y.heap.size,1,none⟩ (.slice n r.qc[m].qg.length c)).setCell ⟨Y.heap.size,2,none⟩ (.int .i64 wd)).setCell ⟨Y.heap.size,3,none⟩ (.pointer (some ⟨K,0,none⟩))).setCell ⟨Y.heap.size,4,none⟩ (.pointer (some ⟨fb,0,none⟩))).setCell ⟨Y.heap.size,5,none⟩ (.pointer (some ⟨L,0,none⟩)))=W3 at *;generalize Y.heap.size=g8 at *
   all_goals
    have hP:=HP.out;have a6:=OY fun F J=>Cg F ownk rb R wd mr mx Q _ (aa.out.below J) W au;have b1:Hid (∀F,Below wr.heap.size wr F->Calls prog 78 #[.pointer (some ⟨Q.tbs[r.qc[m].pred],0,none⟩)] F fun e I=>∃av ac,e=.returned (.slice av T.length ac)/\Hid (Pq F.heap.size I (.slice av T.length ac) T)/\Below F.heap.size F I):=fun F J=>by
     have q:=AE F ownk (0,r.qc[m].pred,0) Q.tbs[r.qc[m].pred] R.rows[r.qc[m].pred] aq T ((aa.out.below J).tries _ W au) (by rw[←af,fT,za (by omega)];simp[List.getD,W]);refine q.mono ?_;rintro e I ⟨v,rfl,ay,aC⟩;obtain⟨av,ac,rfl⟩:=zq ay.1;exact⟨av,ac,rfl,ay,aC⟩
    have b4:Hid (∀W4 b0 rv,Below W3.heap.size W3 W4->Pq b0 W4 rv T->Calls prog 206 #[.pointer (some ⟨g8,0,none⟩),rv] W4 fun e I=>e=.returned (.tuple #[])/\∃X E,Hid (vn lo I E k m vs[m] ⟨.slice n r.qc[m].qg.length c,K,X,L⟩/\Pe lo (fj k m (0,0,5)) wr ownk I E)/\OZ I g8 #[.int .i64 (r.qc[m].pred:Nat),.slice n r.qc[m].qg.length c,.int .i64 wd,.pointer (some ⟨K,0,none⟩),.pointer (some ⟨X,0,none⟩),.pointer (some ⟨L,0,none⟩)] 301):=fun W4 b0 rv J ay=>by
     have z1:=HP.out.below.size;have q:=Bq W4 M k m g8 0 wd aq (QX r.qc[m].pred wd (.slice n r.qc[m].qg.length c) K fb L) (kh wd r.qc[m]) vs[m] ⟨.slice n r.qc[m].qg.length c,K,fb,L⟩ rv T (HP.out.box.below J) ⟨rfl,rfl,rfl,rfl,rfl,rfl⟩ (HP.out.view.below J) ay (by have:=HP.out.ge;omega) (by have:=J.size;omega) aa.out.small.1 (MR af) ap;refine q.mono ?_;rintro e I ⟨rfl,X,E,bI,aC,aT⟩;rw[HP.out.role] at aT;exact⟨rfl,X,E,⟨bI,((Pe.qo HP.out.below HP.out.old).trans (Pe.of M J)).trans aT⟩,by simpa [QX] using aC⟩
    have aj:(vs.take m).length=m:=by simp;omega
    have bV:Hid (∀w5 E,Pe lo (fj k m (0,0,5)) wr ownk w5 E->qW lo w w5 own E k wd t5 w.heap.size r ⟨.slice o r.head.qg.length d,.slice (some ⟨g,0,none⟩) r.qc.length j,.slice s r.qp.length f,vv,.slice none 0 0,am,[]⟩ (vs.take m)/\OZ w5 t4 z8.toArray 292):=fun w5 E bo=>⟨x.out.step (by rw[aj];exact bo),P.out.mod bo (kH (by decide) (by decide) _)⟩;have aJ:=OY aj;obtain⟨y,t,S⟩:=zq x.out.qm;dsimp only at S;rw[aj] at S;subst S;have bs:=hP.below;have aY:=hP.lbox;obtain⟨bX,bZ,bY⟩:=aY.boxed;have bi:=OY bs;have bE:Hid (vs[m].lit.pred=r.qc[m].pred):=show vs[m].lit.pred=r.qc[m].pred by rw[AA ap];rfl
    have bH:=OY (yM bm);clear hP bs aY aj ap af;generalize bN:vs[m]=V' at *;clear bN;generalize Q.tbs[r.qc[m].pred]=tb at *;generalize r.qc[m].pred=vp at *;generalize r.qc[m].qg.length=vt at *;go_wp2_with (first|(go_at_call 205;refine(a6.out _ bi.out).mono ?_;rintro e w4 ⟨rfl,a7⟩;obtain rfl:=a7.symm)|(go_at_call 78;refine(b1.out _ bi.out).mono ?_;rintro e w4 ⟨av,ac,rfl,bJ,az⟩)|(go_at_call 206;refine(b4.out _ _ _ az bJ.out).mono ?_;rintro e w5 ⟨rfl,X,E,bn,bt⟩;obtain⟨C,a5⟩:=bV.out _ _ bn.out.2;have H:OZ w5 t5 #[.int .i64 r.qh,.int .i64 r.vars,.int .i64 r.head.pred,.slice o r.head.qg.length d,.slice (some ⟨g,0,none⟩) r.qc.length j,.slice s r.qp.length f,.slice y m t,.slice none 0 0] 292:=C.box;obtain⟨aM,a9,aA⟩:=H.boxed;obtain⟨ck,ci,ch⟩:=bt.boxed;have U:=C.qm;have D:=OY C;have ax:=OY a5;clear C a5 H bt)|(at_builtin;refine d8 w5 _ [.int .i64 vp,.slice n vt c,.int .i64 wd,.pointer (some ⟨K,0,none⟩),.pointer (some ⟨X,0,none⟩),.pointer (some ⟨L,0,none⟩)] _ rfl (.tmp 36) (.tmp 38) 290 rfl lo 301 i0 _ 6 64 underlying290 hi bF bD bT rfl (by decide) (.slice y m t) (vs.take m).length (vP wd (vs.take m) am) rfl U (by exact(by go_grown)) _ _ rfl (by simp) rfl (by simp[Value.oneCell']) (by rw[aJ.out];omega) (by omega) (by exact(zT D.out.low0 D.out.mod.size)) ?_;intro v' w6 ae ab aw;obtain⟨bd,aG,ai⟩:=zq ae;rw[aJ.out] at ai;subst ai;have ad:OZ w6 t5 #[.int .i64 r.qh,.int .i64 r.vars,.int .i64 r.head.pred,.slice o r.head.qg.length d,.slice (some ⟨g,0,none⟩) r.qc.length j,.slice s r.qp.length f,.slice y m t,.slice none 0 0] 292:=D.out.box.saveT ab (Px.own D.out.qm) (by decide);obtain⟨bK,b8,bQ⟩:=ad.boxed;have ar:=OY (ax.out.saveT ab (Px.own D.out.qm) (by decide));have aL:Hid (zd _ w5 w6):=ab;have aH:Hid (_∨_):=aw;have aI:Hid (World.ownsRow w6 lo 301 6 _ _ _):=ae;clear ab aw ae ad))
    have bO:kI wd V' ⟨.slice n vt c,K,X,L⟩=[.int .i64 vp,.slice n vt c,.int .i64 wd,.pointer (some ⟨K,0,none⟩),.pointer (some ⟨X,0,none⟩),.pointer (some ⟨L,0,none⟩)]:=by simp[kI,bE.out,pt]
    have Z:=D.out.pushV (V:=V') (p:=⟨.slice n vt c,K,X,L⟩) (by rw[aJ.out];exact bn.out.1) (by rw[bO];exact aI.out) aL.out aH.out;rw[←bH.out] at Z;exact⟨⟨m+1,by omega,by go_num,_,_,_,Z,ar.out.set_ne aB _ _⟩,by simp[intOf];omega⟩
  ·obtain rfl:m=r.qc.length:=by omega
   have bp:vs.take r.qc.length=vs:=by rw[←aK.out];exact uO
   rw[bp] at x;clear bp;obtain⟨y,t,S⟩:=zq x.out.qm;dsimp only at S;subst S;obtain⟨aO,bL,b7⟩:=x.out.rbox.boxed;dsimp only at aO;go_upto_region 11 with fail
   clear aO bL b7 hm ag;have cg:=OY ak;clear ah ak;generalize bA:wr=w5 at *;clear bA;go_loopw [45] (fun b9 wr=>∃m:Nat,m<=r.qp.length/\b9=.int .i64 m/\∃aD A,Hid (qW lo w wr own ownk k wd t5 w.heap.size r ⟨.slice o r.head.qg.length d,.slice u r.qc.length j,.slice s r.qp.length f,.slice y vs.length t,aD,am,A⟩ vs)/\Hid (OZ wr t4 z8.toArray 292)/\Hid (A.length=m)/\Hid (gy Q.tbs R.rows.length r A)/\Hid (∀b,aD.ownBlock=some b->w.heap.size<=b)) (fun i _=>r.qp.length-(intOf i).toNat)
   case atStart=>exact⟨0,zv _,rfl,_,[],x,P,rfl,fun i _ h2=>by simp at h2,fun b J=>by cases J⟩
   case round=>
    clear x P;obtain⟨m,hm,rfl,aD,A,x,P,a1,bc,aV⟩:=hrel;have ah:=x.out.mod.size;have ak:=zT aE.out ah;obtain⟨G,B,a2⟩:=zq x.out.qp;dsimp only at a2;subst a2;by_cases ag:m<r.qp.length
    ·obtain⟨g,n,c,aF,hg,q0,q1,aU⟩:=x.out.rule.qp.cell m ag;subst aF;have aa:=OY (HH.out.make x.out.mod);have W:=bB.out _ (zu ag);have au:r.qp[m].pred<Q.tbs.length:=by rw[aa.out.tlen];exact W.1
     have a6:=OY fun F J=>Cg F ownk rb R wd mr mx Q _ (aa.out.below J) W.1 au;have b3:Hid (gy Q.tbs R.rows.length r (A++[Q.tbs[r.qp[m].pred]])):=fun i h1 h2=>by
      by_cases hi:i<A.length
      ·have q:=bc.out i h1 hi;rw[uT hi];exact q
      ·obtain rfl:i=m:=by have:=a1.out;simp at h2;omega
       refine⟨W.2,W.1,au,?_⟩;rw[lK (by omega)];simp
     have a0:Below wr.heap.size wr (wr.alloc (.cells #[.int .i64 (r.qp[m].pred:Nat),.slice n r.qp[m].qg.length c] 204)):=(by go_grown);have C:=x.out.below a0;have H:OZ (wr.alloc (.cells #[.int .i64 (r.qp[m].pred:Nat),.slice n r.qp[m].qg.length c] 204)) t5 #[.int .i64 r.qh,.int .i64 r.vars,.int .i64 r.head.pred,.slice o r.head.qg.length d,.slice u r.qc.length j,.slice (some ⟨g,0,none⟩) r.qp.length f,.slice y vs.length t,.slice G A.length B] 292:=C.box;obtain⟨aM,a9,aA⟩:=H.boxed;have U:=C.qp;dsimp only at U;have D:=OY C;have ax:=OY (P.out.below a0);have bU:=OY a0;have bg:(m:Int)<(r.qp.length:Int):=by omega
     have cj:A.length<=1000:=by rw[a1.out];omega
     clear C H a0;generalize Q.tbs[r.qp[m].pred]=tb at *;generalize r.qp[m].pred=vp at *;generalize r.qp[m].qg.length=vt at *;generalize aX:A.length=nl at *;have ba:=OY aX;clear aX;go_upto_region 14 with (first|(go_at_call 205;refine(a6.out _ bU.out).mono ?_;rintro e w4 ⟨rfl,a7⟩;obtain rfl:=a7.symm))
     generalize wr.alloc (.cells #[.int .i64 vp,.slice n vt c] 204)=W5 at *;go_wp2_with (first|(at_builtin;refine d8 W5 _ [.pointer (some ⟨tb,0,none⟩)] _ rfl (.tmp 54) (.tmp 56) 150 rfl lo 162 i1 _ 1 8 underlying150 bC bv aS bf rfl (by decide) (.slice G nl B) nl (Pu A) rfl U (by exact(by go_grown)) _ _ rfl (by simp) rfl (by simp[Value.oneCell']) (by omega) (by omega) (by exact(zT D.out.low0 D.out.mod.size)) ?_;intro v' w6 ae ab aw;obtain⟨bd,aG,ai⟩:=zq ae;subst ai;have ad:OZ w6 t5 #[.int .i64 r.qh,.int .i64 r.vars,.int .i64 r.head.pred,.slice o r.head.qg.length d,.slice u r.qc.length j,.slice (some ⟨g,0,none⟩) r.qp.length f,.slice y vs.length t,.slice G nl B] 292:=D.out.box.saveT ab (Px.own D.out.qp) (by decide);obtain⟨bK,b8,bQ⟩:=ad.boxed;have ar:=OY (ax.out.saveT ab (Px.own D.out.qp) (by decide));have aL:Hid (zd _ W5 w6):=ab;have aH:Hid (_∨_):=aw;have aI:Hid (World.ownsRow w6 lo 162 1 _ _ _):=ae;clear ab aw ae ad))
     have Z:=D.out.pushN (tb:=tb) aV.out (by rw[ba.out];exact aI.out) aL.out;exact⟨⟨m+1,by omega,by go_num,_,_,Z,ar.out.set_ne aB _ _,show(A++[tb]).length=m+1 by simp[ba.out,a1.out],b3,fun b J=>by
      rcases aH.out with e|⟨g',e,ce⟩
      ·rw[e] at J;exact aV.out b J
      ·rw[e] at J;simp at J;have:=D.out.mod.size;omega⟩,by simp[intOf];omega⟩
    ·obtain rfl:m=r.qp.length:=by omega
     have H:OZ wr t5 #[.int .i64 r.qh,.int .i64 r.vars,.int .i64 r.head.pred,.slice o r.head.qg.length d,.slice u r.qc.length j,.slice s r.qp.length f,.slice y vs.length t,.slice G A.length B] 292:=x.out.box;obtain⟨aM,a9,aA⟩:=H.boxed;have a4:OZ wr t4 #[.int .i64 0,.int .i64 0,.int .i64 0,.slice none 0 0,.slice none 0 0,.slice none 0 0,.slice none 0 0,.slice none 0 0] 292:=P.out;obtain⟨bw,ca,cc⟩:=a4.boxed;have cf:t5≠t4:=fun e=>aB e.symm;clear H a4;go_wp2
     (try simp only[Exit.inBlock,Exit.then])
     have be:zd [t4] wr ((((((((wr.setCell ⟨t4,0,none⟩ (.int .i64 r.qh)).setCell ⟨t4,1,none⟩ (.int .i64 r.vars)).setCell ⟨t4,2,none⟩ (.int .i64 r.head.pred)).setCell ⟨t4,3,none⟩ (.slice o r.head.qg.length d)).setCell ⟨t4,4,none⟩ (.slice u r.qc.length j)).setCell ⟨t4,5,none⟩ (.slice s r.qp.length f)).setCell ⟨t4,6,none⟩ (.slice y vs.length t)).setCell ⟨t4,7,none⟩ (.slice G A.length B)):=zd.sets t4 [.int .i64 r.qh,.int .i64 r.vars,.int .i64 r.head.pred,.slice o r.head.qg.length d,.slice u r.qc.length j,.slice s r.qp.length f,.slice y vs.length t,.slice G A.length B] 0 wr;have hd:=x.out.done P.out (by omega) be a1.out (by rw[aK.out];exact b2);have HD:Hid (_/\_):=hd;clear hd be;refine zJ (v:=.agg #[.int .i64 r.qh,.int .i64 r.vars,.int .i64 r.head.pred,.slice o r.head.qg.length d,.slice u r.qc.length j,.slice s r.qp.length f,.slice y vs.length t,.slice G A.length B]) ?_ rfl ⟨⟨.slice o r.head.qg.length d,.slice u r.qc.length j,.slice s r.qp.length f,.slice y vs.length t,.slice G A.length B,am,A⟩,ownk,rfl,HD.out.1,bc.out,HD.out.2⟩;clear HD aM a9 aA;simp[results,results192,go_sem,bw]
end
section
open Go.Proofs.Tryz
variable {lo:Nat}{Ws:List yb}{Ps:List yU}
theorem OU:(prog.info? 292).map (fun i=>(i.zero,i.size,i.bytes))=some (some (.agg #[.int .i64 0,.int .i64 0,.int .i64 0,.slice none 0 0,.slice none 0 0,.slice none 0 0,.slice none 0 0,.slice none 0 0]),8,144):=by kernel_rfl
theorem l0{t:TypeId}(h:PU t)(a:t∉[214,161,165,310,323,301]):∀ρ,¬uG t ρ:=fun ρ q=>by
 rcases q with q|q
 ·exact q.1 h
 ·exact a q
theorem qd.mod{d:Nat}{ok:TypeId->zn->Prop}{w e:World}{own c:Nat->zn}{v:Value}{rs:List zr}{ps:List (Value×Value×Value)}(h:qd d w v rs ps)(m:Pe lo ok w own e c)(g:∀ρ,¬ok 284 ρ)(f:∀ρ,¬ok 204 ρ)(i:∀ρ,¬ok 207 ρ):qd d e v rs ps:=⟨vd h.own m i,h.len,fun k a b=>(h.rule k a b).mod m g f,h.few⟩
theorem uj.make{w e:World}{own c:Nat->zn}{wd:Nat}{d:Value}(h:uj lo w own wd d Ws Ps)(m:Pe lo (ff Ws.length) w own e c):uj lo e c wd d Ws Ps:=
 ⟨vd h.arr m (mN (by decide) (by decide)),h.plen,fun k a b=>(h.work k a b).mod m (mN (by decide) (by decide)) (mN (by decide) (by decide)) (e9 (by omega) (by omega)) (mN (by decide) (by decide)) (fun i j t f q=>by
  rcases q with q|⟨rfl,_⟩
  ·exact nB (by omega) q
  ·exact f (by decide)),h.few⟩
theorem MH(Ws:List yb)(Ps:List yU)(h:Ps.length=Ws.length)(W:yb)(P:yU):kV (Ws++[W]) (Ps++[P])=kV Ws Ps++qR W.rule P:=by
 simp[kV,List.zipWith_append h.symm]
theorem uj.push{w f:World}{own:Nat->zn}{wd:Nat}{l v':Value}{W:yb}{P:yU}(h:uj lo w own wd l Ws Ps)(r:ug lo w own Ws.length wd W P)(x:Ws.length+1<=1000)(p:f.ownsRow lo 292 8 v' (Ws.length+1) (kV Ws Ps++qR W.rule P))(v:zd l.ownBlock.toList w f):uj lo f own wd v' (Ws++[W]) (Ps++[P])/\Pe lo (gd [292]) w own f own:=by
 have m:Pe lo (gd [292]) w own f own:=Pe.ofSave own v fun b s=>by
  have d:l.ownBlock=some b:=by simpa using s
  obtain⟨c,y⟩:=qr h.arr d;exact⟨yW h.arr d,yO h.arr d,c,_,y,ud.2 rfl⟩
 have g:∀t,t∉[292]->∀ρ,¬gd [292] t ρ:=fun t i ρ q=>i q;have n:=fun k W P (q:ug lo w own k wd W P)=>q.mod m (g _ (by decide)) (g _ (by decide)) (g _ (by decide) _) (g _ (by decide)) (fun _ _ t i q=>by rw[ud.1 q] at i;exact i (by decide));refine⟨⟨?_,by simp[h.plen],fun k a b=>?_,by simpa using x⟩,m⟩
 ·rw[MH Ws Ps h.plen,yz];exact p
 ·simp only[yz,yZ,jH] at a b;by_cases j:k<Ws.length
  ·have e:k<Ps.length:=by rw[h.plen];exact j
   rw[uT j,uT e];exact n _ _ _ (h.work k j e)
  ·obtain rfl:k=Ws.length:=by omega
   have o:(Ws++[W])[Ws.length]=W:=by simp
   have u:(Ps++[P])[Ws.length]=P:=by simp[←h.plen]
   rw[o,u];exact n _ _ _ r
theorem ko.push{c:List Nat}{n:Nat}(h:ko c n Ws Ps)(f:Ps.length=Ws.length){W:yb}{P:yU}(i:gy c n W.rule P.nbs):ko c n (Ws++[W]) (Ps++[P]):=by
 intro k a b;simp only[yz,yZ,jH] at a b;by_cases e:k<Ws.length
 ·have d:k<Ps.length:=by rw[f];exact e
  rw[uT e,uT d];exact h k e d
 ·obtain rfl:k=Ws.length:=by omega
  have g:(Ws++[W])[Ws.length]=W:=by simp
  have j:(Ps++[P])[Ws.length]=P:=by simp[←f]
  rw[g,j];exact i
def rZ(n:Nat)(rs:List zr):Prop:=∀r∈rs,(∀l∈r.qc,l.pred<n)/\∀l∈r.qp,l.pred<n/\l.pred≠r.head.pred
def EI(lo:Nat)(w:World)(own:Nat->zn)(f:Nat)(R:zx)(c:List yb)(wd mr mx:Nat)(Q:ua)(e:Ending)(b:World):Prop:=∃d a Ps,e=.returned d/\uj lo b a wd d c Ps/\ko Q.tbs R.rows.length c Ps/\zU lo b a f R wd mr mx Q/\Pe lo uG w own b a
theorem FD(w:World)(own:Nat->zn)(rb s:Nat)(R:zx)(rv:Value)(rs:List zr)(ps:List (Value×Value×Value))(X:List yb)(wd mr mx:Nat)(Q:ua)(j:Nat)(h:zU lo w own rb R wd mr mx Q)(hr:qd lo w rv rs ps)(a1:lo<=w.heap.size)(u:rZ R.rows.length rs)(hv:PA j wd R s rs=some X):
  Calls prog 164 #[.pointer (some ⟨rb,0,none⟩),rv,.int .i64 s] w fun e w'=>EI lo w own rb R X wd mr mx Q e w':=by
 obtain⟨i0,hi,aH,aF,aR⟩:=info_parts OU;have HH:=OY h;have aP:=OY hr;have aG:=OY a1;have aC:=OY u;have a0:Hid (PA j wd R s (rs.drop 0)=some X):=hv;have be:=hr.few;obtain⟨bc,aX,aD⟩:=zq hr.own;subst aD;clear h hr a1 u hv;go_enter func164,ntmps164;go_upto_region 3 with fail
 go_loopw [7,13] (fun v7 aK wr=>∃m:Nat,m<=rs.length/\aK=.int .i64 m/\∃l rest c Ps,Hid (uj lo wr c wd v7 l Ps)/\Hid (ko Q.tbs R.rows.length l Ps)/\Hid (zU lo wr c rb R wd mr mx Q)/\Hid (Pe lo uG w own wr c)/\Hid (PA j wd R s (rs.drop m)=some rest)/\Hid (l++rest=X)/\Hid (l.length<=m)/\Hid (∀b,v7.ownBlock=some b->w.heap.size<=b)) (fun _ i _=>rs.length-(intOf i).toNat)
 case atStart=>exact⟨0,zv _,rfl,[],X,own,[],⟨yK _ _ _ _,rfl,fun k a=>by simp at a,by simp⟩,(fun k a=>by simp at a),HH,Pe.refl _ _,a0,rfl,zh _,fun b z=>by cases z⟩
 case round=>
  clear a0;obtain⟨m,hm,rfl,l,rest,c,Ps,V,am,Y,M,a5,ab,ai,ag⟩:=hrel;have az:=M.out.size;have aa:=zT aG.out az;obtain⟨aJ,a9,aM⟩:=zq V.out.arr;subst aM;by_cases S:m<rs.length
  ·have al:=OY (aP.out.mod M.out (l0 (by decide) (by decide)) (l0 (by decide) (by decide)) (l0 (by decide) (by decide)));have a6:m<ps.length:=by rw[al.out.len];exact S
   obtain⟨g,aI,hg,q0,q1,q2,q3,q4,q5⟩:=al.out.cell m S a6;subst aI;have p:=al.out.rule m S a6;obtain⟨ar,B,aj⟩:=p.head.qw;obtain⟨aq,N,ap⟩:=p.qc.qw;obtain⟨ad,F,an⟩:=p.qp.qw;rw[aj] at q3;rw[ap] at q4;rw[an] at q5;rw[aj,ap,an] at p;have d:=a5.out;rw[xg S] at d;unfold PA at d;have aW:(m:Int)<(rs.length:Int):=by omega
   have u:=aC.out _ (zu S);clear aj ap an;generalize rs[m]=r at *;by_cases af:r.qh=s
   ·rw[zb af] at d;subst af;obtain⟨vs,n,a3,Z,I⟩:∃vs n,li j wd R r.qc=some vs/\PA j wd R r.qh (rs.drop (m+1))=some n/\rest=⟨r,vs⟩::n:=by
     split at d
     ·rename_i vs n h1 h2;exact⟨vs,n,h1,h2,by simpa using d.symm⟩
     ·cases d
    have ak:=OY Z;have aN:Hid ((l++[⟨r,vs⟩])++n=X):=show(l++[⟨r,vs⟩])++n=X by rw[←ab.out,I];simp
    have aB:Hid (∀W0,Below wr.heap.size wr W0->Calls prog 192 #[.pointer (some ⟨rb,0,none⟩),.agg #[.int .i64 r.qh,.int .i64 r.vars,.int .i64 r.head.pred,.slice ar r.head.qg.length B,.slice aq r.qc.length N,.slice ad r.qp.length F]] W0 fun e w'=>∃L E A G D U J C O T x o f,e=.returned (.agg #[.int .i64 r.qh,.int .i64 r.vars,.int .i64 r.head.pred,.slice L r.head.qg.length E,.slice A r.qc.length G,.slice D r.qp.length U,.slice J vs.length C,.slice O r.qp.length T])/\Hid (ug lo w' f l.length wd ⟨r,vs⟩ ⟨.slice L r.head.qg.length E,.slice A r.qc.length G,.slice D r.qp.length U,.slice J vs.length C,.slice O r.qp.length T,x,o⟩/\gy Q.tbs R.rows.length r o/\Pe lo (ff l.length) W0 c w' f)):=fun W0 z=>by
     refine(Gk W0 c rb l.length R r _ _ _ vs wd mr mx Q j (Y.out.below z) (p.below z) (zT aa z.size) u.1 u.2 a3).mono ?_;rintro e w' ⟨⟨tv,pv,nv,vv,bf,x,o⟩,f,rfl,v,aL,aQ⟩;obtain⟨L,E,e1⟩:=v.rule.head.qw;obtain⟨A,G,e2⟩:=v.rule.qc.qw;obtain⟨D,U,e3⟩:=v.rule.qp.qw;obtain⟨J,C,e4⟩:=zq v.qm;obtain⟨O,T,e5⟩:=zq v.qp;dsimp only at e1 e2 e3 e4 e5;subst e1 e2 e3 e4 e5;exact⟨L,E,A,G,D,U,J,C,O,T,x,o,f,rfl,v,aL,aQ⟩
    have K:Below wr.heap.size wr (wr.alloc (.cells #[.int .i64 r.qh,.int .i64 r.vars,.int .i64 r.head.pred,.slice ar r.head.qg.length B,.slice aq r.qc.length N,.slice ad r.qp.length F] 207)):=(by go_grown);have y:=OY K;have aY:l.length<=999:=by have:=ai.out;omega
    clear d p K u I Z a3;go_upto_region 7 with (first|(go_at_call 192;refine(aB.out _ y.out).mono ?_;rintro e w5 ⟨L,E,A,G,D,U,J,C,O,T,x,o,f,rfl,HX⟩))
    have ae:Below w5.heap.size w5 (w5.alloc (.cells #[.int .i64 r.qh,.int .i64 r.vars,.int .i64 r.head.pred,.slice L r.head.qg.length E,.slice A r.qc.length G,.slice D r.qp.length U,.slice J vs.length C,.slice O r.qp.length T] 292)):=(by go_grown);have aw:=OZ.new w5 #[.int .i64 r.qh,.int .i64 r.vars,.int .i64 r.head.pred,.slice L r.head.qg.length E,.slice A r.qc.length G,.slice D r.qp.length U,.slice J vs.length C,.slice O r.qp.length T] 292;have ax:=(Pe.of c y.out).trans HX.out.2.2;have H:=OY (ax.trans (Pe.of f ae));have aT:=OY (HX.out.1.mod (Pe.of (ok:=fun _ _=>False) f ae) (fun _=>id) (fun _=>id) id (fun _=>id) (fun _ _ _ _=>id));clear ax ae;obtain⟨bb,bi,aZ⟩:=aw.boxed;generalize aE:w5.alloc (.cells #[.int .i64 r.qh,.int .i64 r.vars,.int .i64 r.head.pred,.slice L r.head.qg.length E,.slice A r.qc.length G,.slice D r.qp.length U,.slice J vs.length C,.slice O r.qp.length T] 292)=W6 at *;clear aE aw;have ah:=OY (V.out.make H.out);have ao:=ah.out.arr;generalize w5.heap.size=bd at *;have aU:=zT aa H.out.size;go_wp2_with (first|(at_builtin;refine d8 W6 _ [.int .i64 r.qh,.int .i64 r.vars,.int .i64 r.head.pred,.slice L r.head.qg.length E,.slice A r.qc.length G,.slice D r.qp.length U,.slice J vs.length C,.slice O r.qp.length T] _ rfl (.tmp 24) (.tmp 26) 265 rfl lo 292 i0 _ 8 144 underlying265 hi aH aF aR rfl (by decide) (.slice aJ l.length a9) l.length (kV l Ps) rfl ao (by exact(by go_grown)) _ _ rfl (by simp) rfl (by simp[Value.oneCell']) (by omega) (by omega) (by omega) ?_;intro v' w7 ac av a8;obtain⟨aV,aO,a2⟩:=zq ac;subst a2;have a4:Hid (zd _ W6 w7):=av;have aA:Hid (_∨_):=a8;have aS:Hid (World.ownsRow w7 lo 292 8 _ _ _):=ac;clear av a8 ac))
    have a7:=ah.out.push (W:=⟨r,vs⟩) (P:=⟨.slice L r.head.qg.length E,.slice A r.qc.length G,.slice D r.qp.length U,.slice J vs.length C,.slice O r.qp.length T,x,o⟩) aT.out (by omega) aS.out a4.out;have ay:=(Y.out.make H.out).mod a7.2 (km (by decide)) (km (by decide)) (km (by decide)) (fun _=>km (by decide) _) (fun _ t ht q=>by rw[ud.1 q] at ht;exact ht (by decide));have au:=(M.out.trans (H.out.more fun _ _ q=>GJ q)).newer a4.out fun b z=>ag.out b (by simpa using z);have bg:=H.out.size;exact⟨⟨m+1,by omega,by go_num,l++[(⟨r,vs⟩:yb)],n,f,Ps++[(⟨.slice L r.head.qg.length E,.slice A r.qc.length G,.slice D r.qp.length U,.slice J vs.length C,.slice O r.qp.length T,x,o⟩:yU)],a7.1,am.out.push ah.out.plen HX.out.2.1,ay,au,ak,aN,show(l++[(⟨r,vs⟩:yb)]).length<=m+1 by have:=ai.out;simp;omega,fun b z=>by
     rcases aA.out with e|⟨g',e,ba⟩
     ·rw[e] at z;exact ag.out b z
     ·rw[e] at z;simp at z;omega⟩,by simp[intOf];omega⟩
   ·rw[za af] at d;have ak:=OY d;have bh:¬(r.qh:Int)=(s:Int):=by omega
    have K:Below wr.heap.size wr (wr.alloc (.cells #[.int .i64 r.qh,.int .i64 r.vars,.int .i64 r.head.pred,.slice ar r.head.qg.length B,.slice aq r.qc.length N,.slice ad r.qp.length F] 207)):=(by go_grown);have y:Hid (Below wr.heap.size wr _):=K;clear d p K u;go_wp2;exact⟨⟨m+1,by omega,by go_num,l,rest,c,Ps,V.out.below y.out,am,Y.out.below y.out,M.out.trans (Pe.of c y.out),ak,ab,Nat.le_succ_of_le ai.out,ag⟩,by simp[intOf];omega⟩
  ·obtain rfl:m=rs.length:=by omega
   have d:=a5.out;rw[List.drop_length] at d;simp only[PA,zs] at d;have HE:Hid (l=X):=show l=X by rw[←ab.out,←d];simp
   clear d;go_wp2;go_ret;exact⟨_,c,Ps,rfl,by rw[←HE.out];exact V.out,by rw[←HE.out];exact am.out,Y.out,M.out⟩
end
section
open Go.Proofs.Tryz
variable {lo:Nat}
def MV(lo:Nat)(w:World)(own:Nat->zn)(g:Nat)(R R':zx)(wd mr mx:Nat)(Q:ua)(b:Bool)(e:Ending)(f:World):Prop:=e=.returned (.bool b)/\∃a d c,zU lo f a g R' wd mr mx ⟨Q.rv,Q.tbs,d,c⟩/\R'.rows.length=R.rows.length/\Pe lo uG w own f a
theorem Lj(w:World)(own:Nat->zn)(J s:Nat)(R R':zx)(rv:Value)(rs:List zr)(ps:List (Value×Value×Value))(wd mr mx:Nat)(Q:ua)(d:Nat)(b:Bool)(h:zU lo w own J R wd mr mx Q)(hr:qd lo w rv rs ps)(E:lo<=w.heap.size)(U:rZ R.rows.length rs)(c:pp d wd mr mx rs R s=some (R',b)):
  Calls prog 122 #[.pointer (some ⟨J,0,none⟩),rv,.int .i64 s] w fun e w'=>MV lo w own J R R' wd mr mx Q b e w':=by
 unfold pp at c;cases v:PA d wd R s rs with
 |none=>rw[v] at c;cases c
 |some L=>
  rw[v] at c;have ad:=OY (FD w own J s R rv rs ps L wd mr mx Q d h hr E U v);have ag:=OY E;have an:=h.small;obtain⟨al,aj,ae⟩:=zq hr.own;subst ae;have N:Hid (if decide (0<L.length)=true then dI wd mr mx d true L R=some (R',b) else(R=R'/\true=b)):=by
   by_cases hz:L.length>0
   ·rw[Hid,zb (by simpa using hz)];simpa [hz] using c
   ·rw[Hid,za (by simpa using hz)];simpa [hz] using c
  clear h hr E U v c;go_enter func122,ntmps122;go_upto_region 4 with (first|(go_at_call 164;refine ad.out.mono ?_;rintro e w2 ⟨wv,W,Ps,rfl,H,O,V,P⟩;obtain⟨ah,ab,ai⟩:=zq H.arr;subst ai;have A:=OY H;have z:=OY O;have i:=OY V;have g:=OY P;clear H O V P))
  go_loopg [8,9] d (fun k v8 v9 wr=>∃(first more:Bool) (f:zx) (a:Nat->zn) (C:Value) (t:List Value) (D:List yb) (Pk:List yU),v8=.bool first/\v9=.bool more/\Hid (zU lo wr a J f wd mr mx ⟨Q.rv,Q.tbs,C,t⟩)/\Hid (uj lo wr a wd (.slice ah L.length ab) D Pk)/\Hid (ko Q.tbs R.rows.length D Pk)/\Hid (Pe lo uG w own wr a)/\Hid (f.rows.length=R.rows.length)/\Hid (if more=true then dI wd mr mx k first D f=some (R',b) else(f=R'/\true=b)))
  case atStart=>
   exact⟨true,decide (0<L.length),R,W,Q.fv,Q.fvs,L,Ps,rfl,rfl,i,A,z,g,rfl,N⟩
  case round=>
   clear A z i g N;obtain⟨first,more,f,a,C,t,D,Pk,rfl,rfl,i,A,z,g,o,N⟩:=hrel;cases more with
   |false=>
    have c:f=R'/\true=b:=by simpa using N.out
    have n:=OY c;clear c;go_wp2;go_ret;exact⟨by rw[←n.out.2];rfl,a,C,t,by rw[←n.out.1];exact i.out,by rw[←n.out.1];exact o.out,g.out⟩
   |true=>
    have c:dI wd mr mx gk first D f=some (R',b):=by simpa using N.out
    clear N;cases gk with
    |zero=>simp[dI] at c
    |succ m=>
     unfold dI at c;obtain⟨hl,hf,h0,h1,h2,h3,h4,h5,h6,h7⟩:=i.out.at;have Z:=zT ag.out g.out.size;clear h0 h3 h4 h5 h7;by_cases S:f.qx≥mx
     ·rw[zb S] at c;have n:=OY (show f=R'/\false=b by simpa using c);have ac:(mx:Int)<=(f.qx:Int):=by omega
      clear c;go_upto_region 5 with fail
      go_quiet (fail)
      have M:Below wr.heap.size wr (wr.drewN nq):=zI (zo _ _) nq;have G:=OY M;clear M;generalize wr.drewN nq=w3 at *;go_wp2;go_ret;exact⟨by rw[←n.out.2];rfl,a,C,t,by rw[←n.out.1];exact i.out.below G.out,by rw[←n.out.1];exact o.out,g.out.trans (Pe.of a G.out)⟩
     ·rw[za S] at c;have ac:¬(mx:Int)<=(f.qx:Int):=by omega
      cases u:ph m wd mr first D f with
      |none=>rw[u] at c;cases c
      |some x=>
       obtain⟨p,B,b3⟩:=x;rw[u] at c;have aa:=OY fun W0 hb=>HY W0 a J _ f p D B Pk wd mr mx _ m first b3 (i.out.below hb) (A.out.below hb) (by rw[o.out];exact z.out) (zT Z hb.size) (by omega) u
       clear u;have K:Hid ((b3=false->p=R'/\false=b)/\(b3=true->(if p.count>f.count then dI wd mr mx m false B p else some (p,true))=some (R',b))):=⟨fun e=>by subst e;simpa using c,fun e=>by subst e;exact c⟩;clear c;go_upto_region 5 with fail
       go_quiet (fail)
       have M:Below wr.heap.size wr (wr.drewN nq):=zI (zo _ _) nq;have x1:=zl M hl h1;have G:=OY M;have am:=xo hl M.size;clear M;generalize wr.drewN nq=w3 at *;clear h1 h2 h6 hf hl;cases b3 with
       |false=>
        have n:=OY (K.out.1 rfl);go_wp2_with (first|(go_at_call 165;refine(aa.out _ G.out).mono ?_;rintro e w4 ⟨rfl,j,y,l,X,r,T,Y,F,I⟩))
        go_ret;exact⟨by rw[←n.out.2];rfl,j,y,l,by rw[←n.out.1];exact r,by rw[←n.out.1];exact F.trans o.out,(g.out.trans (Pe.of a G.out)).trans I⟩
       |true=>
        have n:Hid (if decide (f.count<p.count)=true then dI wd mr mx m false B p=some (R',b) else(p=R'/\true=b)):=by
         have q:=K.out.2 rfl;by_cases hc:p.count>f.count
         ·rw[Hid,zb (by simpa using hc)];simpa [hc] using q
         ·rw[Hid,za (by simpa using hc)];simpa [hc] using q
        clear K;go_wp2_with (first|(go_at_call 165;refine(aa.out _ G.out).mono ?_;rintro e w4 ⟨rfl,j,y,l,X,r,T,Y,F,I⟩;obtain⟨ak,_,_,y1,_⟩:=r.at;have af:Hid (zU lo w4 j J p wd mr mx ⟨Q.rv,Q.tbs,y,l⟩):=r;clear r))
        go_roundg m
        case measure=>omega
        case rel=>exact⟨false,decide (f.count<p.count),p,j,y,l,B,X,rfl,by simp,af,T,by rw[←o.out];exact Y,(g.out.trans (Pe.of a G.out)).trans I,F.trans o.out,n⟩
end
end Go.Proofs.YteampbddflhngaaGreat
