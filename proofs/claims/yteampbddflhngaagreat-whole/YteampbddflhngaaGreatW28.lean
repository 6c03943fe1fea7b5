import Derived.Test.YteampbddflhngaaGreatW27
import Derived.Test.YteampbddflhngaaGreatW04
import Derived.Test.YteampbddflhngaaGreatW14
import Derived.Test.YteampbddflhngaaGreatW16

namespace Go.Proofs.YteampbddflhngaaGreat
open Go.RowKit
variable {lo:Nat}
variable {w:World}{v:Value}{o:Option (List Int)}
def zhp(w:World)(v:Value)(o:Option (List Int)):Prop:=match o with
 |none=>v=.slice none 0 0
 |some l=>∃ g f cap,v=.slice (some ⟨g,f,none⟩) l.length cap/\g < w.heap.size/\∀ k (h:k < l.length),w.cell? ⟨g,f+k,none⟩=some (.int .i64 l[k])
theorem zhp.below{w':World}(h:zhp w v o)(hb:Below w.heap.size w w'):zhp w' v o:=by
 cases o with
 |none=>exact h
 |some l =>
  obtain⟨g,f,cap,h1,h2,h3⟩:=h
  exact⟨g,f,cap,h1,by have:=hb.size;omega,fun k hk=>(hb.cell (p:=⟨g,f+k,none⟩) h2).trans (h3 k hk)⟩
theorem zhp.shape(h:zhp w v o):∃ ao cap,v=.slice ao (o.getD []).length cap:=by
 cases o with
 |none=>exact⟨none,0,h⟩
 |some l=>obtain⟨g,f,cap,h1,_⟩:=h;exact⟨_,cap,h1⟩
theorem zhp.cell{w:World}{ao:Option Addr}{n cap:Nat}{o:Option (List Int)}(h:zhp w (.slice ao n cap) o)(k:Nat)(hk:k < (o.getD []).length):∃ g f,ao=some ⟨g,f,none⟩/\g < w.heap.size/\w.cell? ⟨g,f+k,none⟩=some (.int .i64 (o.getD [])[k]):=by
 cases o with
 |none=>simp at hk
 |some l =>
  obtain⟨g,f,cap,h1,h2,h3⟩:=h
  simp only[Value.slice.injEq] at h1
  exact⟨g,f,h1.1,h2,h3 k hk⟩
def zhq(w:World)(v:Value)(os:Option (List (Option (List Int)))):Prop:=match os with
 |none=>v=.slice none 0 0
 |some l=>∃ g f cap,v=.slice (some ⟨g,f,none⟩) l.length cap/\g < w.heap.size/\∀ k (h:k < l.length),∃ u,w.cell? ⟨g,f+k,none⟩=some u/\zhp w u l[k]
theorem zhq.below{w w':World}{v:Value}{os:Option (List (Option (List Int)))}(h:zhq w v os)(hb:Below w.heap.size w w'):zhq w' v os:=by
 cases os with
 |none=>exact h
 |some l =>
  obtain⟨g,f,cap,h1,h2,h3⟩:=h
  refine⟨g,f,cap,h1,by have:=hb.size;omega,fun k hk=>?_⟩
  obtain⟨u,h4,h5⟩:=h3 k hk
  exact⟨u,(hb.cell (p:=⟨g,f+k,none⟩) h2).trans h4,h5.below hb⟩
theorem zhq.shape{os:Option (List (Option (List Int)))}(h:zhq w v os):∃ ao cap,v=.slice ao (os.getD []).length cap:=by
 cases os with
 |none=>exact⟨none,0,h⟩
 |some l=>obtain⟨g,f,cap,h1,_⟩:=h;exact⟨_,cap,h1⟩
theorem zhq.cell{w:World}{ao:Option Addr}{n cap:Nat}{os:Option (List (Option (List Int)))}(h:zhq w (.slice ao n cap) os)(k:Nat)(hk:k < (os.getD []).length):∃ g f u,ao=some ⟨g,f,none⟩/\g < w.heap.size/\w.cell? ⟨g,f+k,none⟩=some u/\zhp w u (os.getD [])[k]:=by
 cases os with
 |none=>simp at hk
 |some l =>
  obtain⟨g,f,cap,h1,h2,h3⟩:=h
  simp only[Value.slice.injEq] at h1
  obtain⟨u,h4,h5⟩:=h3 k hk
  exact⟨g,f,u,h1.1,h2,h4,h5⟩
end Go.Proofs.YteampbddflhngaaGreat
namespace Go.Proofs.YteampbddflhngaaGreat
set_option maxRecDepth 100000
set_option maxHeartbeats 4000000
open Go.RowKit
variable {lo:Nat}
def zbj(pl:List Nat)(x:Int × Nat):List Nat:=if 0<=x.1/\x.1 < 5 then pl.set x.1.toNat x.2 else pl
def za6(os:List Int):List Nat:=os.zipIdx.foldl zbj [0,1,2,3,4]
theorem zr1(pl:List Nat)(x:Int × Nat):(zbj pl x).length=pl.length:=by unfold zbj;split <;> simp
theorem zkm(os:List Int):(za6 os).length=5:=by
 have:∀(l:List (Int × Nat)) (pl:List Nat),(l.foldl zbj pl).length=pl.length:=by
  intro l
  induction l with
  |nil=>intro pl;rfl
  |cons x l ih=>intro pl;rw[uax,ih,zr1]
 exact this _ _
theorem zsa{os:List Int}{k:Nat}(hk:k < os.length):(os.take (k+1)).zipIdx.foldl zbj [0,1,2,3,4]=zbj ((os.take k).zipIdx.foldl zbj [0,1,2,3,4]) (os[k],k):=by
 rw[uae hk,List.zipIdx_append,ubj]
 simp only[List.zipIdx_singleton,ua2,ubl,uax,List.foldl_nil]
 rw[ubv (by omega)]
def ze8(nv:Value)(pl:List Nat):List Value:=nv::pl.map ivN
theorem zo1(nv:Value)(pl:List Nat)(k x:Nat):(ze8 nv pl).toArray.setIfInBounds (1+k) (.int .i64 (x:Nat))=(ze8 nv (pl.set k x)).toArray:=by
 rw[Nat.add_comm]
 simp[ze8,List.map_set,ivN]
def zk2(k:Nat):List Nat:=(List.range 5).map fun i=>if i < k then i else 0
theorem zzc(k:Nat)(hk:k < 5):(zk2 k).set k k=zk2 (k+1):=by
 obtain rfl|rfl|rfl|rfl|rfl:k=0∨k=1∨k=2∨k=3∨k=4:=by omega
 all_goals rfl
theorem z3y{w:World}{sb:Nat}{nv:Value}{pl:List Nat}(hl:pl.length=5)(h:Box w sb (ze8 nv pl).toArray 257):sb < w.heap.size/\(∀ o,w.frozen? ⟨sb,o,none⟩=false)/\∀ k,k < 5->∃ x:Nat,w.cell? ⟨sb,1+k,none⟩=some (.int .i64 (x:Nat)):=by
 obtain⟨hc,hf⟩:=h.rules
 refine⟨h.lt,hf,fun k hk=>⟨pl[k]'(by omega),?_⟩⟩
 rw[hc,Nat.add_comm]
 simp[ze8,hl,hk,ivN]
def zsh(w:World)(vs:List ByteArray)(pl:List Nat)(e:Ending)(w':World):Prop:=∃ nv,e=.returned (.agg (ze8 nv pl).toArray)/\SIn w.heap.size w' nv vs/\Below w.heap.size w w'
theorem zwr(w:World)(c:zab)(va vb ov:Value)(o:Option (List Int))(hs:SIn lo w va c.head.args)(hb:LIn lo w vb c.body)(hl:c.head.args.length+zcd c.body<=1000)(hl2:c.body.length<=1000)(ho:zhp w ov o)(hol:(o.getD []).length<=1000) :
  Calls Tryz.prog 158 #[.agg #[.bool c.head.neg,.string c.head.pred,va,vb],ov] w fun e w'=>zsh w (zaf c) (za6 (o.getD [])) e w':=by
 obtain⟨ao,cap,rfl⟩:=hs.shape
 obtain⟨aob,capb,rfl⟩:=hb.shape
 obtain⟨aoo,capo,rfl⟩:=ho.shape
 have HP:Hid (∀ W,Below w.heap.size w W->Calls Tryz.prog 148 #[.agg #[.bool c.head.neg,.string c.head.pred,.slice ao c.head.args.length cap,.slice aob c.body.length capb]] W fun e w'=>∃ nv,e=.returned (.agg #[nv])/\w'.ownsRow W.heap.size 9 1 nv (zaf c).length ((zaf c).map Value.string)/\Below W.heap.size W w'):=fun W hW=>zow W c _ _ (hs.below hW) (hb.below hW) hl hl2
 have HO:Hid (zhp w (.slice aoo (o.getD []).length capo) o):=ho
 clear hs hb hl hl2 ho
 go_enter Tryz.func158,Tryz.ntmps158
 go_upto_region 2 with (first|(go_at_call 148;refine(HP.out _ (by exact(by go_grown))).mono ?_;rintro e w1 ⟨nv,rfl,hown,hb1⟩;obtain⟨ao4,cap4,rfl⟩:=zac hown))
 have hB1:Below w.heap.size w w1:=zae (by go_grown) hb1 (uaa _)
 have hz1:=hB1.size
 have hs1:SIn w.heap.size w1 (.slice ao4 (zaf c).length cap4) (zaf c):=zbf hown (by simp;omega)
 have hr1:=(Box.new (w.alloc (.cells #[.bool c.head.neg,.string c.head.pred,.slice ao c.head.args.length cap,.slice aob c.body.length capb] 171)) #[.slice none 0 0,.int .i64 0,.int .i64 0,.int .i64 0,.int .i64 0,.int .i64 0] 257).below hb1
 rw[World.size_alloc] at hr1
 have hne:w.heap.size+1 < w1.heap.size:=hr1.lt
 have hbs:=Box.new w1 (ze8 (.slice ao4 (zaf c).length cap4) (zk2 0)).toArray 257
 have hgr:Below w1.heap.size w1 (w1.alloc (.cells (ze8 (.slice ao4 (zaf c).length cap4) (zk2 0)).toArray 257)):=(by go_grown)
 have hs2:=hs1.below hgr
 have hr2:=hr1.below hgr
 have hB2:=zae hB1 hgr (uaa _)
 rw[show(ze8 (.slice ao4 (zaf c).length cap4) (zk2 0)).toArray=#[.slice ao4 (zaf c).length cap4,.int .i64 0,.int .i64 0,.int .i64 0,.int .i64 0,.int .i64 0] from rfl] at hs2 hr2 hB2
 rw[show(w1.alloc (.cells (ze8 (.slice ao4 (zaf c).length cap4) (zk2 0)).toArray 257))=(w1.alloc (.cells #[.slice ao4 (zaf c).length cap4,.int .i64 0,.int .i64 0,.int .i64 0,.int .i64 0,.int .i64 0] 257)) from rfl] at hbs
 clear hown hb1 hr1 hs1 HP hgr
 generalize hvs:zaf c=vs at *
 have HVS:Hid (zaf c=vs):=hvs
 clear hvs
 generalize hnv:Value.slice ao4 vs.length cap4=nv at *
 generalize w1.alloc (.cells #[nv,.int .i64 0,.int .i64 0,.int .i64 0,.int .i64 0,.int .i64 0] 257)=w2 at *
 generalize w1.heap.size=sb at *
 clear hB1 w1
 have HNV:Hid (Value.slice ao4 vs.length cap4=nv):=hnv
 clear hnv
 go_wp2
 go_loopw [12] (fun v12 wr=>∃ k:Nat,k<=5/\v12=.int .i64 k/\Box wr sb (ze8 nv (zk2 k)).toArray 257/\Box wr (w.heap.size+1) #[.slice none 0 0,.int .i64 0,.int .i64 0,.int .i64 0,.int .i64 0,.int .i64 0] 257/\SIn w.heap.size wr nv vs/\Below w.heap.size w wr) (fun i _=>5 - (intOf i).toNat)
 case atStart=>exact⟨0,by omega,rfl,hbs,hr2,hs2,hB2⟩
 case round =>
  clear hbs hr2 hs2 hB2
  obtain⟨k,hk,rfl,hbs,hr2,hs2,hB2⟩:=hrel
  have hsz:=hB2.size
  by_cases hlt:k < 5
  ·have hlt2:(k:Int) < 5:=by omega
   obtain⟨hsl,hsf,hsc⟩:=z3y (by simp[zk2]) hbs
   obtain⟨x,hx⟩:=hsc k hlt
   have hset:=hbs.set (1+k) (.int .i64 (k:Nat))
   rw[zo1,zzc k hlt] at hset
   clear hsc
   go_wp2
   go_roundw
   case rel=>exact⟨k+1,by omega,by go_num,hset,hr2.set_ne (by omega) _ _,zb9 hs2 ((But.refl _ _).setCell _ _) hbs (by decide),hB2.setCell (by simp;omega) _⟩
   case measure=>simp[intOf];omega
  ·obtain rfl:k=5:=by omega
   clear hk hlt
   have HF:Hid (zk2 5=((o.getD []).take 0).zipIdx.foldl zbj [0,1,2,3,4]):=rfl
   rw[HF.out] at hbs
   clear HF
   go_wp2
   go_loopw [22] (fun v22 wr=>∃ k:Nat,k<=(o.getD []).length/\v22=.int .i64 k/\Box wr sb (ze8 nv (((o.getD []).take k).zipIdx.foldl zbj [0,1,2,3,4])).toArray 257/\Box wr (w.heap.size+1) #[.slice none 0 0,.int .i64 0,.int .i64 0,.int .i64 0,.int .i64 0,.int .i64 0] 257/\SIn w.heap.size wr nv vs/\Below w.heap.size w wr) (fun i _=>(o.getD []).length - (intOf i).toNat)
   case atStart=>exact⟨0,by omega,rfl,hbs,hr2,hs2,hB2⟩
   case round =>
    clear hbs hr2 hs2 hB2 hsz
    obtain⟨k,hk,rfl,hbs,hr2,hs2,hB2⟩:=hrel
    have hsz:=hB2.size
    have hl5:(((o.getD []).take k).zipIdx.foldl zbj [0,1,2,3,4]).length=5:=zkm _
    by_cases hlt:k < (o.getD []).length
    ·obtain⟨g,f,rfl,hg,hc⟩:=HO.out.cell k hlt
     have hx0:=(hB2.cell (p:=⟨g,f+k,none⟩) hg).trans hc
     have hgr:g < wr.heap.size:=by omega
     have HST:Hid (((o.getD []).take (k+1)).zipIdx.foldl zbj [0,1,2,3,4]=zbj (((o.getD []).take k).zipIdx.foldl zbj [0,1,2,3,4]) ((o.getD [])[k],k)):=zsa hlt
     clear hc
     generalize (o.getD [])[k]=x at *
     generalize ((o.getD []).take k).zipIdx.foldl zbj [0,1,2,3,4]=pl at *
     by_cases hin:0<=x/\x < 5
     ·obtain⟨n,rfl⟩:=Int.eq_ofNat_of_zero_le hin.1
      have hn2:=hin.2
      have hn:n < 5:=by omega
      obtain⟨hsl,hsf,hsc⟩:=z3y hl5 hbs
      obtain⟨y,hy⟩:=hsc n hn
      have hset:=hbs.set (1+n) (.int .i64 (k:Nat))
      rw[zo1] at hset
      have HST2:Hid (((o.getD []).take (k+1)).zipIdx.foldl zbj [0,1,2,3,4]=pl.set n k):=by rw[Hid,HST.out,zbj,if_pos hin];rfl
      clear hsc HST hin
      go_wp2
      go_roundw
      case rel=>exact⟨k+1,by omega,by go_num,by rw[HST2.out];exact hset,hr2.set_ne (by omega) _ _,zb9 hs2 ((But.refl _ _).setCell _ _) hbs (by decide),hB2.setCell (by simp;omega) _⟩
      case measure=>simp[intOf];omega
     ·have HST2:Hid (((o.getD []).take (k+1)).zipIdx.foldl zbj [0,1,2,3,4]=pl):=by rw[Hid,HST.out,zbj,if_neg hin]
      clear HST
      rcases Int.lt_or_le x 0 with h0|h0
      ·clear hin
       go_wp2
       exact⟨⟨_,_,_,⟨k+1,by omega,by go_num,by rw[HST2.out];exact hbs⟩,rfl,rfl,rfl⟩,by simp[intOf];omega⟩
      ·have h5:5<=x:=by omega
       clear hin
       go_wp2
       go_roundw
       case rel=>exact⟨k+1,by omega,by go_num,by rw[HST2.out];exact hbs,hr2,hs2,hB2⟩
       case measure=>simp[intOf];omega
    ·have HPL:Hid (((o.getD []).take k).zipIdx.foldl zbj [0,1,2,3,4]=za6 (o.getD [])):=by rw[Hid,uam (by omega)];rfl
     rw[HPL.out] at hbs
     have H5:=zkm (o.getD [])
     generalize hpl:za6 (o.getD [])=pl at *
     obtain⟨p0,p1,p2,p3,p4,rfl⟩:=five H5
     have HPE:Hid (za6 (o.getD [])=[p0,p1,p2,p3,p4]):=hpl
     clear hpl
     rw[show(ze8 nv [p0,p1,p2,p3,p4]).toArray=#[nv,.int .i64 (p0:Nat),.int .i64 (p1:Nat),.int .i64 (p2:Nat),.int .i64 (p3:Nat),.int .i64 (p4:Nat)] from rfl] at hbs
     obtain⟨hsc,hsf⟩:=hbs.rules
     have hsl:=hbs.lt
     obtain⟨hrc,hrf⟩:=hr2.rules
     have hrl:=hr2.lt
     have hnv:=HNV.out
     subst hnv
     clear hl5 H5 HPL
     go_wp2
     (try simp only[Exit.inBlock,Exit.then])
     refine bodyPost_ret (v:=.agg (ze8 (.slice ao4 vs.length cap4) [p0,p1,p2,p3,p4]).toArray) (by simp[results,Tryz.results158,go_sem,hrc,ze8,ivN]) rfl ⟨_,by rw[HPE.out],?_,?_⟩
     ·rw[HVS.out]
      exact zb9 hs2 (by repeat'(first|(with_reducible exact But.refl _ _)|(with_reducible assumption)|(with_reducible refine But.drewN ?_ _)|(with_reducible refine But.alloc ?_ _)|(with_reducible refine But.drew ?_)|(with_reducible refine But.setCell ?_ _ _)|(with_reducible refine But.setNew ?_ ?_ _)|go_size)) hr2 (by decide)
     ·exact(((((hB2.setCell (by simp) _).setCell (by simp) _).setCell (by simp) _).setCell (by simp) _).setCell (by simp) _).setCell (by simp) _
def zd2(os:Option (List (Option (List Int))))(k:Nat):Option (List Int):=(os.getD []).getD k none
theorem zwd(w:World)(ov:Value)(os:Option (List (Option (List Int))))(k:Nat)(h:zhq w ov os)(_hl:(os.getD []).length<=2000000) :
  Calls Tryz.prog 116 #[ov,.int .i64 k] w fun e w'=>∃ u,e=.returned u/\zhp w u (zd2 os k)/\w'=w:=by
 obtain⟨ao,cap,rfl⟩:=h.shape
 by_cases hk:k < (os.getD []).length
 ·obtain⟨g,f,u,rfl,hg,hc,hu⟩:=h.cell k hk
  have HE:Hid (zd2 os k=(os.getD [])[k]):=by simp[Hid,zd2,hk]
  have HU:Hid (zhp w u (os.getD [])[k]):=hu
  have hkk:(k:Int) < ((os.getD []).length:Int):=by omega
  obtain⟨aou,capu,rfl⟩:=hu.shape
  clear h hu
  go_enter Tryz.func116,Tryz.ntmps116
  go_wp2
  go_ret
  exact⟨_,rfl,by rw[HE.out];exact HU.out,rfl⟩
 ·have HE:Hid (zd2 os k=none):=by simp[Hid,zd2,List.getD_eq_getElem?_getD,List.getElem?_eq_none (Nat.not_lt.1 hk)]
  have hkk:((os.getD []).length:Int)<=(k:Int):=by omega
  clear h
  go_enter Tryz.func116,Tryz.ntmps116
  go_wp2
  go_ret
  exact⟨_,rfl,by rw[HE.out];rfl,rfl⟩
set_option maxHeartbeats 2000000
def ziw(t:List zar)(ns:List ByteArray)(c:zab):zim:=⟨zbd t c.head.pred,zct (zdf t ns [] [0,0,0,0,0] c.head) [0,0,0,0,0]⟩
def z8i(f:zim):Value:=.agg #[.int .i64 (f.pred:Nat),.int .i64 (f.row.getD 0 0:Nat),.int .i64 (f.row.getD 1 0:Nat),.int .i64 (f.row.getD 2 0:Nat)]
theorem z5p{lo2:Nat}(w:World)(mb tb o cb:Nat)(t:List zar)(ns:List ByteArray)(c:zab)(va vb:Value)(h:zil lo w mb tb o cb t ns)(hs:SIn lo2 w va c.head.args)(hb:LIn lo2 w vb c.body)(hal:c.head.args.length<=1000) :
  Calls Tryz.prog 118 #[.pointer (some ⟨mb,0,none⟩),.agg #[.bool c.head.neg,.string c.head.pred,va,vb]] w fun e w'=>e=.returned (z8i (ziw t ns c))/\Below w.heap.size w w':=by
 obtain⟨ao,cap,rfl⟩:=hs.shape
 obtain⟨aob,capb,rfl⟩:=hb.shape
 have HL:Hid (∀ W sb,Below w.heap.size w W->zfs 0 W sb [] [0,0,0,0,0]->Calls Tryz.prog 160 #[.pointer (some ⟨mb,0,none⟩),.agg #[.bool c.head.neg,.string c.head.pred,.slice ao c.head.args.length cap],.pointer (some ⟨sb,0,none⟩)] W fun e w'=>∃ tv,e=.returned (.agg #[.int .i64 (zbd t c.head.pred:Nat),tv])/\zaq W.heap.size w' tv (zdf t ns [] [0,0,0,0,0] c.head).qf/\Below W.heap.size W w'):=fun W sb hW hsc=>z2v W mb tb o cb sb t ns [] [0,0,0,0,0] c.head _ (h.below hW) hsc (by simp) (by simp) (hs.below hW) hal
 have HR:Hid (∀ W v (b0:Nat),zaq b0 W v (zdf t ns [] [0,0,0,0,0] c.head).qf->Calls Tryz.prog 161 #[.agg #[.int .i64 (zbd t c.head.pred:Nat),v],z4j 0 0 0 0 0] W fun r w'=>r=.returned (.agg #[.int .i64 (((ziw t ns c).row.getD 0 0:Nat):Int),.int .i64 (((ziw t ns c).row.getD 1 0:Nat):Int),.int .i64 (((ziw t ns c).row.getD 2 0:Nat):Int)])/\Below W.heap.size W w'):=fun W v b0 hT=>zwp W v (zbd t c.head.pred) _ 0 0 0 0 0 hT
 have HE:Hid (z8i (ziw t ns c)=.agg #[.int .i64 (zbd t c.head.pred:Nat),.int .i64 ((ziw t ns c).row.getD 0 0:Nat),.int .i64 ((ziw t ns c).row.getD 1 0:Nat),.int .i64 ((ziw t ns c).row.getD 2 0:Nat)]):=rfl
 clear h hs hb
 have hsc:=Box.new ((w.alloc (.cells #[.bool c.head.neg,.string c.head.pred,.slice ao c.head.args.length cap,.slice aob c.body.length capb] 171)).alloc (.cells #[.int .i64 0,.int .i64 0,.int .i64 0,.int .i64 0] 210)) #[.slice none 0 0,.int .i64 0,.int .i64 0,.int .i64 0,.int .i64 0,.int .i64 0] 257
 have hrf:=(Box.new (w.alloc (.cells #[.bool c.head.neg,.string c.head.pred,.slice ao c.head.args.length cap,.slice aob c.body.length capb] 171)) #[.int .i64 0,.int .i64 0,.int .i64 0,.int .i64 0] 210).below ((Below.refl _ _).alloc (uaa _) (.cells #[.slice none 0 0,.int .i64 0,.int .i64 0,.int .i64 0,.int .i64 0,.int .i64 0] 257))
 simp only[World.size_alloc] at hsc hrf
 generalize (ziw t ns c).row.getD 0 0=x at *
 generalize (ziw t ns c).row.getD 1 0=y at *
 generalize (ziw t ns c).row.getD 2 0=z at *
 generalize (zdf t ns [] [0,0,0,0,0] c.head).qf=ts at *
 generalize zbd t c.head.pred=fp at *
 go_enter Tryz.func118,Tryz.ntmps118
 go_upto_region 3 with (first|(go_at_call 160;refine(HL.out _ _ (by exact(by go_grown)) (by exact⟨_,0,0,0,0,0,rfl,hsc,SIn.nil _⟩)).mono ?_;rintro e w1 ⟨tv,rfl,hT,hb1⟩;obtain⟨ao4,cap4,rfl⟩:=hT.shape))
 have hB1:Below w.heap.size w w1:=zae (by go_grown) hb1 (uaa _)
 have hr1:=hrf.below hb1
 clear hsc hrf HL
 have hne:w.heap.size+1 < w1.heap.size:=hr1.lt
 have hgr:Below w1.heap.size w1 (w1.alloc (.cells #[.int .i64 (fp:Nat),.slice ao4 ts.length cap4] 204)):=(by go_grown)
 have hl2:=Box.new w1 #[.int .i64 (fp:Nat),.slice ao4 ts.length cap4] 204
 have hr2:=hr1.below hgr
 have HT2:Hid (zaq _ _ _ ts):=hT.below hgr
 have hB2:=zae hB1 hgr (uaa _)
 clear hT hr1 hb1 hgr
 generalize w1.alloc (.cells #[.int .i64 (fp:Nat),.slice ao4 ts.length cap4] 204)=w2 at *
 generalize w1.heap.size=lb at *
 clear hB1 w1
 obtain⟨hl2c,hl2f⟩:=hl2.rules
 have hl2l:=hl2.lt
 have hz2:=hB2.size
 go_region_held3 (fun w'=>w'.cell? ⟨lb,0,none⟩=some (.int .i64 (fp:Nat))/\w'.cell? ⟨lb,1,none⟩=some (.slice ao4 ts.length cap4)) (first|go_keep|(go_simp;done)) (first|(go_at_call 161;refine(HR.out _ _ _ (by exact HT2.out.below (by go_grown))).mono ?_;rintro e w3 ⟨rfl,hb3⟩;have hB3:Below w2.heap.size w2 w3:=(zae (by go_grown) hb3 (uaa _));have hl3:=hl2.below hB3;have hr3:=hr2.below hB3;obtain⟨hl3c,hl3f⟩:=hl3.rules;obtain⟨hr3c,hr3f⟩:=hr3.rules;have hr3l:=hr3.lt))
 all_goals
  go_wp2
  (try simp only[Exit.inBlock,Exit.then])
  exact bodyPost_ret (v:=.agg #[.int .i64 (fp:Nat),.int .i64 (x:Nat),.int .i64 (y:Nat),.int .i64 (z:Nat)]) (by simp[results,Tryz.results118,go_sem,hr3c]) rfl ⟨by rw[HE.out],((((zae hB2 hB3 (uaa _)).setCell (by simp) _).setCell (by simp) _).setCell (by simp) _).setCell (by simp) _⟩
end Go.Proofs.YteampbddflhngaaGreat
