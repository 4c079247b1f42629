package prop

import (
	"math"

	"polyglot/api"
	"polyglot/topic"
	"polyglot/ustring"
)

// The kinds as bits, so that a rule can name several.
const (
	connect     = 1 << api.Connect
	connack     = 1 << api.Connack
	publish     = 1 << api.Publish
	puback      = 1 << api.Puback
	pubrec      = 1 << api.Pubrec
	pubrel      = 1 << api.Pubrel
	pubcomp     = 1 << api.Pubcomp
	subscribe   = 1 << api.Subscribe
	suback      = 1 << api.Suback
	unsubscribe = 1 << api.Unsubscribe
	unsuback    = 1 << api.Unsuback
	disconnect  = 1 << api.Disconnect
	auth        = 1 << api.Auth
	will        = 1 << api.WillKind

	acks = puback | pubrec | pubrel | pubcomp
	subs = subscribe | suback | unsubscribe | unsuback
)

// rule says of the properties with an ID what shape their values have, which kinds may have them, and the least N.
type rule struct {
	shape int
	kinds uint32
	least uint32
}

// rules returns the rules by their IDs. An ID that is not there has the zero rule: no shape, and no kind that may have it.
func rules() map[int]rule {
	return map[int]rule{
		api.PropFormat:       {shape: api.ShapeOne, kinds: publish | will},
		api.PropExpiry:       {shape: api.ShapeFour, kinds: publish | will},
		api.PropContent:      {shape: api.ShapeText, kinds: publish | will},
		api.PropResponse:     {shape: api.ShapeText, kinds: publish | will},
		api.PropCorrelation:  {shape: api.ShapeBinary, kinds: publish | will},
		api.PropSubscription: {shape: api.ShapeVar, kinds: publish | subscribe, least: 1},
		api.PropSession:      {shape: api.ShapeFour, kinds: connect | connack | disconnect},
		api.PropClient:       {shape: api.ShapeText, kinds: connack},
		api.PropAlive:        {shape: api.ShapeTwo, kinds: connack},
		api.PropMethod:       {shape: api.ShapeText, kinds: connect | connack | auth},
		api.PropData:         {shape: api.ShapeBinary, kinds: connect | connack | auth},
		api.PropProblem:      {shape: api.ShapeOne, kinds: connect},
		api.PropDelay:        {shape: api.ShapeFour, kinds: will},
		api.PropAskInfo:      {shape: api.ShapeOne, kinds: connect},
		api.PropInfo:         {shape: api.ShapeText, kinds: connack},
		api.PropServer:       {shape: api.ShapeText, kinds: connack | disconnect},
		api.PropReason:       {shape: api.ShapeText, kinds: connack | acks | suback | unsuback | disconnect | auth},
		api.PropReceive:      {shape: api.ShapeTwo, kinds: connect | connack, least: 1},
		api.PropAliases:      {shape: api.ShapeTwo, kinds: connect | connack},
		api.PropAlias:        {shape: api.ShapeTwo, kinds: publish, least: 1},
		api.PropQoS:          {shape: api.ShapeOne, kinds: connack},
		api.PropRetain:       {shape: api.ShapeOne, kinds: connack},
		api.PropUser:         {shape: api.ShapePair, kinds: connect | connack | publish | acks | subs | disconnect | auth | will},
		api.PropPacket:       {shape: api.ShapeFour, kinds: connect | connack, least: 1},
		api.PropWild:         {shape: api.ShapeOne, kinds: connack},
		api.PropSubIDs:       {shape: api.ShapeOne, kinds: connack},
		api.PropShared:       {shape: api.ShapeOne, kinds: connack},
	}
}

// Shape returns the shape of the values of the properties with that ID.
func Shape(id int) int {
	return rules()[id].shape
}

// May returns whether the kind may have the property.
func May(kind, id int) bool {
	return rules()[id].may(kind)
}

// may takes any number as a kind: one below zero becomes a great one, which has no bit either, where a shift by it would panic.
func (r rule) may(kind int) bool {
	return r.kinds>>uint(kind)&1 != 0
}

// Many returns whether the kind may have the property repeatedly.
func Many(kind, id int) bool {
	return May(kind, id) && repeats(kind, id)
}

// repeats is for a property that the kind may have.
func repeats(kind, id int) bool {
	return id == api.PropUser || id == api.PropSubscription && kind == api.Publish
}

// Check returns what is wrong with a property of that kind.
func Check(kind int, p api.Prop) api.Errno {
	return rules()[p.ID].check(kind, p)
}

func (r rule) check(kind int, p api.Prop) api.Errno {
	switch {
	case !r.may(kind):
		return api.ErrProp
	case extra(r.shape, p):
		return api.ErrArg
	case p.N < r.least || p.N > most(r.shape):
		return api.ErrProp
	case r.shape == api.ShapeBinary:
		return checkBinary(p.Text)
	}
	return checkTexts(p)
}

// extra returns whether a field is set that the shape does not use.
func extra(shape int, p api.Prop) bool {
	switch shape {
	case api.ShapeText, api.ShapeBinary:
		return p.N != 0 || p.Value != ""
	case api.ShapePair:
		return p.N != 0
	}
	return p.Text != "" || p.Value != ""
}

// most returns the greatest N of a shape.
func most(shape int) uint32 {
	switch shape {
	case api.ShapeOne: // all of these say no or yes
		return 1
	case api.ShapeTwo:
		return math.MaxUint16
	case api.ShapeVar:
		return api.MostVar
	}
	return math.MaxUint32
}

func checkBinary(data string) api.Errno {
	if len(data) > api.MostText {
		return api.ErrArg
	}
	return api.OK
}

// checkTexts looks at both strings whatever the shape: those that it does not use are empty, which is valid.
func checkTexts(p api.Prop) api.Errno {
	if !ustring.Valid(p.Text) || !ustring.Valid(p.Value) {
		return api.ErrText
	}
	if p.ID == api.PropResponse && !topic.Name(p.Text) {
		return api.ErrProp
	}
	return api.OK
}
