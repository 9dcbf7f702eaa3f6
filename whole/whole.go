// Package whole has no code of its own: its tests hold all layers together against what the whole promises, and against the document's examples.
package whole
